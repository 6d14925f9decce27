/- Walks over package object's readers: readObject of other bytes; NewReader. -/
/- Walks over package object: valid, Read. -/
/- The plain side: what is valid fits its bytes. -/
/- The plain side: what the document's Parse takes out of bytes, and that it takes an object's parts out of an object's bytes. -/
/- The plain side: what is valid fits its bytes; what the document's Parse answers, and what Read answers. -/
/- Walks over the document's answer: names, what a relocation covers, numbers as bytes. -/
/- Walks over the document's answer: sections. -/
/- Walks over the document's answer: isSymbol. -/
/- Walks over the document's answer: instructions, the small parts. -/
import Derived.Test.YtogbomihnhfaiaaDoorG02
import Derived.Test.YtogbomihnhfaiaaDoorG06
import Derived.Test.YtogbomihnhfaiaaDoorG04
import Derived.BigRegion
import Derived.Test.YtogbomihnhfaiaaDoorG05
namespace Go.Proofs.YtogbomihnhfaiaaDoor
open Go.RowKit

set_option maxHeartbeats 1000000 in
theorem readObject_no (b : Nat) (s : ByteArray) (p : Nat) (sh : Bool) (w : World) (h : RdAt w b s p sh)
    (hs : s.size ≤ 1048576) (hp : p ≤ s.size) (hmark : (Lk.rdText (sl s) 2 (p, sh)).1 ≠ [76, 75]) :
    Calls Tryd.prog 33 #[.pointer (some ⟨b, 0, none⟩)] w fun e w' => e = .returned (.pointer none) ∧ w.grownBy w' (some b) := by
  have c0 := fun W h => text_lit b s p 2 2 rfl sh W h hs hp (by omega)
  generalize Lk.rdText (sl s) 2 (p, sh) = x0 at *
  obtain ⟨mk, p0, s0⟩ := x0
  simp only at hmark c0
  replace c0 := hid c0
  have H := hid h
  clear h
  have ht : ((bs mk).toList == [76, 75]) = false := by rw [toList_bs]; simpa using hmark
  clear hmark
  go_enter Tryd.func33, Tryd.ntmps33
  go_wp2_with fail
  refine (c0.out w H.out).mono ?_
  rintro e W0 ⟨rfl, r0, q0⟩
  replace r0 := hid r0
  replace q0 := hid q0
  go_wp2
  go_ret
  exact ⟨rfl, q0.out⟩

set_option maxHeartbeats 400000 in
theorem newReader_any (s : ByteArray) (w : World) :
    Calls Tryd.prog 32 #[.string s] w fun e w' => e = .returned (.agg #[.string s, .int .i64 0, .bool false]) ∧ w.grownBy w' none := by
  go_enter Tryd.func32, Tryd.ntmps32
  go_wp2
  have B := BlkAt.new w #[.string s, .int .i64 0, .bool false] 68
  have e0 := B.cell 0
  have e1 := B.cell 1
  have e2 := B.cell 2
  have G := World.grownBy_alloc w (.cells #[.string s, .int .i64 0, .bool false] 68) none
  refine bodyPost_ret (v := .agg #[.string s, .int .i64 0, .bool false]) ?_ rfl ⟨rfl, G⟩
  simp [results, Tryd.results32, go_sem]

end Go.Proofs.YtogbomihnhfaiaaDoor

namespace Go.Proofs.YtogbomihnhfaiaaDoor
open Go.RowKit

def Valid (o : Lk.Obj) : Prop := Sizes o ∧ Borders o.align ∧ AllWords o ∧ SymsOk o ∧ RelsOk o

/-- an object whose numbers are such as reading gives -/
def Tame (o : Lk.Obj) : Prop := Small o ∧ (∀ y ∈ o.syms, y.name.length ≤ 255) ∧ ∀ r ∈ o.rels, r.off ≤ 9223372036854775807

set_option maxHeartbeats 4000000 in
theorem valid_any (g : Nat) (o : Lk.Obj) (w : World) (ht : Tabs w) (h : ObjAt w g o) (hn : Tame o) :
    Calls Tryd.prog 25 #[.pointer (some ⟨g, 0, none⟩)] w fun e w' => Tells e (Valid o) ∧ w.grownBy w' none := by
  obtain ⟨at_, ct, af, cf, ad, cd, aa, ca, as_, cs, ar, cr, hb, h1, h2, h3, h4, h5, h6⟩ := h.open
  have k4 := hb.cell 4
  have c1 := hid (validSizes_any g o w h hn.1)
  have c2 := hid (validBorders_any aa ca o.align w (IntsIn.of_own h4) hn.1.2.2.2.1)
  have c3 := hid (validWords_any g o w h hn.1)
  have HO := hid h
  have HT := hid ht
  have HN := hid hn
  clear h ht hn hb h1 h2 h3 h4 h5 h6
  go_enter Tryd.func25, Tryd.ntmps25
  go_wp2_with fail
  refine c1.out.mono ?_
  rintro e w1 ⟨t, rfl⟩
  rcases t.split with ⟨rfl, p1⟩ | ⟨rfl, p1⟩ <;> clear t c1
  · go_wp2
    go_ret
    exact ⟨Tells.no (fun h => p1.out h.1), World.grownBy.refl _ _⟩
  go_wp2_with fail
  refine c2.out.mono ?_
  rintro e w2 ⟨t, rfl⟩
  rcases t.split with ⟨rfl, p2⟩ | ⟨rfl, p2⟩ <;> clear t c2
  · go_wp2
    go_ret
    exact ⟨Tells.no (fun h => p2.out h.2.1), World.grownBy.refl _ _⟩
  go_wp2_with fail
  refine c3.out.mono ?_
  rintro e w3 ⟨t, rfl⟩
  rcases t.split with ⟨rfl, p3⟩ | ⟨rfl, p3⟩ <;> clear t c3
  · go_wp2
    go_ret
    exact ⟨Tells.no (fun h => p3.out h.2.2.1), World.grownBy.refl _ _⟩
  have c4 := hid (validSymbols_any g o w3 HO.out HN.out.1 p1.out.2.1 HN.out.2.1)
  go_wp2_with fail
  refine c4.out.mono ?_
  rintro e w4 ⟨t, q4⟩
  have Q4 := hid q4
  rcases t.split with ⟨rfl, p4⟩ | ⟨rfl, p4⟩ <;> clear t c4 q4
  · go_wp2
    go_ret
    exact ⟨Tells.no (fun h => p4.out h.2.2.2.1), Q4.out⟩
  have c5 := hid (validRelocs_any g o w4 (HT.out.grown Q4.out) (HO.out.kept Q4.out) HN.out.1 p2.out p3.out HN.out.2.2)
  go_wp2_with fail
  refine c5.out.mono ?_
  rintro e w5 ⟨t, q5⟩
  have Q5 := hid (grown_trans Q4.out q5)
  rcases t.split with ⟨rfl, p5⟩ | ⟨rfl, p5⟩ <;> clear t c5 q5
  · go_wp2
    go_ret
    exact ⟨Tells.no (fun h => p5.out h.2.2.2.2), Q5.out⟩
  go_wp2
  go_ret
  exact ⟨Tells.yes ⟨p1.out, p2.out, p3.out, p4.out, p5.out⟩, Q5.out⟩

end Go.Proofs.YtogbomihnhfaiaaDoor

namespace Go.Proofs.YtogbomihnhfaiaaDoor
open Go.RowKit

theorem symB_length (y : Lk.Sym) : (Lk.symB y).length = 5 + y.name.length := by
  simp only [Lk.symB, List.length_append, Lk.le_length]
  omega
theorem relB_length (r : Lk.Rel) : (Lk.relB r).length = 7 := by
  simp only [Lk.relB, List.length_append, Lk.le_length]

theorem numsB_length (ys : List Int) (n : Nat) : (Lk.nums ys n).length = n * ys.length := by
  induction ys with
  | nil => rfl
  | cons y t ih => simp only [Lk.nums, List.flatMap_cons, List.length_append, Lk.le_length, List.length_cons, Nat.mul_add] at *; omega

theorem wordsOf_le {o : Lk.Obj} (h : Sizes o) (sect : Int) : (wordsOf o sect).length ≤ 1200 := by
  obtain ⟨⟨n1, n2, n3⟩, -⟩ := h
  unfold wordsOf
  split
  · exact n1
  split
  · exact n2
  split
  · omega
  · simp

theorem words_good {xs : List Int} (h : Words xs) : Lk.goodWords 4 xs := fun x hx => by
  obtain ⟨i, hi, rfl⟩ := List.getElem_of_mem hx
  have := h i hi
  simp only [Int.reducePow]
  omega

theorem valid_good {o : Lk.Obj} (h : Valid o) : Lk.goodObj o := by
  obtain ⟨hz, hb, hw, hs, hr⟩ := h
  have hz' := hz
  obtain ⟨⟨n1, n2, n3⟩, n4, n5, n6⟩ := hz
  refine ⟨by omega, by omega, by omega, by omega, hb.1, ?_, by omega, by omega, ?_, ?_, words_good hw.1, words_good hw.2.1, words_good hw.2.2⟩
  · intro x hx
    obtain ⟨i, hi, rfl⟩ := List.getElem_of_mem hx
    have := hb.2 i hi
    simp only [Int.reducePow]
    omega
  · intro y hy
    obtain ⟨i, hi, rfl⟩ := List.getElem_of_mem hy
    obtain ⟨⟨k1, k2, k3, -, k4, -, k5⟩, -⟩ := hs i hi
    have hl : (bs (o.syms[i]).name).size = (o.syms[i]).name.length := rfl
    have k6 := k1.2.1
    have hw := wordsOf_le hz' (o.syms[i]).sect
    refine ⟨by omega, by omega, by omega, by omega, ?_⟩
    unfold seclen at k5
    split at k5 <;> omega
  · intro r hr'
    obtain ⟨i, hi, rfl⟩ := List.getElem_of_mem hr'
    obtain ⟨⟨k1, k2, k3, -, k5, -, -⟩, -⟩ := hr i hi
    have hsp := span_range k2
    have hw := wordsOf_le hz' (o.rels[i]).sect
    unfold AboutOk at k5
    unfold KindOk at k1
    unfold SymIx at k3
    unfold AddendOk at k2
    refine ⟨by omega, by omega, by omega, ?_, ?_⟩
    · split at k3 <;> omega
    · split at k2
      · omega
      · split at k2 <;> omega

theorem flatB_le {α : Type} (f : α → List UInt8) (m : Nat) (xs : List α) (h : ∀ x ∈ xs, (f x).length ≤ m) : (xs.flatMap f).length ≤ m * xs.length := by
  induction xs with
  | nil => simp
  | cons x t ih =>
    have h1 := h x (by simp)
    have h2 := ih (fun y hy => h y (by simp [hy]))
    simp only [List.flatMap_cons, List.length_append, List.length_cons, Nat.mul_add]
    omega

theorem valid_short {o : Lk.Obj} (h : Valid o) : (Lk.objB o).length ≤ 65535 := by
  obtain ⟨hz, hb, hw, hs, hr⟩ := h
  obtain ⟨⟨n1, n2, n3⟩, n4, n5, n6⟩ := hz
  have e1 : (o.syms.flatMap Lk.symB).length ≤ 11 * o.syms.length := flatB_le _ _ _ fun y hy => by
    obtain ⟨i, hi, rfl⟩ := List.getElem_of_mem hy
    have k6 := (hs i hi).1.1.2.1
    have hl : (bs (o.syms[i]).name).size = (o.syms[i]).name.length := rfl
    rw [symB_length]
    omega
  have e2 : (o.rels.flatMap Lk.relB).length ≤ 7 * o.rels.length := flatB_le _ _ _ fun y _ => by rw [relB_length]; omega
  have e3 := numsB_length o.align 1
  have e4 := numsB_length o.text 4
  have e5 := numsB_length o.far 4
  have e6 := numsB_length o.data 4
  have := hb.1
  simp only [Lk.objB, List.length_append, Lk.le_length, List.length_cons, List.length_nil]
  omega

end Go.Proofs.YtogbomihnhfaiaaDoor

namespace Go.Proofs.YtogbomihnhfaiaaDoor
open Go.RowKit

theorem drop_on {l a rest : List UInt8} {p : Nat} (h : l.drop p = a ++ rest) : l.drop (p + a.length) = rest := by
  rw [← List.drop_drop, h, List.drop_left]

theorem atL_on {l rest : List UInt8} {v : Int} {p n : Nat} (h : l.drop p = Lk.le v n ++ rest) (h0 : 0 ≤ v) (h1 : v < (256 : Int) ^ n) : atL l p n = v := by
  induction n generalizing p v with
  | zero => simp [atL]; simp at h1; omega
  | succ n ih =>
    simp only [Lk.le, List.cons_append] at h
    have hlt : p < l.length := by
      have := congrArg List.length h
      simp at this
      omega
    have hg : l.getD p 0 = UInt8.ofNat (v % 256).toNat := by
      have h2 : (l.drop p)[0]? = some (UInt8.ofNat (v % 256).toNat) := by rw [h]; rfl
      rw [List.getElem?_drop] at h2
      rw [List.getD_eq_getElem?_getD]
      simp only [Nat.add_zero] at h2
      rw [h2]
      rfl
    have hd : l.drop (p + 1) = Lk.le (v / 256) n ++ rest := by
      rw [← List.drop_drop, h]
      rfl
    rw [Int.pow_succ] at h1
    have hi := ih hd (by omega) (by omega)
    simp only [atL, hi, hg]
    have hm : (UInt8.ofNat (v % 256).toNat).toNat = (v % 256).toNat := by
      rw [UInt8.toNat_ofNat']
      omega
    rw [hm]
    omega

theorem cutL_on {l x rest : List UInt8} {p : Nat} (h : l.drop p = x ++ rest) : cutL l p x.length = x := by
  unfold cutL
  rw [h, List.take_left]

theorem numsAt_on {l rest : List UInt8} {xs : List Int} {p : Nat} (h : l.drop p = Lk.nums xs 4 ++ rest) (hg : Lk.goodWords 4 xs) (k : Nat) (hk : k ≤ xs.length) : numsAt l p k = xs.take k := by
  induction k with
  | zero => rfl
  | succ k ih =>
    have hk' : k < xs.length := by omega
    rw [numsAt, ih (by omega), List.take_succ_eq_append_getElem hk']
    congr 2
    have hlen : ∀ ys : List Int, (Lk.nums ys 4).length = 4 * ys.length := by
      intro ys
      induction ys with
      | nil => rfl
      | cons y t ih => simp only [Lk.nums, List.flatMap_cons, List.length_append, Lk.le_length, List.length_cons] at *; omega
    have e : l.drop p = Lk.nums (xs.take k) 4 ++ (Lk.le xs[k] 4 ++ (Lk.nums (xs.drop (k + 1)) 4 ++ rest)) := by
      have e0 : xs = xs.take k ++ xs[k] :: xs.drop (k + 1) := by rw [← List.drop_eq_getElem_cons hk', List.take_append_drop]
      rw [h]
      refine (congrArg (fun z => Lk.nums z 4 ++ rest) e0).trans ?_
      simp only [Lk.nums, List.flatMap_append, List.flatMap_cons, List.append_assoc]
    have e2 := drop_on e
    rw [hlen, List.length_take, Nat.min_eq_left (by omega)] at e2
    exact atL_on e2 (hg _ (List.getElem_mem hk')).1 (hg _ (List.getElem_mem hk')).2

/-- a symbol that the bytes from p on say -/
def symAt (l : List UInt8) (p : Nat) : Lk.Sym :=
  ⟨cutL l (p + 1) (atL l p 1).toNat, atL l (p + 1 + (atL l p 1).toNat) 1, atL l (p + 2 + (atL l p 1).toNat) 1, atL l (p + 3 + (atL l p 1).toNat) 2⟩
/-- k symbols, and where they end -/
def symsRaw (l : List UInt8) : Nat → List Lk.Sym × Nat
  | 0 => ([], 16)
  | k + 1 => ((symsRaw l k).1 ++ [symAt l (symsRaw l k).2], (symsRaw l k).2 + 5 + (atL l (symsRaw l k).2 1).toNat)
/-- a relocation -/
def relAtL (l : List UInt8) (p : Nat) : Lk.Rel := ⟨atL l p 1, atL l (p + 2) 2, atL l (p + 1) 1, atL l (p + 4) 1, Lk.sgn (atL l (p + 5) 2)⟩
def relsRaw (l : List UInt8) (p : Nat) : Nat → List Lk.Rel
  | 0 => []
  | k + 1 => relsRaw l p k ++ [relAtL l (p + 7 * k)]
theorem symsRaw_length (l : List UInt8) (k : Nat) : (symsRaw l k).1.length = k := by
  induction k with
  | zero => rfl
  | succ k ih => simp [symsRaw, ih]
theorem relsRaw_length (l : List UInt8) (p k : Nat) : (relsRaw l p k).length = k := by
  induction k with
  | zero => rfl
  | succ k ih => simp [relsRaw, ih]
theorem symsRaw_pos (l : List UInt8) (k : Nat) : (symsRaw l k).2 ≤ 16 + 260 * k := by
  induction k with
  | zero => simp [symsRaw]
  | succ k ih =>
    have h := atL_range l (symsRaw l k).2 1
    simp only [symsRaw, Int.reducePow] at *
    omega
def rawObj (l : List UInt8) : Lk.Obj :=
  ⟨numsAt l ((symsRaw l (atL l 14 1).toNat).2 + 7 * (atL l 15 1).toNat) (min (atL l 2 2).toNat 1201),
   numsAt l ((symsRaw l (atL l 14 1).toNat).2 + 7 * (atL l 15 1).toNat + 4 * (atL l 2 2).toNat) (min (atL l 4 2).toNat 1201),
   numsAt l ((symsRaw l (atL l 14 1).toNat).2 + 7 * (atL l 15 1).toNat + 4 * (atL l 2 2).toNat + 4 * (atL l 4 2).toNat) (min (atL l 6 2).toNat 1201),
   atL l 8 2, [atL l 10 1, atL l 11 1, atL l 12 1, atL l 13 1], (symsRaw l (atL l 14 1).toNat).1, relsRaw l (symsRaw l (atL l 14 1).toNat).2 (atL l 15 1).toNat⟩

theorem symAt_on {l rest : List UInt8} {y : Lk.Sym} {p : Nat} (h : l.drop p = Lk.symB y ++ rest) (hy : Lk.goodSym y) : symAt l p = y ∧ (atL l p 1).toNat = y.name.length := by
  obtain ⟨nm, b, s, f⟩ := y
  obtain ⟨h1, h2, h3, h4⟩ := hy
  simp only at h1 h2 h3 h4
  simp only [Lk.symB, List.append_assoc] at h
  have a0 : atL l p 1 = (nm.length : Int) := atL_on h (by omega) (by simp; omega)
  have d1 := drop_on h
  rw [Lk.le_length] at d1
  have d2 := drop_on d1
  have d3 := drop_on d2
  rw [Lk.le_length] at d3
  have d4 := drop_on d3
  rw [Lk.le_length] at d4
  have e0 : (atL l p 1).toNat = nm.length := by rw [a0]; omega
  refine ⟨?_, e0⟩
  unfold symAt
  rw [e0]
  have a1 := cutL_on d1
  have a2 : atL l (p + 1 + nm.length) 1 = b := atL_on d2 h2.1 (by simpa using h2.2)
  have a3 : atL l (p + 2 + nm.length) 1 = s := by
    rw [show p + 2 + nm.length = p + 1 + nm.length + 1 from by omega]
    exact atL_on d3 h3.1 (by simpa using h3.2)
  have a4 : atL l (p + 3 + nm.length) 2 = f := by
    rw [show p + 3 + nm.length = p + 1 + nm.length + 1 + 1 from by omega]
    exact atL_on d4 h4.1 (by simpa using h4.2)
  rw [a1, a2, a3, a4]

theorem symsRaw_on {l rest : List UInt8} {ys : List Lk.Sym} (h : l.drop 16 = ys.flatMap Lk.symB ++ rest) (hg : ∀ y ∈ ys, Lk.goodSym y) (k : Nat) (hk : k ≤ ys.length) :
    symsRaw l k = (ys.take k, 16 + ((ys.take k).flatMap Lk.symB).length) := by
  induction k with
  | zero => rfl
  | succ k ih =>
    have hk' : k < ys.length := by omega
    have e : l.drop 16 = (ys.take k).flatMap Lk.symB ++ (Lk.symB ys[k] ++ ((ys.drop (k + 1)).flatMap Lk.symB ++ rest)) := by
      have e0 : ys = ys.take k ++ ys[k] :: ys.drop (k + 1) := by rw [← List.drop_eq_getElem_cons hk', List.take_append_drop]
      rw [h]
      refine (congrArg (fun z => List.flatMap Lk.symB z ++ rest) e0).trans ?_
      simp only [List.flatMap_append, List.flatMap_cons, List.append_assoc]
    have e2 := drop_on e
    obtain ⟨s1, s2⟩ := symAt_on e2 (hg _ (List.getElem_mem hk'))
    simp only [symsRaw, ih (by omega)]
    rw [s1, s2, List.take_succ_eq_append_getElem hk', List.flatMap_append, List.length_append]
    simp only [List.flatMap_cons, List.flatMap_nil, List.append_nil, symB_length]
    rw [Nat.add_assoc, Nat.add_assoc]

theorem relAtL_on {l rest : List UInt8} {r : Lk.Rel} {p : Nat} (h : l.drop p = Lk.relB r ++ rest) (hr : Lk.goodRel r) : relAtL l p = r := by
  obtain ⟨s, f, d, y, a⟩ := r
  obtain ⟨h1, h2, h3, h4, h5, h6⟩ := hr
  simp only at h1 h2 h3 h4 h5 h6
  simp only [Lk.relB, List.append_assoc] at h
  rw [← Lk.le_uns a] at h
  have d1 := drop_on h
  rw [Lk.le_length] at d1
  have d2 := drop_on d1
  rw [Lk.le_length] at d2
  have d3 := drop_on d2
  rw [Lk.le_length] at d3
  have d4 := drop_on d3
  rw [Lk.le_length] at d4
  have a0 : atL l p 1 = s := atL_on h h1.1 (by simpa using h1.2)
  have a1 : atL l (p + 1) 1 = d := atL_on d1 h2.1 (by simpa using h2.2)
  have a2 : atL l (p + 2) 2 = f := atL_on d2 h3.1 (by simpa using h3.2)
  have a3 : atL l (p + 4) 1 = y := atL_on d3 h4.1 (by simpa using h4.2)
  have a4 : atL l (p + 5) 2 = Lk.uns a := atL_on d4 (by unfold Lk.uns; split <;> omega) (by unfold Lk.uns; simp only [Int.reducePow]; split <;> omega)
  unfold relAtL
  rw [a0, a1, a2, a3, a4]
  congr 1
  unfold Lk.sgn Lk.uns
  split <;> split <;> omega

theorem relsRaw_on {l rest : List UInt8} {rs : List Lk.Rel} {p : Nat} (h : l.drop p = rs.flatMap Lk.relB ++ rest) (hg : ∀ r ∈ rs, Lk.goodRel r) (k : Nat) (hk : k ≤ rs.length) :
    relsRaw l p k = rs.take k := by
  induction k with
  | zero => rfl
  | succ k ih =>
    have hk' : k < rs.length := by omega
    have hlen : ∀ ys : List Lk.Rel, (ys.flatMap Lk.relB).length = 7 * ys.length := by
      intro ys
      induction ys with
      | nil => rfl
      | cons y t ih => simp only [List.flatMap_cons, List.length_append, relB_length, List.length_cons] at *; omega
    have e : l.drop p = (rs.take k).flatMap Lk.relB ++ (Lk.relB rs[k] ++ ((rs.drop (k + 1)).flatMap Lk.relB ++ rest)) := by
      have e0 : rs = rs.take k ++ rs[k] :: rs.drop (k + 1) := by rw [← List.drop_eq_getElem_cons hk', List.take_append_drop]
      rw [h]
      refine (congrArg (fun z => List.flatMap Lk.relB z ++ rest) e0).trans ?_
      simp only [List.flatMap_append, List.flatMap_cons, List.append_assoc]
    have e2 := drop_on e
    rw [hlen, List.length_take, Nat.min_eq_left (by omega)] at e2
    simp only [relsRaw, ih (by omega), List.take_succ_eq_append_getElem hk']
    rw [relAtL_on e2 (hg _ (List.getElem_mem hk'))]

theorem rels_length (rs : List Lk.Rel) : (rs.flatMap Lk.relB).length = 7 * rs.length := by
  induction rs with
  | nil => rfl
  | cons y t ih => simp only [List.flatMap_cons, List.length_append, relB_length, List.length_cons] at *; omega
theorem raw_back {o : Lk.Obj} (hg : Lk.goodObj o) (hz : o.text.length ≤ 1200 ∧ o.far.length ≤ 1200 ∧ o.data.length ≤ 1200) : rawObj (Lk.objB o) = o := by
  obtain ⟨g1, g2, g3, g4, g5, g6, g7, g8, g9, g10, g11, g12, g13⟩ := hg
  obtain ⟨tx, fx, dx, bss, al, ys, rs⟩ := o
  simp only at *
  obtain ⟨a, b, c, d, rfl⟩ : ∃ a b c d, al = [a, b, c, d] := by
    match al, g5 with
    | [a, b, c, d], _ => exact ⟨a, b, c, d, rfl⟩
  generalize hl : Lk.objB ⟨tx, fx, dx, bss, [a, b, c, d], ys, rs⟩ = l
  have h0 : l.drop 0 = [76, 75] ++ Lk.restB ⟨tx, fx, dx, bss, [a, b, c, d], ys, rs⟩ := by rw [← hl]; rfl
  simp only [Lk.restB] at h0
  have h2 := drop_on h0
  have h4 := drop_on h2
  rw [Lk.le_length] at h4
  have h6 := drop_on h4
  rw [Lk.le_length] at h6
  have h8 := drop_on h6
  rw [Lk.le_length] at h8
  have h10 := drop_on h8
  rw [Lk.le_length] at h10
  have hal : Lk.nums [a, b, c, d] 1 = Lk.le a 1 ++ (Lk.le b 1 ++ (Lk.le c 1 ++ Lk.le d 1)) := by simp only [Lk.nums, List.flatMap_cons, List.flatMap_nil, List.append_nil]
  rw [hal] at h10
  simp only [List.append_assoc] at h10
  have h11 := drop_on h10
  rw [Lk.le_length] at h11
  have h12 := drop_on h11
  rw [Lk.le_length] at h12
  have h13 := drop_on h12
  rw [Lk.le_length] at h13
  have h14 := drop_on h13
  rw [Lk.le_length] at h14
  have h15 := drop_on h14
  rw [Lk.le_length] at h15
  have h16 := drop_on h15
  rw [Lk.le_length] at h16
  have hs := drop_on h16
  have hr := drop_on hs
  have ht := drop_on hr
  have hf := drop_on ht
  simp only [List.length_cons, List.length_nil, Nat.zero_add, Nat.reduceAdd] at h2 h4 h6 h8 h10 h11 h12 h13 h14 h15 h16 hs hr ht hf
  have v2 : atL l 2 2 = (tx.length : Int) := atL_on h2 (by omega) (by simp; omega)
  have v4 : atL l 4 2 = (fx.length : Int) := atL_on h4 (by omega) (by simp; omega)
  have v6 : atL l 6 2 = (dx.length : Int) := atL_on h6 (by omega) (by simp; omega)
  have v8 : atL l 8 2 = bss := atL_on h8 g4.1 (by simpa using g4.2)
  have w1 := g6 a (by simp)
  have w2 := g6 b (by simp)
  have w3 := g6 c (by simp)
  have w4 := g6 d (by simp)
  have v10 : atL l 10 1 = a := atL_on h10 w1.1 w1.2
  have v11 : atL l 11 1 = b := atL_on h11 w2.1 w2.2
  have v12 : atL l 12 1 = c := atL_on h12 w3.1 w3.2
  have v13 : atL l 13 1 = d := atL_on h13 w4.1 w4.2
  have v14 : atL l 14 1 = (ys.length : Int) := atL_on h14 (by omega) (by simp; omega)
  have v15 : atL l 15 1 = (rs.length : Int) := atL_on h15 (by omega) (by simp; omega)
  have hlenR := rels_length rs
  have eS := symsRaw_on h16 g9 ys.length (Nat.le_refl _)
  rw [List.take_length] at eS
  unfold rawObj
  rw [v2, v4, v6, v8, v10, v11, v12, v13, v14, v15]
  simp only [Int.toNat_natCast, eS]
  rw [relsRaw_on hs g10 rs.length (Nat.le_refl _), List.take_length]
  rw [hlenR] at hr ht hf
  rw [numsB_length] at ht hf
  rw [numsB_length] at hf
  rw [Nat.min_eq_left (by omega), Nat.min_eq_left (by omega), Nat.min_eq_left (by omega)]
  rw [numsAt_on hr g11 tx.length (Nat.le_refl _), List.take_length, numsAt_on ht g12 fx.length (Nat.le_refl _), List.take_length]
  rw [numsAt_on (rest := []) (by rw [List.append_nil]; exact hf) g13 dx.length (Nat.le_refl _), List.take_length]

end Go.Proofs.YtogbomihnhfaiaaDoor

namespace Go.Proofs.YtogbomihnhfaiaaDoor
open Go.RowKit

/-- bytes that are an object's -/
def IsObj (l : List UInt8) : Prop := Valid (rawObj l) ∧ Lk.objB (rawObj l) = l

theorem isObj_of_read {l : List UInt8} {o : Lk.Obj} (h : Lk.readObj l = some o) (hv : Valid o) : IsObj l ∧ rawObj l = o := by
  obtain ⟨hg, rfl⟩ := (Lk.readObj_iff l o).1 h
  have hz := hv.1.1
  have e := raw_back hg ⟨hz.1, hz.2.1, by omega⟩
  unfold IsObj
  rw [e]
  exact ⟨⟨hv, rfl⟩, rfl⟩

theorem read_of_isObj {l : List UInt8} (h : IsObj l) : Lk.readObj l = some (rawObj l) := (Lk.readObj_iff l _).2 ⟨valid_good h.1, h.2.symm⟩

theorem isObj_short {l : List UInt8} (h : IsObj l) : l.length ≤ 65535 := by
  have := valid_short h.1
  rw [h.2] at this
  exact this

theorem not_isObj_of_read {l : List UInt8} (h : ∀ o, Lk.readObj l = some o → ¬ Valid o) : ¬ IsObj l := fun k => h _ (read_of_isObj k) k.1

end Go.Proofs.YtogbomihnhfaiaaDoor

namespace Go.Proofs.YtogbomihnhfaiaaDoor
open Go.RowKit

set_option maxHeartbeats 1000000 in
theorem covers_any (r : Lk.Rel) (w : World) (h : r.kind = 6 → r.addend = 4 ∨ r.addend = 12) :
    Calls Tryd.prog 53 #[relA r] w fun e w' => e = .returned (.int .i64 (spanI r)) ∧ w.grownBy w' none := by
  have G := hid (fun o : Obj => World.grownBy_alloc w o none)
  unfold relA spanI
  obtain ⟨sect, off, kind, sym, addend⟩ := r
  simp only at *
  by_cases e4 : kind = 4
  · subst e4
    go_enter Tryd.func53, Tryd.ntmps53
    go_wp2
    go_ret
    exact ⟨by simp, G.out _⟩
  by_cases e5 : kind = 5
  · subst e5
    clear e4
    go_enter Tryd.func53, Tryd.ntmps53
    go_wp2
    go_ret
    exact ⟨by simp, G.out _⟩
  by_cases e6 : kind = 6
  · subst e6
    have ha := h rfl
    clear e4 e5 h
    rcases ha with rfl | rfl
    all_goals
      go_enter Tryd.func53, Tryd.ntmps53
      go_wp2
      go_ret
      exact ⟨by simp, G.out _⟩
  have d4 : (kind == 4) = false := beq_eq_false_iff_ne.2 e4
  have d5 : (kind == 5) = false := beq_eq_false_iff_ne.2 e5
  have d6 : (kind == 6) = false := beq_eq_false_iff_ne.2 e6
  rw [if_neg (by omega), if_neg e6]
  clear e4 e5 e6 h
  go_enter Tryd.func53, Tryd.ntmps53
  go_wp2
  go_ret
  exact ⟨rfl, G.out _⟩

set_option maxHeartbeats 2000000 in
theorem name_any (s : ByteArray) (w : World) (hs : s.size ≤ 1048576) :
    Calls Tryd.prog 52 #[.string s] w fun e w' => Tells e (NameOk s) ∧ w' = w := by
  go_enter Tryd.func52, Tryd.ntmps52
  go_wp2
  go_loop [3] (fun i => ∃ k : Nat, k ≤ s.size ∧ i = .int .i64 k ∧ (∀ j (hj : j < s.size), j < k → Chr (s[j].toNat : Int)) ∧ ∀ h : 0 < s.size, 0 < k → ¬ (48 ≤ (s[0].toNat : Int) ∧ (s[0].toNat : Int) ≤ 57)) (fun i => s.size - (intOf i).toNat)
  case atStart => exact ⟨0, Nat.zero_le _, rfl, fun j _ hj => absurd hj (Nat.not_lt_zero j), fun _ h => absurd h (Nat.lt_irrefl _)⟩
  case round =>
    obtain ⟨k, hk, rfl, hall, hfst⟩ := hrel
    have HA := hid hall
    have HF := hid hfst
    clear hall hfst
    by_cases hlt : k < s.size
    · have hb : (0 : Int) ≤ (s[k].toNat : Int) := by omega
      rcases (show (s[k].toNat : Int) ≤ 47 ∨ (48 ≤ (s[k].toNat : Int) ∧ (s[k].toNat : Int) ≤ 57) ∨ (58 ≤ (s[k].toNat : Int) ∧ (s[k].toNat : Int) ≤ 94) ∨ (95 ≤ (s[k].toNat : Int) ∧ (s[k].toNat : Int) ≤ 95) ∨ (96 ≤ (s[k].toNat : Int) ∧ (s[k].toNat : Int) ≤ 96) ∨ (97 ≤ (s[k].toNat : Int) ∧ (s[k].toNat : Int) ≤ 122) ∨ 123 ≤ (s[k].toNat : Int) from by omega) with r | ⟨r1, r2⟩ | ⟨r1, r2⟩ | ⟨r1, r2⟩ | ⟨r1, r2⟩ | ⟨r1, r2⟩ | r
      · have N := hid (show ¬ NameOk s from fun h => by have := h.2.2.2 k hlt; unfold Chr at this; omega)
        go_wp2
        all_goals first | (go_ret; exact ⟨Tells.no N.out, rfl⟩) | (exfalso; rename_i hx; simp at hx; omega)
      · have HC := hid (show Chr (s[k].toNat : Int) from by unfold Chr; omega)
        by_cases hk0 : k = 0
        · subst hk0
          have N := hid (show ¬ NameOk s from fun h => h.2.2.1 hlt ⟨r1, r2⟩)
          go_wp2
          all_goals first | (go_ret; exact ⟨Tells.no N.out, rfl⟩) | (exfalso; rename_i hx; simp at hx; omega)
        · have hk1 : 1 ≤ k := by omega
          have dk : ((k : Int) == 0) = false := beq_eq_false_iff_ne.2 (by omega)
          clear hk0
          go_wp2
          all_goals go_round
          all_goals first
            | (case rel => exact ⟨k + 1, by omega, by go_num, fun j hj hjk => (Nat.lt_succ_iff_lt_or_eq.1 hjk).elim (fun h => HA.out j hj h) (fun h => by subst h; exact HC.out), fun h0 _ => HF.out h0 (by omega)⟩)
            | (case measure => simp [intOf]; omega)
      · have N := hid (show ¬ NameOk s from fun h => by have := h.2.2.2 k hlt; unfold Chr at this; omega)
        go_wp2
        all_goals first | (go_ret; exact ⟨Tells.no N.out, rfl⟩) | (exfalso; rename_i hx; simp at hx; omega)
      · have HC := hid (show Chr (s[k].toNat : Int) from by unfold Chr; omega)
        have HND := hid (show ¬ (48 ≤ (s[k].toNat : Int) ∧ (s[k].toNat : Int) ≤ 57) from by omega)
        go_wp2
        all_goals go_round
        all_goals first
          | (case rel => exact ⟨k + 1, by omega, by go_num, fun j hj hjk => (Nat.lt_succ_iff_lt_or_eq.1 hjk).elim (fun h => HA.out j hj h) (fun h => by subst h; exact HC.out), fun h0 _ => (Nat.eq_zero_or_pos k).elim (fun hk0 => by subst hk0; exact HND.out) (fun hk0 => HF.out h0 hk0)⟩)
          | (case measure => simp [intOf]; omega)
      · have N := hid (show ¬ NameOk s from fun h => by have := h.2.2.2 k hlt; unfold Chr at this; omega)
        go_wp2
        all_goals first | (go_ret; exact ⟨Tells.no N.out, rfl⟩) | (exfalso; rename_i hx; simp at hx; omega)
      · have HC := hid (show Chr (s[k].toNat : Int) from by unfold Chr; omega)
        have HND := hid (show ¬ (48 ≤ (s[k].toNat : Int) ∧ (s[k].toNat : Int) ≤ 57) from by omega)
        go_wp2
        all_goals go_round
        all_goals first
          | (case rel => exact ⟨k + 1, by omega, by go_num, fun j hj hjk => (Nat.lt_succ_iff_lt_or_eq.1 hjk).elim (fun h => HA.out j hj h) (fun h => by subst h; exact HC.out), fun h0 _ => (Nat.eq_zero_or_pos k).elim (fun hk0 => by subst hk0; exact HND.out) (fun hk0 => HF.out h0 hk0)⟩)
          | (case measure => simp [intOf]; omega)
      · have N := hid (show ¬ NameOk s from fun h => by have := h.2.2.2 k hlt; unfold Chr at this; omega)
        go_wp2
        all_goals first | (go_ret; exact ⟨Tells.no N.out, rfl⟩) | (exfalso; rename_i hx; simp at hx; omega)
    · by_cases c1 : 1 ≤ s.size
      · have d1 : decide ((1 : Int) ≤ (s.size : Int)) = true := by simp; omega
        go_wp2
        go_ret
        refine ⟨Tells.of ?_, rfl⟩
        rw [decide_eq_true_iff]
        exact ⟨fun h => ⟨c1, by omega, fun h0 => HF.out h0 (by omega), fun i hi => HA.out i hi (by omega)⟩, fun h => by have := h.2.1; omega⟩
      · have d1 : decide ((1 : Int) ≤ (s.size : Int)) = false := by simp; omega
        have N := hid (show ¬ NameOk s from fun h => by have := h.1; omega)
        go_wp2
        go_ret
        exact ⟨Tells.no N.out, rfl⟩

end Go.Proofs.YtogbomihnhfaiaaDoor

namespace Go.Proofs.YtogbomihnhfaiaaDoor
open Go.RowKit

/-- the words of the four sections, as the document's answer lays them -/
structure SectsAt (W : World) (B : Nat) (o : Lk.Obj) (at_ : Option Addr) (ct : Nat) (af : Option Addr) (cf : Nat) (ad : Option Addr) (cd : Nat) (Z : Nat) : Prop where
  blk : BlkAt W B #[.slice none 0 0, .slice at_ o.text.length ct, .slice af o.far.length cf, .slice ad o.data.length cd, .slice (some ⟨Z, 0, none⟩) o.bss.toNat o.bss.toNat] 38
  text : IntsIn W at_ o.text
  far : IntsIn W af o.far
  data : IntsIn W ad o.data
  zero : IntsIn W (some ⟨Z, 0, none⟩) (List.replicate o.bss.toNat 0)
  ct : o.text.length ≤ ct ∧ ct ≤ maxLen
  cf : o.far.length ≤ cf ∧ cf ≤ maxLen
  cd : o.data.length ≤ cd ∧ cd ≤ maxLen

theorem SectsAt.grown {W W' : World} {B : Nat} {o : Lk.Obj} {at_ : Option Addr} {ct : Nat} {af : Option Addr} {cf : Nat} {ad : Option Addr} {cd : Nat} {Z : Nat} (h : SectsAt W B o at_ ct af cf ad cd Z) (hg : W.grownBy W' none) : SectsAt W' B o at_ ct af cf ad cd Z :=
  ⟨h.blk.grown hg (by simp), h.text.kept (fun _ _ hv => gcell hv hg), h.far.kept (fun _ _ hv => gcell hv hg), h.data.kept (fun _ _ hv => gcell hv hg), h.zero.kept (fun _ _ hv => gcell hv hg), h.ct, h.cf, h.cd⟩

set_option maxHeartbeats 2000000 in
theorem sections_any (g : Nat) (o : Lk.Obj) (w : World) (h : ObjAt w g o) (hz : 0 ≤ o.bss ∧ o.bss ≤ 64) :
    Calls Tryd.prog 35 #[.pointer (some ⟨g, 0, none⟩)] w fun e w' => ∃ B at_ ct af cf ad cd Z, e = .returned (.slice (some ⟨B, 0, none⟩) 5 5) ∧ SectsAt w' B o at_ ct af cf ad cd Z ∧ w.grownBy w' none := by
  obtain ⟨i0, hi, hz0, hz1, hz2⟩ := info_parts Tryd.infoInt
  obtain ⟨at_, ct, af, cf, ad, cd, aa, ca, as_, cs, ar, cr, hb, h1, h2, h3, -⟩ := h.open
  have k3 := hb.cell 3
  have HB := hid hb
  have I1 := hid (IntsIn.of_own h1)
  have I2 := hid (IntsIn.of_own h2)
  have I3 := hid (IntsIn.of_own h3)
  have C1 := hid (own_cap h1)
  have C2 := hid (own_cap h2)
  have C3 := hid (own_cap h3)
  clear h hb h1 h2 h3
  obtain ⟨n, hn⟩ := Int.eq_ofNat_of_zero_le hz.1
  have HN := hid hn
  have hn64 : n ≤ 64 := by omega
  rw [hn] at k3
  clear hn hz
  go_enter Tryd.func35, Tryd.ntmps35
  go_wp2_with (first | (refine wpList_make_full _ rfl _ _ 38 rfl w.heap.size 3 i0 (.int .i64 0) 1 Tryd.underlying38 hi hz0 hz1 .i64 .i64 (n : Int) (n : Int) n rfl rfl rfl rfl (by rw [hz2]; omega) (by unfold maxLen; omega) (Nat.le_refl _) ?_; intro w1 hown hgrow))
  have HO := hid hown
  have HG := hid hgrow
  have hb1 := HB.out.grown hgrow (by simp)
  have c0 := hb1.cell 0
  have c1 := hb1.cell 1
  have c2 := hb1.cell 2
  clear hown hgrow hb1 k3
  go_wp2
  go_region
  go_wp2
  go_ret
  have G2 := grown_drew (World.grownBy_alloc w1 (.cells #[.slice none 0 0, .slice at_ o.text.length ct, .slice af o.far.length cf, .slice ad o.data.length cd, .slice (some ⟨w.heap.size, 0, none⟩) n n] 38) none)
  have e : o.bss.toNat = n := by rw [HN.out]; simp
  have GK := fun (a : Addr) (v : Value) (hv : w.cell? a = some v) => gcell (gcell hv HG.out) G2
  refine ⟨w1.heap.size, at_, ct, af, cf, ad, cd, w.heap.size, rfl, ⟨?_, I1.out.kept GK, I2.out.kept GK, I3.out.kept GK, ?_, C1.out, C2.out, C3.out⟩, grown_trans HG.out G2⟩
  · rw [e]
    exact BlkAt.new w1 _ _
  · rw [e]
    have hz : IntsIn w1 (some ⟨w.heap.size, 0, none⟩) (List.replicate n 0) := by
      refine IntsIn.of_own (n := n) (cap := n) (base := w.heap.size) ?_
      have h := HO.out
      have e2 : (madeCells (Value.int .i64 0).cells (n * 1)).toList = (List.replicate n (0 : Int)).map (Value.int .i64) := by
        rw [Nat.mul_one]
        show (madeCells #[Value.int .i64 0] n).toList = _
        rw [toList_madeCells_one]
        simp
      rw [e2] at h
      exact h
    exact hz.kept (fun _ _ hv => gcell hv G2)

end Go.Proofs.YtogbomihnhfaiaaDoor

namespace Go.Proofs.YtogbomihnhfaiaaDoor
open Go.RowKit

def SymAt (o : Lk.Obj) (k : Nat) (h : k < o.syms.length) : Prop := SymOk o o.syms[k] ∧ ¬ ∃ j, ∃ hj : j < o.syms.length, j < k ∧ o.syms[j].name = o.syms[k].name

theorem SectsAt.len {W : World} {B : Nat} {o : Lk.Obj} {at_ : Option Addr} {ct : Nat} {af : Option Addr} {cf : Nat} {ad : Option Addr} {cd : Nat} {Z : Nat} (h : SectsAt W B o at_ ct af cf ad cd Z) (hz : 0 ≤ o.bss) (n : Nat) (hn : n ≤ 4) :
    ∃ ao L cap, W.cell? ⟨B, n, none⟩ = some (.slice ao L cap) ∧ (L : Int) = seclen o n := by
  rcases (show n = 0 ∨ n = 1 ∨ n = 2 ∨ n = 3 ∨ n = 4 from by omega) with rfl | rfl | rfl | rfl | rfl
  · exact ⟨_, _, _, h.blk.cell 0, by simp [seclen, wordsOf]⟩
  · exact ⟨_, _, _, h.blk.cell 1, by simp [seclen, wordsOf]⟩
  · exact ⟨_, _, _, h.blk.cell 2, by simp [seclen, wordsOf]⟩
  · exact ⟨_, _, _, h.blk.cell 3, by simp [seclen, wordsOf]⟩
  · exact ⟨_, _, _, h.blk.cell 4, by simp [seclen]; omega⟩

set_option maxRecDepth 100000 in
set_option maxHeartbeats 8000000 in
theorem isSymbol_any (g B k : Nat) (o : Lk.Obj) (at_ : Option Addr) (ct : Nat) (af : Option Addr) (cf : Nat) (ad : Option Addr) (cd : Nat) (Z : Nat) (w : World) (h : ObjAt w g o) (hs : SectsAt w B o at_ ct af cf ad cd Z) (hn : Small o) (hz : 0 ≤ o.bss ∧ o.bss ≤ 64)
    (hl : ∀ y ∈ o.syms, y.name.length ≤ 255) (hk : k < o.syms.length) :
    Calls Tryd.prog 36 #[.pointer (some ⟨g, 0, none⟩), .slice (some ⟨B, 0, none⟩) 5 5, .int .i64 k] w fun e w' => Tells e (SymAt o k hk) ∧ w.grownBy w' none := by
  obtain ⟨_, _, _, _, _, _, _, _, as_, cs, _, _, hb, -, -, -, -, h5, -⟩ := h.open
  have hns := hn.2.2.2.2.1
  obtain ⟨sg, hao, hgs, hc⟩ := SymsIn.of_own h5 (by omega)
  subst hao
  obtain ⟨q0, q1, q2, q3⟩ := hc k hk
  have HC := hid hc
  have k5 := hb.cell 5
  have HB := hid hb
  have HS := hid hs
  have hnl := hl o.syms[k] (List.getElem_mem hk)
  have hlen : 0 ≤ seclen o o.syms[k].sect ∧ seclen o o.syms[k].sect ≤ 65535 := by
    have := wordsOf_small hn o.syms[k].sect
    unfold seclen; split <;> omega
  have S0 := hid (BlkAt.new w #[.string (bs o.syms[k].name), .int .i64 o.syms[k].bind, .int .i64 o.syms[k].sect, .int .i64 o.syms[k].off] 46)
  have G0 := hid (World.grownBy_alloc w (.cells #[.string (bs o.syms[k].name), .int .i64 o.syms[k].bind, .int .i64 o.syms[k].sect, .int .i64 o.syms[k].off] 46) none)
  have cN := hid (fun W => name_any (bs o.syms[k].name) W (by rw [bs_size]; omega))
  have HQ := hid (show SymAt o k hk ↔ (NameOk (bs o.syms[k].name) ∧ (0 ≤ o.syms[k].bind ∧ o.syms[k].bind ≤ 2) ∧ (0 ≤ o.syms[k].sect ∧ o.syms[k].sect ≤ 4) ∧ ¬ (o.syms[k].sect = 0 ∧ o.syms[k].bind = 0) ∧ 0 ≤ o.syms[k].off ∧ o.syms[k].off % 4 = 0 ∧ o.syms[k].off ≤ 4 * seclen o o.syms[k].sect) ∧ ¬ ∃ j, ∃ hj : j < o.syms.length, j < k ∧ o.syms[j].name = o.syms[k].name from Iff.rfl)
  have g1 : (k : Int) < (o.syms.length : Int) := by omega
  clear h hs h5 hb hc hn hl
  generalize SymAt o k hk = Q at *
  go_enter Tryd.func36, Tryd.ntmps36
  go_wp2_with fail
  refine (cN.out _).mono ?_
  rintro e w1 ⟨t, hw1⟩
  subst hw1
  have s1 := S0.out.cell 1
  have s2 := S0.out.cell 2
  have s3 := S0.out.cell 3
  rcases t.split with ⟨rfl, p1⟩ | ⟨rfl, p1⟩ <;> clear t
  · go_wp2
    go_ret
    exact ⟨Tells.no (fun hq => p1.out (HQ.out.1 hq).1.1), G0.out⟩
  have no : Hid (∀ W, (¬ Q) → w.grownBy W none → Tells (.returned (.bool false)) Q ∧ w.grownBy W none) := fun W a b => ⟨Tells.no a, b⟩
  generalize hbd : o.syms[k].bind = bind at *
  generalize hsc : o.syms[k].sect = sect at *
  generalize hof : o.syms[k].off = off at *
  have HY := hid (show o.syms[k].bind = bind ∧ o.syms[k].sect = sect ∧ o.syms[k].off = off from ⟨hbd, hsc, hof⟩)
  clear hbd hsc hof
  by_cases r1 : bind < 0
  · have d : decide (bind < 0) = true := by simp; omega
    go_wp2
    go_ret
    exact no.out _ (fun hq => by have := (HQ.out.1 hq).1.2.1.1; omega) G0.out
  have d1 : decide (bind < 0) = false := by simp; omega
  by_cases r2 : 2 < bind
  · have d : decide (2 < bind) = true := by simp; omega
    go_wp2
    go_ret
    exact no.out _ (fun hq => by have := (HQ.out.1 hq).1.2.1.2; omega) G0.out
  have d2 : decide (2 < bind) = false := by simp; omega
  by_cases r3 : sect < 0
  · have d : decide (sect < 0) = true := by simp; omega
    go_wp2
    go_ret
    exact no.out _ (fun hq => by have := (HQ.out.1 hq).1.2.2.1.1; omega) G0.out
  have d3 : decide (sect < 0) = false := by simp; omega
  by_cases r4 : 4 < sect
  · have d : decide (4 < sect) = true := by simp; omega
    go_wp2
    go_ret
    exact no.out _ (fun hq => by have := (HQ.out.1 hq).1.2.2.1.2; omega) G0.out
  have d4 : decide (4 < sect) = false := by simp; omega
  by_cases r6 : off < 0
  · have d : decide (off < 0) = true := by simp; omega
    go_wp2
    go_ret
    exact no.out _ (fun hq => by have := (HQ.out.1 hq).1.2.2.2.2.1; omega) G0.out
  have d6 : decide (off < 0) = false := by simp; omega
  have r6' : 0 ≤ off := by omega
  by_cases r7 : off % 4 = 0
  rotate_left
  · have d : (off % 4 == 0) = false := beq_eq_false_iff_ne.2 r7
    have R7 := hid r7
    clear r7
    go_wp2
    go_ret
    exact no.out _ (fun hq => R7.out (HQ.out.1 hq).1.2.2.2.2.2.1) G0.out
  have d7 : (off % 4 == 0) = true := beq_iff_eq.2 r7
  have R7 := hid r7
  clear r7
  obtain ⟨n, hsn⟩ := Int.eq_ofNat_of_zero_le (show 0 ≤ sect from by omega)
  have hn4 : n ≤ 4 := by omega
  obtain ⟨ao, L, cap, hcl, hL⟩ := (HS.out.grown (G0.out)).len hz.1 n hn4
  subst hsn
  have hL2 : seclen o (n : Int) = (L : Int) := hL.symm
  have HL2 := hid hL2
  rw [hL2] at hlen
  have hLs : L ≤ 65535 := by omega
  clear hL hL2 hlen
  have hwl : IntKind.i64.wrap (4 * (L : Int)) = 4 * (L : Int) := IntWalk.i64_in _ ⟨by omega, by omega⟩
  have hn5 : n < 5 := by omega
  by_cases r8 : 4 * (L : Int) < off
  · have e1 : decide (4 * (L : Int) < off) = true := by simp; omega
    go_wp2
    go_quiet (fail)
    go_wp2
    go_ret
    exact no.out _ (fun hq => by have := (HQ.out.1 hq).1.2.2.2.2.2.2; rw [HL2.out] at this; omega) (grown_drewN G0.out _)
  have e8 : decide (4 * (L : Int) < off) = false := by simp; omega
  by_cases r5 : n = 0 ∧ bind = 0
  · obtain ⟨r5a, r5b⟩ := r5
    have x1 : (n : Int) ≤ 0 := by omega
    have x2 : bind ≤ 0 := by omega
    have x3 : (((n : Int)) == 0) = true := by simp; omega
    have x4 : (bind == 0) = true := by simp; omega
    have R5 := hid (show (n : Int) = 0 ∧ bind = 0 from by omega)
    clear r5a r5b
    go_wp2
    go_quiet (fail)
    go_wp2
    go_ret
    exact no.out _ (fun hq => (HQ.out.1 hq).1.2.2.2.1 R5.out) (grown_drewN G0.out _)
  have R5 := hid (show ¬ ((n : Int) = 0 ∧ bind = 0) from fun h => r5 ⟨by omega, h.2⟩)
  have HP := hid (show NameOk (bs o.syms[k].name) ∧ (0 ≤ bind ∧ bind ≤ 2) ∧ (0 ≤ (n : Int) ∧ (n : Int) ≤ 4) ∧ ¬ ((n : Int) = 0 ∧ bind = 0) ∧ 0 ≤ off ∧ off % 4 = 0 ∧ off ≤ 4 * seclen o n from ⟨p1.out, ⟨by omega, by omega⟩, ⟨by omega, by omega⟩, R5.out, by omega, R7.out, by rw [HL2.out]; omega⟩)
  rcases (show (((n : Int) == 0) = false) ∨ ((((n : Int)) == 0) = true ∧ (bind == 0) = false) from by
      by_cases hh : n = 0
      · exact Or.inr ⟨by simp [hh], by simp; omega⟩
      · exact Or.inl (by simp; omega)) with x3 | ⟨x3, x4⟩ <;> clear r5
  all_goals
    go_wp2
    go_quiet (fail)
    go_wp2
    go_loopw [9] (fun i wr => ∃ j : Nat, j ≤ k ∧ i = .int .i64 j ∧ (∀ a (ha : a < o.syms.length), a < j → ¬ o.syms[a].name = o.syms[k].name) ∧ w.grownBy wr none ∧ wr.cell? ⟨w.heap.size, 0, none⟩ = some (.string (bs o.syms[k].name))) (fun i _ => k - (intOf i).toNat)
    case atStart => exact ⟨0, Nat.zero_le _, rfl, fun j _ hj => absurd hj (Nat.not_lt_zero j), grown_drewN G0.out _, by simp⟩
    case round =>
      obtain ⟨j, hj, rfl, hall, hgr, hc0⟩ := hrel
      have HA := hid hall
      have HG := hid hgr
      clear hall hgr
      by_cases hlt : j < k
      · have hb5 := (HB.out.grown HG.out (by simp)).cell 5
        have hjl : j < o.syms.length := by omega
        have hq0 := gcell (HC.out j hjl).1 HG.out
        have g2 : (j : Int) < (k : Int) := by omega
        have g3 : (j : Int) < (o.syms.length : Int) := by omega
        by_cases hnm : o.syms[j].name = o.syms[k].name
        · have dn : ((bs o.syms[j].name).toList == (bs o.syms[k].name).toList) = true := by rw [hnm]; simp
          have HN := hid hnm
          clear hnm
          go_wp2
          go_quiet (fail)
          go_wp2
          go_ret
          exact no.out _ (fun hq => (HQ.out.1 hq).2 ⟨j, hjl, hlt, HN.out⟩) (grown_drewN HG.out _)
        · have dn : ((bs o.syms[j].name).toList == (bs o.syms[k].name).toList) = false := by rw [toList_bs, toList_bs]; simpa using hnm
          have HN := hid hnm
          clear hnm
          go_wp2
          go_quiet (fail)
          go_wp2
          all_goals first
            | (refine ⟨⟨j + 1, by omega, by go_num, fun a ha hak => (Nat.lt_succ_iff_lt_or_eq.1 hak).elim (fun h => HA.out a ha h) (fun h => by subst h; exact HN.out), grown_drewN HG.out _, hc0⟩, ?_⟩; simp [intOf]; omega)
            | (go_roundw; all_goals first | (case rel => exact ⟨j + 1, by omega, by go_num, fun a ha hak => (Nat.lt_succ_iff_lt_or_eq.1 hak).elim (fun h => HA.out a ha h) (fun h => by subst h; exact HN.out), grown_drewN HG.out _, hc0⟩) | (case measure => simp [intOf]; omega))
      · go_wp2
        go_ret
        exact ⟨Tells.yes (HQ.out.2 ⟨HP.out, fun ⟨a, ha, hak, e⟩ => HA.out a ha (by omega) e⟩), HG.out⟩

end Go.Proofs.YtogbomihnhfaiaaDoor

namespace Go.Proofs.YtogbomihnhfaiaaDoor
open Go.RowKit

theorem bit_any (v : Int) (j : Nat) (w : World) (hv : 0 ≤ v) (hv' : v ≤ 4294967295) (hj : j ≤ 31) :
    Calls Tryd.prog 76 #[.int .i64 v, .int .i64 j] w fun e w' => e = .returned (.int .i64 (v / 2 ^ j % 2)) ∧ w' = w := by
  go_enter Tryd.func76, Tryd.ntmps76
  go_wp2
  go_ret
  have h2 : (0 : Int) < 2 ^ j := Int.pow_pos (by decide)
  have a : 0 ≤ v / 2 ^ j := Int.ediv_nonneg hv (Int.le_of_lt h2)
  have b : v / 2 ^ j ≤ v := Int.ediv_le_self _ hv
  refine ⟨?_, rfl⟩
  rw [← low (v / 2 ^ j) 1 (by decide) 1 2 rfl rfl a (by omega)]
  rfl

/-- a form's letter -/
def formB (form : Int) : Int := if form = 1 then 85 else if form = 2 then 74 else if form = 3 then 73 else if form = 4 then 66 else if form = 5 then 83 else if form = 6 then 82 else 69
def wideN (form : Int) : Nat := if form = 1 then 20 else if form = 2 then 21 else if form = 4 then 13 else 12

theorem wide_any (form : Int) (w : World) (hf : 1 ≤ form ∧ form ≤ 7) :
    Calls Tryd.prog 77 #[.int .u8 (formB form)] w fun e w' => e = .returned (.int .i64 (wideN form)) ∧ w' = w := by
  rcases (show form = 1 ∨ form = 2 ∨ form = 3 ∨ form = 4 ∨ form = 5 ∨ form = 6 ∨ form = 7 from by omega) with rfl | rfl | rfl | rfl | rfl | rfl | rfl
  all_goals
    clear hf
    simp only [formB, wideN, Int.reduceEq, if_true, if_false]
    go_enter Tryd.func77, Tryd.ntmps77
    go_wp2
    go_ret
    exact ⟨rfl, rfl⟩

end Go.Proofs.YtogbomihnhfaiaaDoor
