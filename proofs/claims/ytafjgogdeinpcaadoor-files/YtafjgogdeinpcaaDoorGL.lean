/- The plain side: what the document's Parse takes out of bytes, and that it takes an object's parts out of an object's bytes. -/
/- The plain side: what is valid fits its bytes; what the document's Parse answers, and what Read answers. -/
import Derived.Test.YtafjgogdeinpcaaDoorGG
import Derived.Test.YtafjgogdeinpcaaDoorGE
namespace Go.Proofs.YtafjgogdeinpcaaDoor
open Go.RowKit

theorem drop_on {l a rest : List UInt8} {p : Nat} (h : l.drop p = a ++ rest) : l.drop (p + a.length) = rest := by
  rw [← List.drop_drop, h, List.drop_left]

theorem atL_on {l rest : List UInt8} {v : Int} {p n : Nat} (h : l.drop p = Lk.le v n ++ rest) (h0 : 0 ≤ v) (h1 : v < (256 : Int) ^ n) : atL l p n = v := by
  induction n generalizing p v with
  | zero => simp [atL]; simp at h1; omega
  | succ n ih =>
    simp only [Lk.le, List.cons_append] at h
    have hlt : p < l.length := by
      have := congrArg List.length h
      simp at this
      omega
    have hg : l.getD p 0 = UInt8.ofNat (v % 256).toNat := by
      have h2 : (l.drop p)[0]? = some (UInt8.ofNat (v % 256).toNat) := by rw [h]; rfl
      rw [List.getElem?_drop] at h2
      rw [List.getD_eq_getElem?_getD]
      simp only [Nat.add_zero] at h2
      rw [h2]
      rfl
    have hd : l.drop (p + 1) = Lk.le (v / 256) n ++ rest := by
      rw [← List.drop_drop, h]
      rfl
    rw [Int.pow_succ] at h1
    have hi := ih hd (by omega) (by omega)
    simp only [atL, hi, hg]
    have hm : (UInt8.ofNat (v % 256).toNat).toNat = (v % 256).toNat := by
      rw [UInt8.toNat_ofNat']
      omega
    rw [hm]
    omega

theorem cutL_on {l x rest : List UInt8} {p : Nat} (h : l.drop p = x ++ rest) : cutL l p x.length = x := by
  unfold cutL
  rw [h, List.take_left]

theorem numsAt_on {l rest : List UInt8} {xs : List Int} {p : Nat} (h : l.drop p = Lk.nums xs 4 ++ rest) (hg : Lk.goodWords 4 xs) (k : Nat) (hk : k ≤ xs.length) : numsAt l p k = xs.take k := by
  induction k with
  | zero => rfl
  | succ k ih =>
    have hk' : k < xs.length := by omega
    rw [numsAt, ih (by omega), List.take_succ_eq_append_getElem hk']
    congr 2
    have hlen : ∀ ys : List Int, (Lk.nums ys 4).length = 4 * ys.length := by
      intro ys
      induction ys with
      | nil => rfl
      | cons y t ih => simp only [Lk.nums, List.flatMap_cons, List.length_append, Lk.le_length, List.length_cons] at *; omega
    have e : l.drop p = Lk.nums (xs.take k) 4 ++ (Lk.le xs[k] 4 ++ (Lk.nums (xs.drop (k + 1)) 4 ++ rest)) := by
      have e0 : xs = xs.take k ++ xs[k] :: xs.drop (k + 1) := by rw [← List.drop_eq_getElem_cons hk', List.take_append_drop]
      rw [h]
      refine (congrArg (fun z => Lk.nums z 4 ++ rest) e0).trans ?_
      simp only [Lk.nums, List.flatMap_append, List.flatMap_cons, List.append_assoc]
    have e2 := drop_on e
    rw [hlen, List.length_take, Nat.min_eq_left (by omega)] at e2
    exact atL_on e2 (hg _ (List.getElem_mem hk')).1 (hg _ (List.getElem_mem hk')).2

/-- a symbol that the bytes from p on say -/
def symAt (l : List UInt8) (p : Nat) : Lk.Sym :=
  ⟨cutL l (p + 1) (atL l p 1).toNat, atL l (p + 1 + (atL l p 1).toNat) 1, atL l (p + 2 + (atL l p 1).toNat) 1, atL l (p + 3 + (atL l p 1).toNat) 2⟩
/-- k symbols, and where they end -/
def symsRaw (l : List UInt8) : Nat → List Lk.Sym × Nat
  | 0 => ([], 16)
  | k + 1 => ((symsRaw l k).1 ++ [symAt l (symsRaw l k).2], (symsRaw l k).2 + 5 + (atL l (symsRaw l k).2 1).toNat)
/-- a relocation -/
def relAtL (l : List UInt8) (p : Nat) : Lk.Rel := ⟨atL l p 1, atL l (p + 2) 2, atL l (p + 1) 1, atL l (p + 4) 1, Lk.sgn (atL l (p + 5) 2)⟩
def relsRaw (l : List UInt8) (p : Nat) : Nat → List Lk.Rel
  | 0 => []
  | k + 1 => relsRaw l p k ++ [relAtL l (p + 7 * k)]
theorem symsRaw_length (l : List UInt8) (k : Nat) : (symsRaw l k).1.length = k := by
  induction k with
  | zero => rfl
  | succ k ih => simp [symsRaw, ih]
theorem relsRaw_length (l : List UInt8) (p k : Nat) : (relsRaw l p k).length = k := by
  induction k with
  | zero => rfl
  | succ k ih => simp [relsRaw, ih]
theorem symsRaw_pos (l : List UInt8) (k : Nat) : (symsRaw l k).2 ≤ 16 + 260 * k := by
  induction k with
  | zero => simp [symsRaw]
  | succ k ih =>
    have h := atL_range l (symsRaw l k).2 1
    simp only [symsRaw, Int.reducePow] at *
    omega
def rawObj (l : List UInt8) : Lk.Obj :=
  ⟨numsAt l ((symsRaw l (atL l 14 1).toNat).2 + 7 * (atL l 15 1).toNat) (min (atL l 2 2).toNat 1201),
   numsAt l ((symsRaw l (atL l 14 1).toNat).2 + 7 * (atL l 15 1).toNat + 4 * (atL l 2 2).toNat) (min (atL l 4 2).toNat 1201),
   numsAt l ((symsRaw l (atL l 14 1).toNat).2 + 7 * (atL l 15 1).toNat + 4 * (atL l 2 2).toNat + 4 * (atL l 4 2).toNat) (min (atL l 6 2).toNat 1201),
   atL l 8 2, [atL l 10 1, atL l 11 1, atL l 12 1, atL l 13 1], (symsRaw l (atL l 14 1).toNat).1, relsRaw l (symsRaw l (atL l 14 1).toNat).2 (atL l 15 1).toNat⟩

theorem symAt_on {l rest : List UInt8} {y : Lk.Sym} {p : Nat} (h : l.drop p = Lk.symB y ++ rest) (hy : Lk.goodSym y) : symAt l p = y ∧ (atL l p 1).toNat = y.name.length := by
  obtain ⟨nm, b, s, f⟩ := y
  obtain ⟨h1, h2, h3, h4⟩ := hy
  simp only at h1 h2 h3 h4
  simp only [Lk.symB, List.append_assoc] at h
  have a0 : atL l p 1 = (nm.length : Int) := atL_on h (by omega) (by simp; omega)
  have d1 := drop_on h
  rw [Lk.le_length] at d1
  have d2 := drop_on d1
  have d3 := drop_on d2
  rw [Lk.le_length] at d3
  have d4 := drop_on d3
  rw [Lk.le_length] at d4
  have e0 : (atL l p 1).toNat = nm.length := by rw [a0]; omega
  refine ⟨?_, e0⟩
  unfold symAt
  rw [e0]
  have a1 := cutL_on d1
  have a2 : atL l (p + 1 + nm.length) 1 = b := atL_on d2 h2.1 (by simpa using h2.2)
  have a3 : atL l (p + 2 + nm.length) 1 = s := by
    rw [show p + 2 + nm.length = p + 1 + nm.length + 1 from by omega]
    exact atL_on d3 h3.1 (by simpa using h3.2)
  have a4 : atL l (p + 3 + nm.length) 2 = f := by
    rw [show p + 3 + nm.length = p + 1 + nm.length + 1 + 1 from by omega]
    exact atL_on d4 h4.1 (by simpa using h4.2)
  rw [a1, a2, a3, a4]

theorem symB_length (y : Lk.Sym) : (Lk.symB y).length = 5 + y.name.length := by
  simp only [Lk.symB, List.length_append, Lk.le_length]
  omega
theorem relB_length (r : Lk.Rel) : (Lk.relB r).length = 7 := by
  simp only [Lk.relB, List.length_append, Lk.le_length]

theorem symsRaw_on {l rest : List UInt8} {ys : List Lk.Sym} (h : l.drop 16 = ys.flatMap Lk.symB ++ rest) (hg : ∀ y ∈ ys, Lk.goodSym y) (k : Nat) (hk : k ≤ ys.length) :
    symsRaw l k = (ys.take k, 16 + ((ys.take k).flatMap Lk.symB).length) := by
  induction k with
  | zero => rfl
  | succ k ih =>
    have hk' : k < ys.length := by omega
    have e : l.drop 16 = (ys.take k).flatMap Lk.symB ++ (Lk.symB ys[k] ++ ((ys.drop (k + 1)).flatMap Lk.symB ++ rest)) := by
      have e0 : ys = ys.take k ++ ys[k] :: ys.drop (k + 1) := by rw [← List.drop_eq_getElem_cons hk', List.take_append_drop]
      rw [h]
      refine (congrArg (fun z => List.flatMap Lk.symB z ++ rest) e0).trans ?_
      simp only [List.flatMap_append, List.flatMap_cons, List.append_assoc]
    have e2 := drop_on e
    obtain ⟨s1, s2⟩ := symAt_on e2 (hg _ (List.getElem_mem hk'))
    simp only [symsRaw, ih (by omega)]
    rw [s1, s2, List.take_succ_eq_append_getElem hk', List.flatMap_append, List.length_append]
    simp only [List.flatMap_cons, List.flatMap_nil, List.append_nil, symB_length]
    rw [Nat.add_assoc, Nat.add_assoc]

theorem relAtL_on {l rest : List UInt8} {r : Lk.Rel} {p : Nat} (h : l.drop p = Lk.relB r ++ rest) (hr : Lk.goodRel r) : relAtL l p = r := by
  obtain ⟨s, f, d, y, a⟩ := r
  obtain ⟨h1, h2, h3, h4, h5, h6⟩ := hr
  simp only at h1 h2 h3 h4 h5 h6
  simp only [Lk.relB, List.append_assoc] at h
  rw [← Lk.le_uns a] at h
  have d1 := drop_on h
  rw [Lk.le_length] at d1
  have d2 := drop_on d1
  rw [Lk.le_length] at d2
  have d3 := drop_on d2
  rw [Lk.le_length] at d3
  have d4 := drop_on d3
  rw [Lk.le_length] at d4
  have a0 : atL l p 1 = s := atL_on h h1.1 (by simpa using h1.2)
  have a1 : atL l (p + 1) 1 = d := atL_on d1 h2.1 (by simpa using h2.2)
  have a2 : atL l (p + 2) 2 = f := atL_on d2 h3.1 (by simpa using h3.2)
  have a3 : atL l (p + 4) 1 = y := atL_on d3 h4.1 (by simpa using h4.2)
  have a4 : atL l (p + 5) 2 = Lk.uns a := atL_on d4 (by unfold Lk.uns; split <;> omega) (by unfold Lk.uns; simp only [Int.reducePow]; split <;> omega)
  unfold relAtL
  rw [a0, a1, a2, a3, a4]
  congr 1
  unfold Lk.sgn Lk.uns
  split <;> split <;> omega

theorem relsRaw_on {l rest : List UInt8} {rs : List Lk.Rel} {p : Nat} (h : l.drop p = rs.flatMap Lk.relB ++ rest) (hg : ∀ r ∈ rs, Lk.goodRel r) (k : Nat) (hk : k ≤ rs.length) :
    relsRaw l p k = rs.take k := by
  induction k with
  | zero => rfl
  | succ k ih =>
    have hk' : k < rs.length := by omega
    have hlen : ∀ ys : List Lk.Rel, (ys.flatMap Lk.relB).length = 7 * ys.length := by
      intro ys
      induction ys with
      | nil => rfl
      | cons y t ih => simp only [List.flatMap_cons, List.length_append, relB_length, List.length_cons] at *; omega
    have e : l.drop p = (rs.take k).flatMap Lk.relB ++ (Lk.relB rs[k] ++ ((rs.drop (k + 1)).flatMap Lk.relB ++ rest)) := by
      have e0 : rs = rs.take k ++ rs[k] :: rs.drop (k + 1) := by rw [← List.drop_eq_getElem_cons hk', List.take_append_drop]
      rw [h]
      refine (congrArg (fun z => List.flatMap Lk.relB z ++ rest) e0).trans ?_
      simp only [List.flatMap_append, List.flatMap_cons, List.append_assoc]
    have e2 := drop_on e
    rw [hlen, List.length_take, Nat.min_eq_left (by omega)] at e2
    simp only [relsRaw, ih (by omega), List.take_succ_eq_append_getElem hk']
    rw [relAtL_on e2 (hg _ (List.getElem_mem hk'))]

theorem rels_length (rs : List Lk.Rel) : (rs.flatMap Lk.relB).length = 7 * rs.length := by
  induction rs with
  | nil => rfl
  | cons y t ih => simp only [List.flatMap_cons, List.length_append, relB_length, List.length_cons] at *; omega
theorem numsB_length (ys : List Int) (n : Nat) : (Lk.nums ys n).length = n * ys.length := by
  induction ys with
  | nil => rfl
  | cons y t ih => simp only [Lk.nums, List.flatMap_cons, List.length_append, Lk.le_length, List.length_cons, Nat.mul_add] at *; omega

theorem raw_back {o : Lk.Obj} (hg : Lk.goodObj o) (hz : o.text.length ≤ 1200 ∧ o.far.length ≤ 1200 ∧ o.data.length ≤ 1200) : rawObj (Lk.objB o) = o := by
  obtain ⟨g1, g2, g3, g4, g5, g6, g7, g8, g9, g10, g11, g12, g13⟩ := hg
  obtain ⟨tx, fx, dx, bss, al, ys, rs⟩ := o
  simp only at *
  obtain ⟨a, b, c, d, rfl⟩ : ∃ a b c d, al = [a, b, c, d] := by
    match al, g5 with
    | [a, b, c, d], _ => exact ⟨a, b, c, d, rfl⟩
  generalize hl : Lk.objB ⟨tx, fx, dx, bss, [a, b, c, d], ys, rs⟩ = l
  have h0 : l.drop 0 = [76, 75] ++ Lk.restB ⟨tx, fx, dx, bss, [a, b, c, d], ys, rs⟩ := by rw [← hl]; rfl
  simp only [Lk.restB] at h0
  have h2 := drop_on h0
  have h4 := drop_on h2
  rw [Lk.le_length] at h4
  have h6 := drop_on h4
  rw [Lk.le_length] at h6
  have h8 := drop_on h6
  rw [Lk.le_length] at h8
  have h10 := drop_on h8
  rw [Lk.le_length] at h10
  have hal : Lk.nums [a, b, c, d] 1 = Lk.le a 1 ++ (Lk.le b 1 ++ (Lk.le c 1 ++ Lk.le d 1)) := by simp only [Lk.nums, List.flatMap_cons, List.flatMap_nil, List.append_nil]
  rw [hal] at h10
  simp only [List.append_assoc] at h10
  have h11 := drop_on h10
  rw [Lk.le_length] at h11
  have h12 := drop_on h11
  rw [Lk.le_length] at h12
  have h13 := drop_on h12
  rw [Lk.le_length] at h13
  have h14 := drop_on h13
  rw [Lk.le_length] at h14
  have h15 := drop_on h14
  rw [Lk.le_length] at h15
  have h16 := drop_on h15
  rw [Lk.le_length] at h16
  have hs := drop_on h16
  have hr := drop_on hs
  have ht := drop_on hr
  have hf := drop_on ht
  simp only [List.length_cons, List.length_nil, Nat.zero_add, Nat.reduceAdd] at h2 h4 h6 h8 h10 h11 h12 h13 h14 h15 h16 hs hr ht hf
  have v2 : atL l 2 2 = (tx.length : Int) := atL_on h2 (by omega) (by simp; omega)
  have v4 : atL l 4 2 = (fx.length : Int) := atL_on h4 (by omega) (by simp; omega)
  have v6 : atL l 6 2 = (dx.length : Int) := atL_on h6 (by omega) (by simp; omega)
  have v8 : atL l 8 2 = bss := atL_on h8 g4.1 (by simpa using g4.2)
  have w1 := g6 a (by simp)
  have w2 := g6 b (by simp)
  have w3 := g6 c (by simp)
  have w4 := g6 d (by simp)
  have v10 : atL l 10 1 = a := atL_on h10 w1.1 w1.2
  have v11 : atL l 11 1 = b := atL_on h11 w2.1 w2.2
  have v12 : atL l 12 1 = c := atL_on h12 w3.1 w3.2
  have v13 : atL l 13 1 = d := atL_on h13 w4.1 w4.2
  have v14 : atL l 14 1 = (ys.length : Int) := atL_on h14 (by omega) (by simp; omega)
  have v15 : atL l 15 1 = (rs.length : Int) := atL_on h15 (by omega) (by simp; omega)
  have hlenR := rels_length rs
  have eS := symsRaw_on h16 g9 ys.length (Nat.le_refl _)
  rw [List.take_length] at eS
  unfold rawObj
  rw [v2, v4, v6, v8, v10, v11, v12, v13, v14, v15]
  simp only [Int.toNat_natCast, eS]
  rw [relsRaw_on hs g10 rs.length (Nat.le_refl _), List.take_length]
  rw [hlenR] at hr ht hf
  rw [numsB_length] at ht hf
  rw [numsB_length] at hf
  rw [Nat.min_eq_left (by omega), Nat.min_eq_left (by omega), Nat.min_eq_left (by omega)]
  rw [numsAt_on hr g11 tx.length (Nat.le_refl _), List.take_length, numsAt_on ht g12 fx.length (Nat.le_refl _), List.take_length]
  rw [numsAt_on (rest := []) (by rw [List.append_nil]; exact hf) g13 dx.length (Nat.le_refl _), List.take_length]

end Go.Proofs.YtafjgogdeinpcaaDoor

namespace Go.Proofs.YtafjgogdeinpcaaDoor
open Go.RowKit

theorem wordsOf_le {o : Lk.Obj} (h : Sizes o) (sect : Int) : (wordsOf o sect).length ≤ 1200 := by
  obtain ⟨⟨n1, n2, n3⟩, -⟩ := h
  unfold wordsOf
  split
  · exact n1
  split
  · exact n2
  split
  · omega
  · simp

theorem words_good {xs : List Int} (h : Words xs) : Lk.goodWords 4 xs := fun x hx => by
  obtain ⟨i, hi, rfl⟩ := List.getElem_of_mem hx
  have := h i hi
  simp only [Int.reducePow]
  omega

theorem valid_good {o : Lk.Obj} (h : Valid o) : Lk.goodObj o := by
  obtain ⟨hz, hb, hw, hs, hr⟩ := h
  have hz' := hz
  obtain ⟨⟨n1, n2, n3⟩, n4, n5, n6⟩ := hz
  refine ⟨by omega, by omega, by omega, by omega, hb.1, ?_, by omega, by omega, ?_, ?_, words_good hw.1, words_good hw.2.1, words_good hw.2.2⟩
  · intro x hx
    obtain ⟨i, hi, rfl⟩ := List.getElem_of_mem hx
    have := hb.2 i hi
    simp only [Int.reducePow]
    omega
  · intro y hy
    obtain ⟨i, hi, rfl⟩ := List.getElem_of_mem hy
    obtain ⟨⟨k1, k2, k3, -, k4, -, k5⟩, -⟩ := hs i hi
    have hl : (bs (o.syms[i]).name).size = (o.syms[i]).name.length := rfl
    have k6 := k1.2.1
    have hw := wordsOf_le hz' (o.syms[i]).sect
    refine ⟨by omega, by omega, by omega, by omega, ?_⟩
    unfold seclen at k5
    split at k5 <;> omega
  · intro r hr'
    obtain ⟨i, hi, rfl⟩ := List.getElem_of_mem hr'
    obtain ⟨⟨k1, k2, k3, -, k5, -, -⟩, -⟩ := hr i hi
    have hsp := span_range k2
    have hw := wordsOf_le hz' (o.rels[i]).sect
    unfold AboutOk at k5
    unfold KindOk at k1
    unfold SymIx at k3
    unfold AddendOk at k2
    refine ⟨by omega, by omega, by omega, ?_, ?_⟩
    · split at k3 <;> omega
    · split at k2
      · omega
      · split at k2 <;> omega

theorem flatB_le {α : Type} (f : α → List UInt8) (m : Nat) (xs : List α) (h : ∀ x ∈ xs, (f x).length ≤ m) : (xs.flatMap f).length ≤ m * xs.length := by
  induction xs with
  | nil => simp
  | cons x t ih =>
    have h1 := h x (by simp)
    have h2 := ih (fun y hy => h y (by simp [hy]))
    simp only [List.flatMap_cons, List.length_append, List.length_cons, Nat.mul_add]
    omega

theorem valid_short {o : Lk.Obj} (h : Valid o) : (Lk.objB o).length ≤ 65535 := by
  obtain ⟨hz, hb, hw, hs, hr⟩ := h
  obtain ⟨⟨n1, n2, n3⟩, n4, n5, n6⟩ := hz
  have e1 : (o.syms.flatMap Lk.symB).length ≤ 11 * o.syms.length := flatB_le _ _ _ fun y hy => by
    obtain ⟨i, hi, rfl⟩ := List.getElem_of_mem hy
    have k6 := (hs i hi).1.1.2.1
    have hl : (bs (o.syms[i]).name).size = (o.syms[i]).name.length := rfl
    rw [symB_length]
    omega
  have e2 : (o.rels.flatMap Lk.relB).length ≤ 7 * o.rels.length := flatB_le _ _ _ fun y _ => by rw [relB_length]; omega
  have e3 := numsB_length o.align 1
  have e4 := numsB_length o.text 4
  have e5 := numsB_length o.far 4
  have e6 := numsB_length o.data 4
  have := hb.1
  simp only [Lk.objB, List.length_append, Lk.le_length, List.length_cons, List.length_nil]
  omega

/-- bytes that are an object's -/
def IsObj (l : List UInt8) : Prop := Valid (rawObj l) ∧ Lk.objB (rawObj l) = l

theorem isObj_of_read {l : List UInt8} {o : Lk.Obj} (h : Lk.readObj l = some o) (hv : Valid o) : IsObj l ∧ rawObj l = o := by
  obtain ⟨hg, rfl⟩ := (Lk.readObj_iff l o).1 h
  have hz := hv.1.1
  have e := raw_back hg ⟨hz.1, hz.2.1, by omega⟩
  unfold IsObj
  rw [e]
  exact ⟨⟨hv, rfl⟩, rfl⟩

theorem read_of_isObj {l : List UInt8} (h : IsObj l) : Lk.readObj l = some (rawObj l) := (Lk.readObj_iff l _).2 ⟨valid_good h.1, h.2.symm⟩

theorem isObj_short {l : List UInt8} (h : IsObj l) : l.length ≤ 65535 := by
  have := valid_short h.1
  rw [h.2] at this
  exact this

theorem not_isObj_of_read {l : List UInt8} (h : ∀ o, Lk.readObj l = some o → ¬ Valid o) : ¬ IsObj l := fun k => h _ (read_of_isObj k) k.1

end Go.Proofs.YtafjgogdeinpcaaDoor
