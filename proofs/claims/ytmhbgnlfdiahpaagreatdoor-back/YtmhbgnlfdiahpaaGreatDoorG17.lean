/- Texts that are none, and what is told of them: the plain side. -/
/- Walks: Faults. -/
/- Walks: Faults. -/
/- Walks over the document's answer: numbers of a file. -/
/- Images, as functions of their bytes. -/
/- Walks over package image: reading. -/
/- Walks: Back. -/
/- Walks: Back, the whole. -/
/- What the rows lay: the three tables. -/
/- The row and the card of Back. -/
import Derived.Test.YtmhbgnlfdiahpaaGreatDoorG16
import Derived.Test.YtmhbgnlfdiahpaaGreatDoorG02
import Derived.ProofKit
import Derived.OpenShut
import Derived.ChangeMaps5
import Derived.Deep.DeepHandedRow
import Derived.Lib.LaidTab
import Derived.Test.YtmhbgnlfdiahpaaGreatDoorCards
import Derived.Test.YtmhbgnlfdiahpaaGreatDoorTie
namespace Go.Proofs.YtmhbgnlfdiahpaaGreatDoor
open Go.RowKit

section
instance (c : Int) : Decidable (Chr c) := by unfold Chr; infer_instance
instance (s : ByteArray) : Decidable (NameOk s) := by unfold NameOk; infer_instance
instance (xs : List Int) : Decidable (Words xs) := by unfold Words; infer_instance
instance (xs : List Int) : Decidable (Borders xs) := by unfold Borders; infer_instance
instance (o : Lk.Obj) : Decidable (Sizes o) := by unfold Sizes; infer_instance
instance (o : Lk.Obj) : Decidable (AllWords o) := by unfold AllWords; infer_instance
instance (o : Lk.Obj) (y : Lk.Sym) : Decidable (SymOk o y) := by unfold SymOk; infer_instance
instance (o : Lk.Obj) : Decidable (SymsOk o) := by unfold SymsOk; infer_instance
instance (r : Lk.Rel) : Decidable (KindOk r) := by unfold KindOk; infer_instance
instance (r : Lk.Rel) : Decidable (AddendOk r) := by unfold AddendOk; infer_instance
instance (o : Lk.Obj) (r : Lk.Rel) : Decidable (SymIx o r) := by unfold SymIx; infer_instance
instance (o : Lk.Obj) (r : Lk.Rel) : Decidable (BordOk o r) := by unfold BordOk; infer_instance
instance (o : Lk.Obj) (r : Lk.Rel) : Decidable (AboutOk o r) := by unfold AboutOk; infer_instance
instance (o : Lk.Obj) (r : Lk.Rel) : Decidable (WithinP o r) := by unfold WithinP; infer_instance
instance (k : Int) (xs : List Int) : Decidable (GoesP k xs) := by unfold GoesP Branch0 Jal0 PairW Upper0 Short0 Store0 Nops; infer_instance
instance (o : Lk.Obj) (r : Lk.Rel) : Decidable (RelOk o r) := by unfold RelOk; infer_instance
instance (a r : Lk.Rel) : Decidable (FollowsP a r) := by unfold FollowsP; infer_instance
instance (o : Lk.Obj) : Decidable (RelsOk o) := by unfold RelsOk; infer_instance
instance valid_dec (o : Lk.Obj) : Decidable (Valid o) := by unfold Valid; infer_instance
end

/-- a text, the error that is told of it, where -/
def ftRows : List (List UInt8 × Nat × Nat) := [
  ([97, 100, 100, 32, 120, 49, 44, 120, 50], 3, 9),
  ([97, 100, 100, 32, 120, 49, 44, 120, 50, 44, 120, 51, 50], 7, 10),
  ([97, 100, 100, 32, 120, 49, 44, 120, 50, 44, 120, 48, 49], 7, 10),
  ([97, 100, 100, 100, 32, 120, 49, 44, 120, 50, 44, 120, 51], 6, 0),
  ([97, 100, 100, 105, 32, 120, 49, 44, 120, 50, 44, 50, 48, 52, 56], 8, 11),
  ([97, 100, 100, 105, 32, 120, 49, 44, 120, 50, 44, 45, 50, 48, 52, 57], 8, 11),
  ([97, 100, 100, 105, 32, 120, 49, 44, 120, 50, 44, 45, 50, 48, 52, 56], 0, 0),
  ([108, 105, 32, 120, 49, 44, 50, 49, 52, 55, 52, 56, 51, 54, 52, 56], 8, 6),
  ([108, 105, 32, 120, 49, 44, 57, 57, 57, 57, 57, 57, 57, 57, 57, 57, 57], 5, 6),
  ([108, 105, 32, 120, 49, 44, 45, 50, 49, 52, 55, 52, 56, 51, 54, 52, 56], 0, 0),
  ([108, 117, 105, 32, 120, 49, 44, 49, 48, 52, 56, 53, 55, 54], 8, 7),
  ([97, 58, 10, 97, 58], 10, 3),
  ([97, 98, 99, 100, 101, 102, 103, 58], 4, 0),
  ([120, 55, 58], 7, 0),
  ([97, 46, 98, 58], 3, 0),
  ([46, 100, 97, 116, 97, 10, 97, 100, 100, 32, 120, 49, 44, 120, 50, 44, 120, 51], 9, 6),
  ([46, 98, 115, 115, 10, 46, 119, 111, 114, 100, 32, 49], 9, 5),
  ([63], 2, 0),
  ([35, 32, 63, 10, 9, 32, 110, 111, 112, 32, 35, 32, 120, 10], 0, 0),
  ([108, 119, 32, 120, 49, 44, 52, 40, 120, 50], 3, 10),
  ([108, 119, 32, 120, 48, 44, 97], 7, 0),
  ([115, 119, 32, 120, 49, 44, 97, 44, 120, 48], 7, 0),
  ([115, 119, 32, 120, 49, 44, 97], 3, 7),
  ([108, 97, 32, 120, 49, 44, 97, 43, 50, 48, 52, 56], 8, 8),
  ([108, 97, 32, 120, 49, 44, 97, 45, 50, 48, 52, 56], 0, 0),
  ([46, 103, 108, 111, 98, 108, 32, 97, 10, 46, 119, 101, 97, 107, 32, 97], 14, 15),
  ([46, 97, 108, 105, 103, 110, 32, 53], 8, 7),
  ([46, 115, 112, 97, 99, 101, 32, 54], 8, 0),
  ([46, 98, 115, 115, 10, 46, 115, 112, 97, 99, 101, 32, 50, 54, 48], 13, 5),
  ([46, 100, 97, 116, 97, 10, 46, 115, 112, 97, 99, 101, 32, 50, 53, 54, 10, 46, 119, 111, 114, 100, 32, 49], 13, 17),
  ([46, 116, 101, 120, 116, 10, 46, 115, 112, 97, 99, 101, 32, 52, 56, 48, 48, 10, 110, 111, 112], 13, 18),
  ([49, 32, 110, 111, 112], 3, 0),
  ([110, 111, 112, 32, 110, 111, 112], 3, 4),
  ([108, 105, 32, 120, 49, 44, 53, 120], 2, 7),
  ([99, 97, 108, 108], 3, 4),
  ([106, 97, 108, 32, 120, 49, 44, 120, 50], 7, 7),
  ([46, 115, 112, 97, 99, 101, 32, 52, 56, 48, 52], 8, 7),
  ([46, 119, 111, 114, 100, 32, 52, 50, 57, 52, 57, 54, 55, 50, 57, 54], 8, 6),
  ([46, 119, 111, 114, 100, 32, 52, 50, 57, 52, 57, 54, 55, 50, 57, 53], 0, 0)]

theorem ft_length : ftRows.length = 39 := by decide +kernel
theorem ft_eval : ∀ r ∈ ftRows, (As.assemble r.1).1 = r.2 := by decide +kernel
theorem ft_valid : ∀ r ∈ ftRows, r.2.1 = 0 → Valid (As.assemble r.1).2 := by decide +kernel

theorem ft_told {r : List UInt8 × Nat × Nat} (h : r ∈ ftRows) {t : List UInt8} {fe fa : Nat} (k : Told r.1 t fe fa) : fe = r.2.1 ∧ fa = r.2.2 ∧ (t = [] ↔ r.2.1 ≠ 0) := by
  have e := ft_eval r h
  have v := ft_valid r h
  unfold Told at k
  rw [e] at k
  rcases k with ⟨h1, h2, h3, h4⟩ | ⟨h1, h2, h3, h4, h5⟩ | ⟨h1, h2, -⟩
  · exact ⟨h3, h4, by simp [h1, h2]⟩
  · have z : r.2.2 = 0 := by
      have : ∀ r ∈ ftRows, r.2.1 = 0 → r.2.2 = 0 := by decide +kernel
      exact this r h h1
    exact ⟨by omega, by omega, by rw [h3, Lk.objB_eq]; simp [h1]⟩
  · exact absurd (v h1) h2

end Go.Proofs.YtmhbgnlfdiahpaaGreatDoor

namespace Go.Proofs.YtmhbgnlfdiahpaaGreatDoor
open Go.RowKit

def ftV (r : List UInt8 × Nat × Nat) : List Value := [.string (bs r.1), .int .i64 r.2.1, .int .i64 r.2.2]

end Go.Proofs.YtmhbgnlfdiahpaaGreatDoor

namespace Go.Proofs.YtmhbgnlfdiahpaaGreatDoor
open Go.RowKit

theorem linkAssemble_any (s : ByteArray) (w : World) (ht : Tabs w) (hN : NTab w) (hB : 3 ≤ w.heap.size) :
    Calls Tryz.prog 5 #[.string s] w fun e w' => (∃ t fe fa, e = .returned (.tuple #[.string (bs t), faultA fe fa]) ∧ Told (sl s) t fe fa) ∧ w.grownBy w' none := by
  have cA := hid (assemble_any s (w.alloc (.cells (faultC 0 0) 25)) (ht.grown (World.grownBy_alloc _ _ none)) (hN.below (grown_below (World.grownBy_alloc _ _ none) (Nat.le_refl _) (by simp)) hB) (by rw [size_alloc]; omega))
  have b0 := hid (BlkAt.new w (faultC 0 0) 25)
  go_enter Tryz.func5, Tryz.ntmps5
  go_wp2_with fail
  refine cA.out.mono ?_
  rintro e V1 ⟨⟨t, fe, fa, rfl, ht⟩, hg⟩
  have HT := hid ht
  have FB := hid (b0.out.grown hg (by simp))
  have FG := hid (grown_trans (World.grownBy_alloc w (.cells (faultC 0 0) 25) none) hg)
  clear ht hg cA b0
  unfold faultA
  have v0 := FB.out.free 0
  have v1 := FB.out.free 1
  have v2 := FB.out.free 2
  have x0 := FB.out.cell 0
  have x1 := FB.out.cell 1
  have x2 := FB.out.cell 2
  simp only [faultC, List.getElem?_toArray, List.getElem?_cons_succ, List.getElem?_cons_zero] at x0 x1 x2
  go_wp2
  have F := sets_blk [(0, .int .i64 fe), (1, .int .i64 fa), (2, .string ⟨#[]⟩)] FB.out
  have h0 := F.cell 0
  have h1 := F.cell 1
  have h2 := F.cell 2
  simp only [faultC, setsA, List.foldl_cons, List.foldl_nil, List.setIfInBounds_toArray, List.set_cons_succ, List.set_cons_zero, List.getElem?_toArray, List.getElem?_cons_succ, List.getElem?_cons_zero] at h0 h1 h2
  refine bodyPost_ret (v := .tuple #[.string (bs t), faultA fe fa]) ?_ rfl ⟨⟨t, fe, fa, rfl, HT.out⟩, fin_sets FG.out _ (Nat.le_refl _) [(0, .int .i64 fe), (1, .int .i64 fa), (2, .string ⟨#[]⟩)]⟩
  clear F x0 x1 x2 v0 v1 v2
  simp only [sets, List.foldl_cons, List.foldl_nil] at h0 h1 h2 ⊢
  generalize World.setCell _ _ _ = WF at *
  simp [results, Tryz.results5, go_sem, faultA, h0, h1, h2]

end Go.Proofs.YtmhbgnlfdiahpaaGreatDoor

namespace Go.Proofs.YtmhbgnlfdiahpaaGreatDoor
open Go.RowKit

/-- the number that n bytes from p on say; noughts stand for what is not there -/
def atL (l : List UInt8) (p : Nat) : Nat → Int
  | 0 => 0
  | n + 1 => ((l.getD p 0).toNat : Int) + 256 * atL l (p + 1) n

theorem atL_range (l : List UInt8) (p n : Nat) : 0 ≤ atL l p n ∧ atL l p n < (256 : Int) ^ n := by
  induction n generalizing p with
  | zero => simp [atL]
  | succ n ih =>
    have h := ih (p + 1)
    have hb : (l.getD p 0).toNat < 256 := (l.getD p 0).toNat_lt
    simp only [atL, Int.pow_succ]
    omega

theorem sl_getD (s : ByteArray) (k : Nat) (h : k < s.size) : ((sl s).getD k 0) = s[k] := by
  have h' : k < (sl s).length := by rw [sl_length]; exact h
  rw [List.getD_eq_getElem?_getD, List.getElem?_eq_getElem h']
  rfl
theorem sl_getD_none (s : ByteArray) (k : Nat) (h : s.size ≤ k) : ((sl s).getD k 0) = 0 := by
  rw [List.getD_eq_getElem?_getD, List.getElem?_eq_none (by rw [sl_length]; exact h)]
  rfl

end Go.Proofs.YtmhbgnlfdiahpaaGreatDoor

namespace Go.Proofs.YtmhbgnlfdiahpaaGreatDoor
open Go.RowKit

namespace Im

/-- what an image says -/
structure Img where
  start : Int
  text : Int
  far : Int
  data : Int
  T : List Int
  F : List Int
  D : List Int
  noughts : Int

/-- c words from p on -/
def words (l : List UInt8) (p c : Nat) : List Int := (List.range c).map fun i => atL l (p + 4 * i) 4
theorem words_length (l : List UInt8) (p c : Nat) : (words l p c).length = c := by simp [words]
theorem words_zero (l : List UInt8) (p : Nat) : words l p 0 = [] := rfl
theorem words_cons (l : List UInt8) (p c : Nat) : words l p (c + 1) = atL l p 4 :: words l (p + 4) c := by
  unfold words
  rw [List.range_succ_eq_map, List.map_cons, List.map_map]
  congr 1
  apply List.map_congr_left
  intro i _
  show atL l (p + 4 * (i + 1)) 4 = atL l (p + 4 + 4 * i) 4
  congr 1
  omega
theorem words_snoc (l : List UInt8) (p c : Nat) : words l p (c + 1) = words l p c ++ [atL l (p + 4 * c) 4] := by
  unfold words
  rw [List.range_succ, List.map_append]
  rfl

theorem num_drop (l : List UInt8) (p n : Nat) (h : p + n ≤ l.length) : Lk.num ((l.drop p).take n) = atL l p n := by
  induction n generalizing p with
  | zero => simp [atL, Lk.num]
  | succ n ih =>
    have hp : p < l.length := by omega
    rw [List.drop_eq_getElem_cons hp, List.take_succ_cons]
    simp only [Lk.num, atL]
    rw [ih (p + 1) (by omega), List.getD_eq_getElem?_getD, List.getElem?_eq_getElem hp]
    rfl

theorem rdNum_in (l : List UInt8) (n p : Nat) (h : p + n ≤ l.length) : Lk.rdNum l n (p, false) = (atL l p n, (p + n, false)) := by
  unfold Lk.rdNum Lk.rdText
  simp only
  rw [if_pos (by omega)]
  simp only
  rw [num_drop l p n h]
theorem rdNum_ok (l : List UInt8) (n : Nat) (st : Lk.St) (hn : st.1 ≤ l.length) (h : (Lk.rdNum l n st).2.2 = false) :
    st.2 = false ∧ st.1 + n ≤ l.length ∧ Lk.rdNum l n st = (atL l st.1 n, (st.1 + n, false)) := by
  have h0 := (Lk.reads_num l n).back h
  obtain ⟨p, b⟩ := st
  simp only at h0 hn
  subst h0
  have hp : p + n ≤ l.length := by
    unfold Lk.rdNum Lk.rdText at h
    simp only at h
    split at h
    · omega
    · simp at h
  exact ⟨rfl, hp, rdNum_in l n p hp⟩
theorem rdNums_in (l : List UInt8) (c p : Nat) (h : p + 4 * c ≤ l.length) : Lk.rdNums l 4 c (p, false) = (words l p c, (p + 4 * c, false)) := by
  induction c generalizing p with
  | zero => rfl
  | succ c ih =>
    simp only [Lk.rdNums, Bool.false_eq_true, if_false]
    rw [rdNum_in l 4 p (by omega)]
    simp only
    rw [ih (p + 4) (by omega), words_cons]
    simp only [Prod.mk.injEq, true_and, and_true]
    omega
theorem rdNums_ok (l : List UInt8) (c : Nat) (st : Lk.St) (hn : st.1 ≤ l.length) (h : (Lk.rdNums l 4 c st).2.2 = false) :
    st.2 = false ∧ st.1 + 4 * c ≤ l.length ∧ Lk.rdNums l 4 c st = (words l st.1 c, (st.1 + 4 * c, false)) := by
  have h0 := (Lk.reads_nums l 4 c).back h
  obtain ⟨p, b⟩ := st
  simp only at h0 hn
  subst h0
  suffices hp : p + 4 * c ≤ l.length from ⟨rfl, hp, rdNums_in l c p hp⟩
  induction c generalizing p with
  | zero => omega
  | succ c ih =>
    simp only [Lk.rdNums, Bool.false_eq_true, if_false] at h
    have hb := (Lk.reads_nums l 4 c).back h
    have k := rdNum_ok l 4 (p, false) hn hb
    rw [k.2.2] at h
    have := ih (p + 4) k.2.1 h
    omega

/-- what stands in the places of an image's parts -/
def rdImg (l : List UInt8) (st : Lk.St) : Img × Lk.St :=
  let a := Lk.rdNum l 4 st
  let b := Lk.rdNum l 4 a.2
  let c := Lk.rdNum l 4 b.2
  let d := Lk.rdNum l 4 c.2
  let nt := Lk.rdNum l 2 d.2
  let nf := Lk.rdNum l 2 nt.2
  let nd := Lk.rdNum l 2 nf.2
  let nb := Lk.rdNum l 2 nd.2
  let t := Lk.rdNums l 4 nt.1.toNat nb.2
  let f := Lk.rdNums l 4 nf.1.toNat t.2
  let e := Lk.rdNums l 4 nd.1.toNat f.2
  (⟨a.1, b.1, c.1, d.1, t.1, f.1, e.1, nb.1⟩, e.2)

def nT (l : List UInt8) : Nat := (atL l 18 2).toNat
def nF (l : List UInt8) : Nat := (atL l 20 2).toNat
def nD (l : List UInt8) : Nat := (atL l 22 2).toNat
def nB (l : List UInt8) : Nat := (atL l 24 2).toNat
theorem two_range (l : List UInt8) (p : Nat) : 0 ≤ atL l p 2 ∧ atL l p 2 < 65536 := by have := atL_range l p 2; simpa using this
theorem n_le (l : List UInt8) : nT l ≤ 65535 ∧ nF l ≤ 65535 ∧ nD l ≤ 65535 ∧ nB l ≤ 65535 := by
  have h1 := two_range l 18
  have h2 := two_range l 20
  have h3 := two_range l 22
  have h4 := two_range l 24
  unfold nT nF nD nB
  omega
theorem n_int (l : List UInt8) : (nT l : Int) = atL l 18 2 ∧ (nF l : Int) = atL l 20 2 ∧ (nD l : Int) = atL l 22 2 ∧ (nB l : Int) = atL l 24 2 := by
  have h1 := two_range l 18
  have h2 := two_range l 20
  have h3 := two_range l 22
  have h4 := two_range l 24
  unfold nT nF nD nB
  omega

/-- the image that bytes say -/
def imgOf (l : List UInt8) : Img := ⟨atL l 2 4, atL l 6 4, atL l 10 4, atL l 14 4, words l 26 (nT l), words l (26 + 4 * nT l) (nF l), words l (26 + 4 * nT l + 4 * nF l) (nD l), atL l 24 2⟩
def Full (l : List UInt8) : Prop := l.length = 26 + 4 * (nT l + nF l + nD l)

theorem rdImg_full (l : List UInt8) (h : Full l) : rdImg l (2, false) = (imgOf l, (l.length, false)) := by
  unfold Full at h
  unfold rdImg
  simp only
  rw [rdNum_in l 4 2 (by omega)]
  simp only [Nat.reduceAdd]
  rw [rdNum_in l 4 6 (by omega)]
  simp only [Nat.reduceAdd]
  rw [rdNum_in l 4 10 (by omega)]
  simp only [Nat.reduceAdd]
  rw [rdNum_in l 4 14 (by omega)]
  simp only [Nat.reduceAdd]
  rw [rdNum_in l 2 18 (by omega)]
  simp only [Nat.reduceAdd]
  rw [rdNum_in l 2 20 (by omega)]
  simp only [Nat.reduceAdd]
  rw [rdNum_in l 2 22 (by omega)]
  simp only [Nat.reduceAdd]
  rw [rdNum_in l 2 24 (by omega)]
  simp only [Nat.reduceAdd]
  rw [show (atL l 18 2).toNat = nT l from rfl, show (atL l 20 2).toNat = nF l from rfl, show (atL l 22 2).toNat = nD l from rfl]
  rw [rdNums_in l (nT l) 26 (by omega)]
  simp only
  rw [rdNums_in l (nF l) _ (by omega)]
  simp only
  rw [rdNums_in l (nD l) _ (by omega)]
  simp only [imgOf, Prod.mk.injEq, true_and, and_true]
  omega

theorem rdImg_only (l : List UInt8) (h2 : 2 ≤ l.length) (h : (rdImg l (2, false)).2 = (l.length, false)) : Full l := by
  unfold rdImg at h
  simp only at h
  generalize hA : Lk.rdNum l 4 (2, false) = a at h
  generalize hB : Lk.rdNum l 4 a.2 = b at h
  generalize hC : Lk.rdNum l 4 b.2 = c at h
  generalize hD : Lk.rdNum l 4 c.2 = d at h
  generalize hE : Lk.rdNum l 2 d.2 = nt at h
  generalize hF : Lk.rdNum l 2 nt.2 = nf at h
  generalize hG : Lk.rdNum l 2 nf.2 = nd at h
  generalize hH : Lk.rdNum l 2 nd.2 = nb at h
  generalize hI : Lk.rdNums l 4 nt.1.toNat nb.2 = t at h
  generalize hJ : Lk.rdNums l 4 nf.1.toNat t.2 = f at h
  generalize hK : Lk.rdNums l 4 nd.1.toNat f.2 = e at h
  have k11 : e.2.2 = false := by rw [h]
  have k10 : f.2.2 = false := (Lk.reads_nums l 4 _).back (by rw [hK]; exact k11)
  have k9 : t.2.2 = false := (Lk.reads_nums l 4 _).back (by rw [hJ]; exact k10)
  have k8 : nb.2.2 = false := (Lk.reads_nums l 4 _).back (by rw [hI]; exact k9)
  have k7 : nd.2.2 = false := (Lk.reads_num l 2).back (by rw [hH]; exact k8)
  have k6 : nf.2.2 = false := (Lk.reads_num l 2).back (by rw [hG]; exact k7)
  have k5 : nt.2.2 = false := (Lk.reads_num l 2).back (by rw [hF]; exact k6)
  have k4 : d.2.2 = false := (Lk.reads_num l 2).back (by rw [hE]; exact k5)
  have k3 : c.2.2 = false := (Lk.reads_num l 4).back (by rw [hD]; exact k4)
  have k2 : b.2.2 = false := (Lk.reads_num l 4).back (by rw [hC]; exact k3)
  have k1 : a.2.2 = false := (Lk.reads_num l 4).back (by rw [hB]; exact k2)
  obtain ⟨-, p1, q1⟩ := rdNum_ok l 4 (2, false) h2 (by rw [hA]; exact k1)
  rw [hA] at q1; subst q1
  obtain ⟨-, p2, q2⟩ := rdNum_ok l 4 _ p1 (by rw [hB]; exact k2)
  rw [hB] at q2; subst q2
  obtain ⟨-, p3, q3⟩ := rdNum_ok l 4 _ p2 (by rw [hC]; exact k3)
  rw [hC] at q3; subst q3
  obtain ⟨-, p4, q4⟩ := rdNum_ok l 4 _ p3 (by rw [hD]; exact k4)
  rw [hD] at q4; subst q4
  obtain ⟨-, p5, q5⟩ := rdNum_ok l 2 _ p4 (by rw [hE]; exact k5)
  rw [hE] at q5; subst q5
  obtain ⟨-, p6, q6⟩ := rdNum_ok l 2 _ p5 (by rw [hF]; exact k6)
  rw [hF] at q6; subst q6
  obtain ⟨-, p7, q7⟩ := rdNum_ok l 2 _ p6 (by rw [hG]; exact k7)
  rw [hG] at q7; subst q7
  obtain ⟨-, p8, q8⟩ := rdNum_ok l 2 _ p7 (by rw [hH]; exact k8)
  rw [hH] at q8; subst q8
  obtain ⟨-, p9, q9⟩ := rdNums_ok l _ _ p8 (by rw [hI]; exact k9)
  rw [hI] at q9; subst q9
  obtain ⟨-, p10, q10⟩ := rdNums_ok l _ _ p9 (by rw [hJ]; exact k10)
  rw [hJ] at q10; subst q10
  obtain ⟨-, p11, q11⟩ := rdNums_ok l _ _ p10 (by rw [hK]; exact k11)
  rw [hK] at q11; subst q11
  simp only [Prod.mk.injEq] at h
  have hh := h.1
  simp only [Nat.reduceAdd] at hh
  unfold Full nT nF nD
  omega

/-- may a region begin there? -/
def Base (a : Int) : Prop := (4096 ≤ a ∧ a < 1073741824) ∧ a % 16 = 0
def Meet (a b c d : Int) : Prop := a ≠ b ∧ c ≠ d ∧ a < d ∧ c < b
/-- a word of n from base on lies at a -/
def In (base : Int) (n : Nat) (a : Int) : Prop := base ≤ a ∧ (a - base) % 4 = 0 ∧ (a - base) / 4 < n
def ImgOk (m : Img) : Prop :=
  (Base m.text ∧ Base m.far ∧ Base m.data) ∧
  (m.text + 4 * (m.T.length : Int) ≤ 1073741824 ∧ m.far + 4 * (m.F.length : Int) ≤ 1073741824 ∧ m.data + 4 * ((m.D.length : Int) + m.noughts) ≤ 1073741824) ∧
  (¬ Meet m.text (m.text + 4 * (m.T.length : Int)) m.far (m.far + 4 * (m.F.length : Int)) ∧ ¬ Meet m.text (m.text + 4 * (m.T.length : Int)) m.data (m.data + 4 * ((m.D.length : Int) + m.noughts)) ∧
    ¬ Meet m.far (m.far + 4 * (m.F.length : Int)) m.data (m.data + 4 * ((m.D.length : Int) + m.noughts))) ∧
  (In m.text m.T.length m.start ∨ In m.far m.F.length m.start)

/-- bytes that are an image -/
def IsImg (l : List UInt8) : Prop := l.take 2 = [73, 77] ∧ Full l ∧ ImgOk (imgOf l)

end Im
end Go.Proofs.YtmhbgnlfdiahpaaGreatDoor

namespace Go.Proofs.YtmhbgnlfdiahpaaGreatDoor
open Go.RowKit

/-- while an image is read: the Reader in b, the image in g, what its lists own -/
structure ISt (w : World) (b g : Nat) (s : ByteArray) (p : Nat) (sh : Bool) (cs : Array Value) (rows : List Row) (W : World) : Prop where
  rd : RdAt W b s p sh
  obj : BlkAt W g cs 95
  rows : ∀ r ∈ rows, r.In W (g + 1)
  gr : w.grownBy W (some b)

section
variable {w W W' : World} {b g : Nat} {s : ByteArray} {cs : Array Value} {rows : List Row} {p p' : Nat} {sh sh' : Bool}
theorem ISt.begin (h : RdAt W b s p sh) (hg : w.grownBy W (some b)) (cs : Array Value) : ISt w b W.heap.size s p sh cs [] (W.alloc (.cells cs 95)) :=
  ⟨h.grown (World.grownBy_alloc W _ none) (by simp), BlkAt.new W cs 95, (by simp), grown_own hg (World.grownBy_alloc W _ none) (by simp)⟩
theorem ISt.call (h : ISt w b g s p sh cs rows W) (hb : b < g) (hr : RdAt W' b s p' sh') (hg : W.grownBy W' (some b)) : ISt w b g s p' sh' cs rows W' :=
  ⟨hr, h.obj.grown hg (by simp; omega), fun r hr => own_kept (h.rows r hr) (by omega) hg, grown_trans h.gr hg⟩
theorem ISt.row (h : ISt w b g s p sh cs rows W) (hb : b < g) (hr : RdAt W' b s p' sh') (hg : W.grownBy W' (some b)) (r : Row) (hrow : r.In W' W.heap.size) : ISt w b g s p' sh' cs (r :: rows) W' := by
  have h1 := h.call hb hr hg
  refine ⟨h1.rd, h1.obj, ?_, h1.gr⟩
  intro q hq
  rcases List.mem_cons.1 hq with rfl | hq
  · exact own_base hrow h.obj.lt
  · exact h1.rows q hq
theorem ISt.store (h : ISt w b g s p sh cs rows W) (hb : b < g) (hw : w.heap.size ≤ g) (o : Nat) (v : Value) : ISt w b g s p sh (cs.setIfInBounds o v) rows (W.setCell ⟨g, o, none⟩ v) :=
  ⟨h.rd.grown (grown_set W g o v) (by simp; omega), h.obj.set o v, fun r hr => ownsRow_setCell_below (h.rows r hr) (Nat.lt_succ_self g) v, grown_own h.gr (grown_set W g o v) (by simp; omega)⟩
end

/-- an image lies in block g, its lists behind it -/
def ImgAt (W : World) (g : Nat) (m : Im.Img) : Prop :=
  ∃ vt vf vd, BlkAt W g #[.int .i64 m.start, .int .i64 m.text, .int .i64 m.far, .int .i64 m.data, vt, vf, vd, .int .i64 m.noughts] 95 ∧
    W.ownsRow 0 3 1 vt m.T.length (m.T.map (Value.int .i64)) ∧ W.ownsRow 0 3 1 vf m.F.length (m.F.map (Value.int .i64)) ∧ W.ownsRow 0 3 1 vd m.D.length (m.D.map (Value.int .i64))

set_option maxHeartbeats 4000000 in
theorem readImage_yes (b : Nat) (s : ByteArray) (p : Nat) (sh : Bool) (w : World) (h : RdAt w b s p sh)
    (hs : s.size ≤ 1048576) (hp : p ≤ s.size) (hmark : (Lk.rdText (sl s) 2 (p, sh)).1 = [73, 77]) :
    Calls Tryz.prog 35 #[.pointer (some ⟨b, 0, none⟩)] w fun e w' => ∃ g, e = .returned (.pointer (some ⟨g, 0, none⟩)) ∧ w.heap.size ≤ g ∧
      ImgAt w' g (Im.rdImg (sl s) (Lk.rdText (sl s) 2 (p, sh)).2).1 ∧
      RdAt w' b s (Im.rdImg (sl s) (Lk.rdText (sl s) 2 (p, sh)).2).2.1 (Im.rdImg (sl s) (Lk.rdText (sl s) 2 (p, sh)).2).2.2 ∧ w.grownBy w' (some b) := by
  have hb := h.lt
  have hlen := sl_length s
  have l0 := rdText_le (sl s) 2 (p, sh) (by rw [hlen]; exact hp)
  have c0 := fun W h => text_lit b s p 2 2 rfl sh W h hs hp (by omega)
  generalize Lk.rdText (sl s) 2 (p, sh) = x0 at *
  obtain ⟨mk, p0, s0⟩ := x0
  simp only at hmark
  subst hmark
  rw [hlen] at l0
  unfold Im.rdImg
  simp only at *
  have b1 := rdNum_byte (sl s) 4 (p0, s0)
  have l1 := rdNum_le (sl s) 4 (p0, s0) (by rw [hlen]; exact l0)
  have c1 := fun W h => number_lit b s p0 4 4 rfl s0 W h hs l0 (by omega)
  generalize Lk.rdNum (sl s) 4 (p0, s0) = x1 at *
  obtain ⟨start, p1, s1⟩ := x1
  rw [hlen] at l1
  simp only [Int.reducePow] at *
  have b2 := rdNum_byte (sl s) 4 (p1, s1)
  have l2 := rdNum_le (sl s) 4 (p1, s1) (by rw [hlen]; exact l1)
  have c2 := fun W h => number_lit b s p1 4 4 rfl s1 W h hs l1 (by omega)
  generalize Lk.rdNum (sl s) 4 (p1, s1) = x2 at *
  obtain ⟨bt, p2, s2⟩ := x2
  rw [hlen] at l2
  simp only [Int.reducePow] at *
  have b3 := rdNum_byte (sl s) 4 (p2, s2)
  have l3 := rdNum_le (sl s) 4 (p2, s2) (by rw [hlen]; exact l2)
  have c3 := fun W h => number_lit b s p2 4 4 rfl s2 W h hs l2 (by omega)
  generalize Lk.rdNum (sl s) 4 (p2, s2) = x3 at *
  obtain ⟨bf, p3, s3⟩ := x3
  rw [hlen] at l3
  simp only [Int.reducePow] at *
  have b4 := rdNum_byte (sl s) 4 (p3, s3)
  have l4 := rdNum_le (sl s) 4 (p3, s3) (by rw [hlen]; exact l3)
  have c4 := fun W h => number_lit b s p3 4 4 rfl s3 W h hs l3 (by omega)
  generalize Lk.rdNum (sl s) 4 (p3, s3) = x4 at *
  obtain ⟨bd, p4, s4⟩ := x4
  rw [hlen] at l4
  simp only [Int.reducePow] at *
  have b5 := rdNum_byte (sl s) 2 (p4, s4)
  have l5 := rdNum_le (sl s) 2 (p4, s4) (by rw [hlen]; exact l4)
  have c5 := fun W h => number_lit b s p4 2 2 rfl s4 W h hs l4 (by omega)
  generalize Lk.rdNum (sl s) 2 (p4, s4) = x5 at *
  obtain ⟨nt, p5, s5⟩ := x5
  rw [hlen] at l5
  simp only [Int.reducePow] at *
  have b6 := rdNum_byte (sl s) 2 (p5, s5)
  have l6 := rdNum_le (sl s) 2 (p5, s5) (by rw [hlen]; exact l5)
  have c6 := fun W h => number_lit b s p5 2 2 rfl s5 W h hs l5 (by omega)
  generalize Lk.rdNum (sl s) 2 (p5, s5) = x6 at *
  obtain ⟨nf, p6, s6⟩ := x6
  rw [hlen] at l6
  simp only [Int.reducePow] at *
  have b7 := rdNum_byte (sl s) 2 (p6, s6)
  have l7 := rdNum_le (sl s) 2 (p6, s6) (by rw [hlen]; exact l6)
  have c7 := fun W h => number_lit b s p6 2 2 rfl s6 W h hs l6 (by omega)
  generalize Lk.rdNum (sl s) 2 (p6, s6) = x7 at *
  obtain ⟨nd, p7, s7⟩ := x7
  rw [hlen] at l7
  simp only [Int.reducePow] at *
  have b8 := rdNum_byte (sl s) 2 (p7, s7)
  have l8 := rdNum_le (sl s) 2 (p7, s7) (by rw [hlen]; exact l7)
  have c8 := fun W h => number_lit b s p7 2 2 rfl s7 W h hs l7 (by omega)
  generalize Lk.rdNum (sl s) 2 (p7, s7) = x8 at *
  obtain ⟨nb, p8, s8⟩ := x8
  rw [hlen] at l8
  simp only [Int.reducePow] at *
  have l9 := rdNums_le (sl s) 4 nt.toNat (p8, s8) (by rw [hlen]; exact l8)
  have c9 := fun W h => readNumbers_lit b s p8 nt.toNat 4 nt 4 (by omega) rfl s8 W h hs l8 (by omega) (by omega)
  generalize Lk.rdNums (sl s) 4 nt.toNat (p8, s8) = x9 at *
  obtain ⟨tx, p9, s9⟩ := x9
  rw [hlen] at l9
  simp only at *
  have l10 := rdNums_le (sl s) 4 nf.toNat (p9, s9) (by rw [hlen]; exact l9)
  have c10 := fun W h => readNumbers_lit b s p9 nf.toNat 4 nf 4 (by omega) rfl s9 W h hs l9 (by omega) (by omega)
  generalize Lk.rdNums (sl s) 4 nf.toNat (p9, s9) = x10 at *
  obtain ⟨fx, p10, s10⟩ := x10
  rw [hlen] at l10
  simp only at *
  have l11 := rdNums_le (sl s) 4 nd.toNat (p10, s10) (by rw [hlen]; exact l10)
  have c11 := fun W h => readNumbers_lit b s p10 nd.toNat 4 nd 4 (by omega) rfl s10 W h hs l10 (by omega) (by omega)
  generalize Lk.rdNums (sl s) 4 nd.toNat (p10, s10) = x11 at *
  obtain ⟨dx, p11, s11⟩ := x11
  rw [hlen] at l11
  simp only at *
  replace c0 := hid c0
  replace c1 := hid c1
  replace c2 := hid c2
  replace c3 := hid c3
  replace c4 := hid c4
  replace c5 := hid c5
  replace c6 := hid c6
  replace c7 := hid c7
  replace c8 := hid c8
  replace c9 := hid c9
  replace c10 := hid c10
  replace c11 := hid c11
  have H := hid h
  clear h hlen
  have ht : ((bs [73, 77]).toList == [73, 77]) = true := by rw [toList_bs]; rfl
  go_enter Tryz.func35, Tryz.ntmps35
  go_wp2_with fail
  refine (c0.out w H.out).mono ?_
  rintro e W0 ⟨rfl, r0, q0⟩
  replace r0 := hid r0
  replace q0 := hid q0
  go_wp2_with fail
  have hbg : b < W0.heap.size := r0.out.lt
  have hwg : w.heap.size ≤ W0.heap.size := q0.out.size
  generalize hG : W0.heap.size = g at *
  refine Calls.at_world (ISt w b g s p0 s0 #[.int .i64 0, .int .i64 0, .int .i64 0, .int .i64 0, .slice none 0 0, .slice none 0 0, .slice none 0 0, .int .i64 0] []) (by rw [← hG]; exact ISt.begin r0.out q0.out _) ?_
  clear r0 q0 hG
  intro V0 h0
  refine (c1.out V0 h0.rd).mono ?_
  rintro e U1 ⟨rfl, r, q⟩
  have S1 := hid (h0.call hbg r q)
  clear r q h0
  have k := S1.out.obj.cell 0
  have f := S1.out.obj.free 0
  go_wp2_with fail
  refine Calls.at_world (ISt w b g s p1 s1 #[.int .i64 start, .int .i64 0, .int .i64 0, .int .i64 0, .slice none 0 0, .slice none 0 0, .slice none 0 0, .int .i64 0] []) (S1.out.store hbg hwg 0 _) ?_
  clear k f S1 U1
  intro V1 h1
  refine (c2.out V1 h1.rd).mono ?_
  rintro e U2 ⟨rfl, r, q⟩
  have S2 := hid (h1.call hbg r q)
  clear r q h1
  have k := S2.out.obj.cell 1
  have f := S2.out.obj.free 1
  go_wp2_with fail
  refine Calls.at_world (ISt w b g s p2 s2 #[.int .i64 start, .int .i64 bt, .int .i64 0, .int .i64 0, .slice none 0 0, .slice none 0 0, .slice none 0 0, .int .i64 0] []) (S2.out.store hbg hwg 1 _) ?_
  clear k f S2 U2
  intro V2 h2
  refine (c3.out V2 h2.rd).mono ?_
  rintro e U3 ⟨rfl, r, q⟩
  have S3 := hid (h2.call hbg r q)
  clear r q h2
  have k := S3.out.obj.cell 2
  have f := S3.out.obj.free 2
  go_wp2_with fail
  refine Calls.at_world (ISt w b g s p3 s3 #[.int .i64 start, .int .i64 bt, .int .i64 bf, .int .i64 0, .slice none 0 0, .slice none 0 0, .slice none 0 0, .int .i64 0] []) (S3.out.store hbg hwg 2 _) ?_
  clear k f S3 U3
  intro V3 h3
  refine (c4.out V3 h3.rd).mono ?_
  rintro e U4 ⟨rfl, r, q⟩
  have S4 := hid (h3.call hbg r q)
  clear r q h3
  have k := S4.out.obj.cell 3
  have f := S4.out.obj.free 3
  go_wp2_with fail
  refine Calls.at_world (ISt w b g s p4 s4 #[.int .i64 start, .int .i64 bt, .int .i64 bf, .int .i64 bd, .slice none 0 0, .slice none 0 0, .slice none 0 0, .int .i64 0] []) (S4.out.store hbg hwg 3 _) ?_
  clear k f S4 U4
  intro V4 h4
  refine (c5.out V4 h4.rd).mono ?_
  rintro e U5 ⟨rfl, r, q⟩
  have S5 := hid (h4.call hbg r q)
  clear r q h4
  go_wp2_with fail
  refine Calls.at_world (ISt w b g s p5 s5 #[.int .i64 start, .int .i64 bt, .int .i64 bf, .int .i64 bd, .slice none 0 0, .slice none 0 0, .slice none 0 0, .int .i64 0] []) S5.out ?_
  clear S5 U5
  intro V5 h5
  refine (c6.out V5 h5.rd).mono ?_
  rintro e U6 ⟨rfl, r, q⟩
  have S6 := hid (h5.call hbg r q)
  clear r q h5
  go_wp2_with fail
  refine Calls.at_world (ISt w b g s p6 s6 #[.int .i64 start, .int .i64 bt, .int .i64 bf, .int .i64 bd, .slice none 0 0, .slice none 0 0, .slice none 0 0, .int .i64 0] []) S6.out ?_
  clear S6 U6
  intro V6 h6
  refine (c7.out V6 h6.rd).mono ?_
  rintro e U7 ⟨rfl, r, q⟩
  have S7 := hid (h6.call hbg r q)
  clear r q h6
  go_wp2_with fail
  refine Calls.at_world (ISt w b g s p7 s7 #[.int .i64 start, .int .i64 bt, .int .i64 bf, .int .i64 bd, .slice none 0 0, .slice none 0 0, .slice none 0 0, .int .i64 0] []) S7.out ?_
  clear S7 U7
  intro V7 h7
  refine (c8.out V7 h7.rd).mono ?_
  rintro e U8 ⟨rfl, r, q⟩
  have S8 := hid (h7.call hbg r q)
  clear r q h7
  have k := S8.out.obj.cell 7
  have f := S8.out.obj.free 7
  go_wp2_with fail
  refine Calls.at_world (ISt w b g s p8 s8 #[.int .i64 start, .int .i64 bt, .int .i64 bf, .int .i64 bd, .slice none 0 0, .slice none 0 0, .slice none 0 0, .int .i64 nb] []) (S8.out.store hbg hwg 7 _) ?_
  clear k f S8 U8
  intro V8 h8
  refine (c9.out V8 h8.rd).mono ?_
  rintro e U9 ⟨v, rfl, o, r, q⟩
  obtain ⟨atx, ctx, rfl⟩ := own_form o
  have S9 := hid (h8.row hbg r q ⟨3, 1, (.slice atx tx.length ctx), tx.length, tx.map (Value.int .i64)⟩ o)
  clear r q o h8
  have k := S9.out.obj.cell 4
  have f := S9.out.obj.free 4
  go_wp2_with fail
  refine Calls.at_world (ISt w b g s p9 s9 #[.int .i64 start, .int .i64 bt, .int .i64 bf, .int .i64 bd, (.slice atx tx.length ctx), .slice none 0 0, .slice none 0 0, .int .i64 nb] [⟨3, 1, (.slice atx tx.length ctx), tx.length, tx.map (Value.int .i64)⟩]) (S9.out.store hbg hwg 4 _) ?_
  clear k f S9 U9
  intro V9 h9
  refine (c10.out V9 h9.rd).mono ?_
  rintro e U10 ⟨v, rfl, o, r, q⟩
  obtain ⟨afx, cfx, rfl⟩ := own_form o
  have S10 := hid (h9.row hbg r q ⟨3, 1, (.slice afx fx.length cfx), fx.length, fx.map (Value.int .i64)⟩ o)
  clear r q o h9
  have k := S10.out.obj.cell 5
  have f := S10.out.obj.free 5
  go_wp2_with fail
  refine Calls.at_world (ISt w b g s p10 s10 #[.int .i64 start, .int .i64 bt, .int .i64 bf, .int .i64 bd, (.slice atx tx.length ctx), (.slice afx fx.length cfx), .slice none 0 0, .int .i64 nb] [⟨3, 1, (.slice afx fx.length cfx), fx.length, fx.map (Value.int .i64)⟩, ⟨3, 1, (.slice atx tx.length ctx), tx.length, tx.map (Value.int .i64)⟩]) (S10.out.store hbg hwg 5 _) ?_
  clear k f S10 U10
  intro V10 h10
  refine (c11.out V10 h10.rd).mono ?_
  rintro e U11 ⟨v, rfl, o, r, q⟩
  obtain ⟨adx, cdx, rfl⟩ := own_form o
  have S11 := hid (h10.row hbg r q ⟨3, 1, (.slice adx dx.length cdx), dx.length, dx.map (Value.int .i64)⟩ o)
  clear r q o h10
  have k := S11.out.obj.cell 6
  have f := S11.out.obj.free 6
  go_wp2
  go_ret
  have F := S11.out.store hbg hwg 6 (.slice adx dx.length cdx)
  refine ⟨g, rfl, hwg, ⟨(.slice atx tx.length ctx), (.slice afx fx.length cfx), (.slice adx dx.length cdx), F.obj, ?_, ?_, ?_⟩, F.rd, F.gr⟩
  · exact own_base (F.rows ⟨3, 1, (.slice atx tx.length ctx), tx.length, tx.map (Value.int .i64)⟩ (by simp)) (Nat.zero_le _)
  · exact own_base (F.rows ⟨3, 1, (.slice afx fx.length cfx), fx.length, fx.map (Value.int .i64)⟩ (by simp)) (Nat.zero_le _)
  · exact own_base (F.rows ⟨3, 1, (.slice adx dx.length cdx), dx.length, dx.map (Value.int .i64)⟩ (by simp)) (Nat.zero_le _)

set_option maxHeartbeats 1000000 in
theorem readImage_no (b : Nat) (s : ByteArray) (p : Nat) (sh : Bool) (w : World) (h : RdAt w b s p sh)
    (hs : s.size ≤ 1048576) (hp : p ≤ s.size) (hmark : (Lk.rdText (sl s) 2 (p, sh)).1 ≠ [73, 77]) :
    Calls Tryz.prog 35 #[.pointer (some ⟨b, 0, none⟩)] w fun e w' => e = .returned (.pointer none) ∧ w.grownBy w' (some b) := by
  have c0 := fun W h => text_lit b s p 2 2 rfl sh W h hs hp (by omega)
  generalize Lk.rdText (sl s) 2 (p, sh) = x0 at *
  obtain ⟨mk, p0, s0⟩ := x0
  simp only at hmark c0
  replace c0 := hid c0
  have H := hid h
  clear h
  have ht : ((bs mk).toList == [73, 77]) = false := by rw [toList_bs]; simpa using hmark
  clear hmark
  go_enter Tryz.func35, Tryz.ntmps35
  go_wp2_with fail
  refine (c0.out w H.out).mono ?_
  rintro e W0 ⟨rfl, r0, q0⟩
  replace r0 := hid r0
  replace q0 := hid q0
  go_wp2
  go_ret
  exact ⟨rfl, q0.out⟩

end Go.Proofs.YtmhbgnlfdiahpaaGreatDoor

namespace Go.Proofs.YtmhbgnlfdiahpaaGreatDoor
open Go.RowKit

theorem Tryz.infoStr : (Tryz.prog.info? 9).map (fun i => (i.zero, i.size, i.bytes)) = some (some (.string ⟨#[]⟩), 1, 16) := by kernel_rfl

/-- bytes that begin otherwise than an archive's -/
theorem members_mark (s : ByteArray) (w : World) (hs : s.size ≤ 1048576) (hm : (Lk.rdText (sl s) 2 (0, false)).1 ≠ [65, 82]) :
    Calls Tryz.prog 14 #[.string s] w fun e w' => e = .returned (.tuple #[.slice none 0 0, .int .i64 21]) ∧ w.grownBy w' none := by
  have hlen := sl_length s
  have l0 := rdText_le (sl s) 2 (0, false) (by rw [hlen]; omega)
  have c0 := fun W b h => text_lit b s 0 2 2 rfl false W h hs (Nat.zero_le _) (by omega)
  rw [hlen] at l0
  generalize Lk.rdText (sl s) 2 (0, false) = x0 at *
  obtain ⟨mk, p0, s0⟩ := x0
  simp only at c0 l0 hm
  have c1 := fun W b h => number_lit b s p0 1 1 rfl s0 W h hs l0 (by omega)
  have b1 := rdNum_byte (sl s) 1 (p0, s0)
  simp only [Int.reducePow] at b1
  generalize Lk.rdNum (sl s) 1 (p0, s0) = x1 at *
  obtain ⟨cn, p1, s1⟩ := x1
  simp only at c1 b1
  replace c0 := hid c0
  replace c1 := hid c1
  have ht : ((bs mk).toList == [65, 82]) = false := by rw [toList_bs]; simpa using hm
  clear hm hlen
  go_enter Tryz.func14, Tryz.ntmps14
  go_wp2_with fail
  refine (newReader_any s w).mono ?_
  rintro e W1 ⟨rfl, g1⟩
  have R : RdAt (W1.alloc (.cells #[.string s, .int .i64 0, .bool false] 59)) W1.heap.size s 0 false := heap_alloc_new W1 _
  have HR := hid R
  have G1 := hid (grown_trans g1 (World.grownBy_alloc W1 (.cells #[.string s, .int .i64 0, .bool false] 59) none))
  have hz := hid g1.size
  clear R g1
  go_wp2_with fail
  refine (c0.out _ _ HR.out).mono ?_
  rintro e W2 ⟨rfl, r2, q2⟩
  have HR2 := hid r2
  have G2 := hid (grown_above G1.out q2 hz.out)
  clear r2 q2
  go_wp2_with fail
  refine (c1.out _ _ HR2.out).mono ?_
  rintro e W3 ⟨rfl, r3, q3⟩
  have G3 := hid (grown_above G2.out q3 hz.out)
  clear r3 q3
  go_wp2
  go_ret2
  exact ⟨rfl, G3.out⟩

theorem linkMembers_mark (s : ByteArray) (w : World) (hs : s.size ≤ 1048576) (hm : (Lk.rdText (sl s) 2 (0, false)).1 ≠ [65, 82]) :
    Calls Tryz.prog 9 #[.string s] w fun e w' => e = .returned (.tuple #[.slice none 0 0, .int .i64 21]) ∧ w.grownBy w' none := by
  have c := hid (members_mark s w hs hm)
  clear hm
  go_enter Tryz.func9, Tryz.ntmps9
  go_wp2_with fail
  refine c.out.mono ?_
  rintro e W1 ⟨rfl, g⟩
  have G := hid g
  clear g
  go_wp2
  go_ret2
  exact ⟨rfl, G.out⟩

/-- bytes that begin otherwise than an image's -/
theorem imgRead_mark (s : ByteArray) (w : World) (hs : s.size ≤ 1048576) (hm : (Lk.rdText (sl s) 2 (0, false)).1 ≠ [73, 77]) :
    Calls Tryz.prog 15 #[.string s] w fun e w' => e = .returned (.tuple #[.pointer none, .int .i64 23]) ∧ w.grownBy w' none := by
  have HM := hid hm
  clear hm
  go_enter Tryz.func15, Tryz.ntmps15
  go_wp2_with fail
  refine (newReader_any s w).mono ?_
  rintro e W1 ⟨rfl, g1⟩
  have R : RdAt (W1.alloc (.cells #[.string s, .int .i64 0, .bool false] 59)) W1.heap.size s 0 false := heap_alloc_new W1 _
  have HR := hid R
  have G1 := hid (grown_trans g1 (World.grownBy_alloc W1 (.cells #[.string s, .int .i64 0, .bool false] 59) none))
  have hz := hid g1.size
  clear R g1
  go_wp2_with fail
  refine (readImage_no W1.heap.size s 0 false _ HR.out hs (Nat.zero_le _) HM.out).mono ?_
  rintro e W2 ⟨rfl, q2⟩
  have G2 := hid (grown_above G1.out q2 hz.out)
  clear q2
  go_wp2
  go_ret2
  exact ⟨rfl, G2.out⟩

theorem load_mark (s : ByteArray) (w : World) (hs : s.size ≤ 1048576) (hm : (Lk.rdText (sl s) 2 (0, false)).1 ≠ [73, 77]) :
    Calls Tryz.prog 10 #[.string s] w fun e w' => e = .returned (.tuple #[.pointer none, .int .i64 23]) ∧ w.grownBy w' none := by
  have c := hid (imgRead_mark s w hs hm)
  clear hm
  go_enter Tryz.func10, Tryz.ntmps10
  go_wp2_with fail
  refine c.out.mono ?_
  rintro e W1 ⟨rfl, g⟩
  have G := hid g
  clear g
  go_wp2
  go_ret2
  exact ⟨rfl, G.out⟩

/-- an object's bytes read -/
theorem linkRead_obj (o : Lk.Obj) (w : World) (ht : Tabs w) (hv : Valid o) :
    Calls Tryz.prog 7 #[.string (bs (Lk.objB o))] w fun e w' => (∃ g, e = .returned (.tuple #[.pointer (some ⟨g, 0, none⟩), .int .i64 0]) ∧ ObjAt w' g o) ∧ w.grownBy w' none := by
  have c := hid (read_any (bs (Lk.objB o)) w ht (by rw [bs_size]; have := valid_short hv; omega))
  have R := hid (show Lk.readObj (sl (bs (Lk.objB o))) = some o by rw [sl_bs]; exact (Lk.readObj_iff _ _).2 ⟨valid_good hv, rfl⟩)
  have HV := hid hv
  clear ht hv
  go_enter Tryz.func7, Tryz.ntmps7
  go_wp2_with fail
  refine c.out.mono ?_
  rintro e W1 ⟨h, g⟩
  have G := hid g
  clear g c
  rcases h with ⟨o', g, h1, _, rfl, h4, _⟩ | ⟨h, _⟩
  · have e := h1.symm.trans R.out
    simp only [Option.some.injEq] at e
    subst e
    have HO := hid h4
    clear h1 h4 R
    go_wp2
    go_ret2
    exact ⟨⟨g, rfl, HO.out⟩, G.out⟩
  · exact absurd HV.out (h o R.out)

theorem linkWrite_obj (g : Nat) (o : Lk.Obj) (w : World) (ht : Tabs w) (h : ObjAt w g o) (hv : Valid o) :
    Calls Tryz.prog 8 #[.pointer (some ⟨g, 0, none⟩)] w fun e w' => e = .returned (.tuple #[.string (bs (Lk.objB o)), .int .i64 0]) ∧ w.grownBy w' none := by
  have c := hid (write_yes g o w ht h (valid_good hv) hv)
  clear ht h hv
  go_enter Tryz.func8, Tryz.ntmps8
  go_wp2_with fail
  refine c.out.mono ?_
  rintro e W1 ⟨rfl, g⟩
  have G := hid g
  clear g
  go_wp2
  go_ret2
  exact ⟨rfl, G.out⟩

theorem objB_mark (o : Lk.Obj) : (Lk.rdText (sl (bs (Lk.objB o))) 2 (0, false)).1 = [76, 75] := by
  rw [sl_bs, Lk.objB_eq]
  unfold Lk.rdText
  simp

def nopB : List UInt8 := [110, 111, 112]
theorem nop_eval : (As.assemble nopB).1.1 = 0 ∧ Valid (As.assemble nopB).2 := by decide +kernel
theorem nop_told {t : List UInt8} {fe fa : Nat} (h : Told nopB t fe fa) : fe = 0 ∧ t.length ≤ 65535 := by
  rcases h with ⟨h, _⟩ | ⟨_, hv, rfl, rfl, _⟩ | ⟨_, h, _⟩
  · exact absurd nop_eval.1 h
  · exact ⟨rfl, valid_short hv⟩
  · exact absurd nop_eval.2 h

end Go.Proofs.YtmhbgnlfdiahpaaGreatDoor

namespace Go.Proofs.YtmhbgnlfdiahpaaGreatDoor
open Go.RowKit

set_option maxHeartbeats 4000000 in
theorem made_nop (b : Nat) (w : World) (h : w.cell? ⟨b, 0, none⟩ = some (.string (bs nopB))) (ht : Tabs w) (hN : NTab w) (hB : 3 ≤ w.heap.size) :
    Calls Tryz.prog 6 #[.slice (some ⟨b, 0, none⟩) 1 1] w fun e w' => (∃ v, e = .returned (.tuple #[v, .bool true])) ∧ w.grownBy w' none := by
  obtain ⟨i0, hi, hz0, hz1, hz2⟩ := info_parts Tryz.infoStr
  have HC := hid h
  have HT := hid ht
  have HN := hid hN
  clear h ht hN
  go_enter Tryz.func6, Tryz.ntmps6
  go_wp2
  go_loopw [4, 5] (fun v i wr => ∃ (k : Nat) (xs : List Value), k ≤ 1 ∧ i = .int .i64 k ∧ wr.ownsRow w.heap.size 9 1 v k xs ∧ w.grownBy wr none) (fun _ i _ => 1 - (intOf i).toNat)
  case atStart => exact ⟨0, [], Nat.zero_le _, rfl, World.ownsRow_nil _ _ _ _, World.grownBy.refl _ _⟩
  case round =>
    obtain ⟨k, xs, hk, rfl, hown, hgr⟩ := hrel
    obtain ⟨av, cv, rfl⟩ := own_form hown
    have HO := hid hown
    have G := hid hgr
    clear hown hgr
    by_cases h0 : k = 0
    · subst h0
      have cc := gcell HC.out G.out
      have hz := G.out.size
      go_wp2_with fail
      refine (linkAssemble_any (bs nopB) wr (HT.out.grown G.out) (HN.out.below (grown_below G.out (Nat.le_refl _) (by simp)) hB) (by omega)).mono ?_
      rintro e V ⟨⟨t, fe, fa, rfl, htold⟩, hg⟩
      rw [sl_bs] at htold
      obtain ⟨rfl, hlen⟩ := nop_told htold
      have G2 := hid (grown_trans (grown_trans G.out hg) (World.grownBy_alloc V (.cells #[.int .i64 0, .int .i64 fa, .string ⟨#[]⟩] 25) none))
      have HO2 := hid ((HO.out.kept hg (by cases hv : Value.ownBlock (.slice av 0 cv) <;> simp)).alloc (.cells #[.int .i64 0, .int .i64 fa, .string ⟨#[]⟩] 25))
      have hzz := hg.size
      have CN := cell_one_new (V.alloc (.cells #[.int .i64 0, .int .i64 fa, .string ⟨#[]⟩] 25)) (.string (bs t)) 9
      rw [size_alloc] at CN
      have CNH := hid CN
      clear htold hg cc HO G CN
      unfold faultA
      go_wp2_with (at_builtin; refine wpList_append_own _ rfl _ _ 28 rfl w.heap.size 9 i0 (.string ⟨#[]⟩) 1 16 Tryz.underlying28 hi hz0 hz1 hz2 rfl (by decide) _ _ _ rfl (HO2.out.alloc _) ⟨V.heap.size + 1, 0, none⟩ 1 1 [.string (bs t)] rfl rfl CNH.out (by intro u hu; simp at hu; subst hu; rfl) (by unfold maxLen; omega) (by omega) (by simp; omega) ?_; intro v' w3 hown' hgrow _; obtain ⟨av', cv', rfl⟩ := own_form hown'; have K := hid hown'; have GK := hid (grown_ownN (grown_trans G2.out (World.grownBy_alloc _ _ _)) hgrow (fun b hb => (HO2.out.lt b hb).1)); clear hgrow hown')
      go_wp2
      go_roundw
      case rel => exact ⟨1, _, by omega, by go_num, K.out, GK.out⟩
      case measure => simp [intOf]
    · obtain rfl : k = 1 := by omega
      go_wp2
      go_ret2
      exact ⟨⟨_, rfl⟩, G.out⟩

/-- Back at a text whose object is one -/
theorem told_fail {s t : List UInt8} {fe fa : Nat} (h : Told s t fe fa) : (fe ≠ 0 ∧ t = []) ∨ (fe = 0 ∧ ∃ o, Valid o ∧ t = Lk.objB o) := by
  rcases h with ⟨h1, h2, h3, _⟩ | ⟨_, h2, h3, h4, _⟩ | ⟨_, _, h3, h4, _⟩
  · exact .inl ⟨by omega, h2⟩
  · exact .inr ⟨h4, _, h2, h3⟩
  · exact .inl ⟨by omega, h3⟩

set_option maxHeartbeats 4000000 in
theorem backIn_any (s : ByteArray) (w : World) (ht : Tabs w) (hN : NTab w) (hB : 3 ≤ w.heap.size) :
    Calls Tryz.prog 4 #[.string s] w fun e w' => e = .returned (.bool true) ∧ w.grownBy w' none := by
  have cA := hid (linkAssemble_any s w ht hN hB)
  have HT := hid ht
  have HN := hid hN
  clear ht hN
  go_enter Tryz.func4, Tryz.ntmps4
  go_wp2_with fail
  refine cA.out.mono ?_
  rintro e V ⟨⟨t, fe, fa, rfl, told⟩, hg⟩
  have TF := told_fail told
  have GV := hid (grown_trans hg (World.grownBy_alloc V (.cells #[.int .i64 fe, .int .i64 fa, .string ⟨#[]⟩] 25) none))
  clear told hg cA
  unfold faultA
  rcases TF with ⟨hf, rfl⟩ | ⟨rfl, o, hv, rfl⟩
  · have d : ((fe : Int) == 0) = false := by simp; omega
    have b2 : (bs []).toList.isEmpty = true := by rw [toList_bs]; rfl
    have G2 := hid (grown_trans GV.out (World.grownBy_alloc _ (.cells #[.string (bs nopB)] 9) none))
    have hz := G2.out.size
    have NC := hid (show ((V.alloc (.cells #[.int .i64 fe, .int .i64 fa, .string ⟨#[]⟩] 25)).alloc (.cells #[.string (bs nopB)] 9)).cell? ⟨V.heap.size + 1, 0, none⟩ = some (.string (bs nopB)) by
      simp)
    go_wp2_with fail
    refine (made_nop (V.heap.size + 1) _ NC.out (HT.out.grown G2.out) (HN.out.below (grown_below G2.out (Nat.le_refl _) (by simp)) hB) (by omega)).mono ?_
    rintro e V2 ⟨⟨v, rfl⟩, hg⟩
    have G3 := hid (grown_trans G2.out hg)
    clear hg NC
    go_wp2
    go_ret
    exact ⟨rfl, G3.out⟩
  · have HV := hid hv
    have hs : (bs (Lk.objB o)).size ≤ 1048576 := by rw [bs_size]; have := valid_short hv; omega
    have MK := hid (objB_mark o)
    have cR := hid (fun W hW => linkRead_obj o W hW hv)
    have cW := hid (fun g W hW hO => linkWrite_obj g o W hW hO hv)
    have cM := hid (fun W => linkMembers_mark (bs (Lk.objB o)) W hs (by rw [MK.out]; decide))
    have cL := hid (fun W => load_mark (bs (Lk.objB o)) W hs (by rw [MK.out]; decide))
    clear hv hs
    generalize bs (Lk.objB o) = T at *
    go_wp2_with fail
    refine (cR.out _ (HT.out.grown GV.out)).mono ?_
    rintro e V2 ⟨⟨g, rfl, hO⟩, hg⟩
    have HO := hid hO
    have G2 := hid (grown_trans GV.out hg)
    clear hO hg
    go_wp2_with fail
    refine (cW.out g V2 (HT.out.grown G2.out) HO.out).mono ?_
    rintro e V3 ⟨rfl, hg⟩
    have G3 := hid (grown_trans G2.out hg)
    clear hg
    go_wp2_with fail
    refine (cM.out V3).mono ?_
    rintro e V4 ⟨rfl, hg⟩
    have G4 := hid (grown_trans G3.out hg)
    clear hg
    go_wp2_with fail
    refine (cL.out V4).mono ?_
    rintro e V5 ⟨rfl, hg⟩
    have G5 := hid (grown_trans G4.out hg)
    clear hg
    go_wp2
    go_ret
    exact ⟨rfl, G5.out⟩

theorem back_any (s : ByteArray) (w : World) (ht : Tabs w) (hN : NTab w) (hB : 3 ≤ w.heap.size) :
    Calls Tryz.prog 3 #[.string s] w fun e w' => e = .returned (.bool true) ∧ w.grownBy w' none := by
  have cB := hid (backIn_any s w ht hN hB)
  clear ht hN
  by_cases hl : 1048576 < s.size
  · have d : decide (1048576 < (s.size : Int)) = true := by simp; omega
    go_enter Tryz.func3, Tryz.ntmps3
    go_wp2
    go_ret
    exact ⟨rfl, World.grownBy.refl _ _⟩
  · have d : decide (1048576 < (s.size : Int)) = false := by simp; omega
    go_enter Tryz.func3, Tryz.ntmps3
    go_wp2_with fail
    refine cB.out.mono ?_
    rintro e V ⟨rfl, hg⟩
    have G := hid hg
    clear hg
    go_wp2
    go_ret
    exact ⟨rfl, G.out⟩

end Go.Proofs.YtmhbgnlfdiahpaaGreatDoor

namespace Go.Proofs.YtmhbgnlfdiahpaaGreatDoor
open Go.ChangeShapes Go.WideShapes Go.ChangeAt Go.RowKit

theorem ownKnobNone : ownKnob Tryz.prog.godebug = none := by kernel_rfl
theorem gForm : Tryz.prog.globalNamed "linker/instr.forms" = some 1 := by kernel_rfl
theorem gFix : Tryz.prog.globalNamed "linker/instr.fixed" = some 2 := by kernel_rfl
theorem gNam : Tryz.prog.globalNamed "linker/instr.names" = some 0 := by kernel_rfl
theorem gFormType : (Tryz.prog.globals[1]?).map (·.type) = some 138 := by kernel_rfl
theorem gFixType : (Tryz.prog.globals[2]?).map (·.type) = some 138 := by kernel_rfl
theorem gNamType : (Tryz.prog.globals[0]?).map (·.type) = some 119 := by kernel_rfl
theorem cellsArr : Tryz.prog.cellsOf 138 = 26 := by kernel_rfl
theorem cellsInt : Tryz.prog.cellsOf 3 = 1 := by kernel_rfl
theorem cellsStrs : Tryz.prog.cellsOf 119 = 26 := by kernel_rfl
theorem cellsStr : Tryz.prog.cellsOf 9 = 1 := by kernel_rfl
theorem undArr : Tryz.prog.underlying 138 = some (.array 26 3) := by kernel_rfl
theorem undStrs : Tryz.prog.underlying 119 = some (.array 26 9) := by kernel_rfl
theorem undStr : Tryz.prog.underlying 9 = some .string := by kernel_rfl
theorem undInt : Tryz.prog.underlying 3 = some (.int .i64) := by kernel_rfl

/-- a table of texts as a row lists it -/
def strData {H : Type} (zs : List (List UInt8)) : DataW H := .agg (zs.map fun z => .lit (.string z))

theorem cells_of_strs {H : Type} {enc : TypeId × Value → H} {P : Program} {w : World} {base : Nat} {sp : Nat → Bool} {held : Bool} {fuel : Nat} {t e : TypeId} {n : Nat} {cs : List Value} {zs : List (List UInt8)} {p : List MemPlace}
    (ht : P.underlying t = some (.array n e)) (he : P.underlying e = some .string) (hce : P.cellsOf e = 1) (hct : P.cellsOf t = n)
    (h : DataW.trod enc P w base sp held fuel t cs = some (strData zs, p)) : cs = zs.map fun z => Value.string (bs z) := by
  cases fuel with
  | zero => simp [DataW.trod] at h
  | succ fuel =>
    simp only [DataW.trod, ht, hce, hct, Nat.mul_one] at h
    split at h
    · rename_i hl
      obtain ⟨xs, hm, hx⟩ := Option.map_eq_some_iff.1 h
      have hxs : xs.map (·.1) = zs.map fun z => (DataW.lit (.string z) : DataW H) := by
        have := congrArg Prod.fst hx
        simpa [strData] using this
      have hxl : xs.length = n := by simpa using Lib.mapM_length hm
      have hzl : zs.length = n := by
        have := congrArg List.length hxs
        simp at this
        omega
      apply List.ext_getElem?
      intro i
      by_cases hi : i < n
      · obtain ⟨b, hb, hf⟩ := Lib.mapM_at hm i i (by simp [hi])
        obtain ⟨z, hc, rfl, _⟩ := DataW.trod_string he hf
        have h1 : cs[i]? = some (.string z) := by
          have := congrArg (·[0]?) hc
          simpa [List.getElem?_take, List.getElem?_drop] using this
        have h2 : (xs.map (·.1))[i]? = some (DataW.lit (.string z.data.toList) : DataW H) := by simp [hb]
        rw [hxs] at h2
        simp only [List.getElem?_map, Option.map_eq_some_iff, DataW.lit.injEq, Lit.string.injEq] at h2
        obtain ⟨z', hz', rfl⟩ := h2
        have hbz : bs z.data.toList = z := bs_sl z
        simp [h1, hz', hbz]
      · rw [List.getElem?_eq_none (by omega), List.getElem?_eq_none (by simp; omega)]
    · cases h

theorem cell_lt {W : World} {b o : Nat} {v : Value} (h : W.cell? ⟨b, o, none⟩ = some v) : b < W.heap.size := by
  by_cases hb : b < W.heap.size
  · exact hb
  · exfalso
    simp only [World.cell?] at h
    rw [Array.getElem?_eq_none (by omega)] at h
    cases h

/-- what the rows' list gives: the tables -/
theorem tabs3_of_laid {W : World} (h : laidMet Tryz.prog [("linker/instr.forms", Lib.tabData .i64 formL), ("linker/instr.fixed", Lib.tabData .i64 fixedL), ("linker/instr.names", strData As.names)] W) : Tabs W ∧ NTab W ∧ 3 ≤ W.heap.size := by
  have t1 : Lib.TabIs Tryz.prog W "linker/instr.forms" .i64 formL := Lib.tabIs_of_head gForm gFormType undArr undInt cellsInt cellsArr h
  obtain ⟨ps, ⟨g', t', cs, fuel, p, q, hg', ht', hvar, hd, ⟨g2, t2, cs2, fuel2, p2, q2, hg2, ht2, hvar2, hd2, ⟨g3, t3, cs3, fuel3, p3, q3, hg3, ht3, hvar3, hd3, _, _⟩, _⟩, _⟩, _⟩ := h
  obtain rfl := Option.some.inj (gFix.symm.trans hg2)
  obtain rfl := Option.some.inj (gFixType.symm.trans ht2)
  obtain rfl := Option.some.inj (gNam.symm.trans hg3)
  obtain rfl := Option.some.inj (gNamType.symm.trans ht3)
  have e2 : Lib.TabIs Tryz.prog W "linker/instr.fixed" .i64 fixedL := by
    unfold Lib.TabIs
    rw [hvar2, ← Lib.cells_of_tab undArr undInt cellsInt cellsArr hd2]
  have e3 : W.var? Tryz.prog "linker/instr.names" = some (As.names.map fun z => Value.string (bs z)).toArray := by
    rw [hvar3, ← cells_of_strs undStrs undStr cellsStr cellsStrs hd3]
  have T : Tabs W := ⟨fun i hi => t1.cell gForm i hi, fun i hi => e2.cell gFix i hi⟩
  have N : NTab W := by
    intro i hi
    have hl : As.names.length = 26 := by decide
    have := World.var?_cell gNam e3 i
    rw [this]
    simp [List.getD, hl, hi]
  refine ⟨T, N, ?_⟩
  have a := cell_lt (T.1 0 (by decide))
  have b := cell_lt (T.2 0 (by decide))
  have c := cell_lt (N 0 (by decide))
  omega

theorem kept_of_grown {W W' : World} (h : W.grownBy W' none) (may : MemPlace → Prop) : W.keptBut W' may := by
  refine World.keptBut_mono (fun _ f => f.elim) (?_ : W.keptBut W' (fun _ => False))
  refine ⟨h.os, h.output, fun i hi => ?_⟩
  rw [h.block i hi (by simp)]
  cases hb : W.heap[i]? with
  | none => trivial
  | some o => cases o <;> simp

/-- a world for the witness: the settled one, the tables holding what is laid -/
def tabObj (zs : List Int) : Obj → Obj
  | .cells _ t frozen => .cells (zs.map (Value.int .i64)).toArray t frozen
  | o => o
def strObj (zs : List (List UInt8)) : Obj → Obj
  | .cells _ t frozen => .cells (zs.map fun z => Value.string (bs z)).toArray t frozen
  | o => o
noncomputable def laidWorld (os : Os) : World :=
  { World.holding Tryz.prog os ⟨#[], #[], []⟩ with heap := (((World.holding Tryz.prog os ⟨#[], #[], []⟩).heap.modify 1 (tabObj formL)).modify 2 (tabObj fixedL)).modify 0 (strObj As.names) }

end Go.Proofs.YtmhbgnlfdiahpaaGreatDoor

namespace Go.Proofs.YtmhbgnlfdiahpaaGreatDoor
open Go.ChangeShapes Go.WideShapes Go.ChangeAt Go.RowKit

set_option maxRecDepth 100000 in
theorem back_contract (H : Type) (enc : TypeId × Value → H) (W : World) (base : Nat) (args : Array Value) (ds gs : List (DataW H)) (before : List MemPlace)
    (hval : ∀ (j : Nat) t v, Tryz.f3.params[j]? = some t → args[j]? = some v → Value.okWide Tryz.prog W .any base t v)
    (hW : DataW.Whole enc Tryz.prog Tryz.f3.params.toList Rows.backSpec.vars false W args.toList ds gs before) (hL : laidMetH Tryz.prog Rows.backRow.laid W) :
    Calls Tryz.prog 3 args W fun e W' => ∃ v, e = .returned v ∧ Rows.backSpec.post enc Tryz.prog Tryz.f3 false true false false W args v W' := by
  have hW' := hW
  obtain ⟨p, q, hA0, hV, rfl, hfz, hnd⟩ := hW
  have hA : DataW.TrodAll enc Tryz.prog W 0 (fun _ => true) true Tryz.f3.params.toList args.toList ds p := hA0
  rw [Tryz.params3] at hA hval
  obtain ⟨v0, vs0, d0, ds0, p0, q0, hargs, rfl, rfl, h0, r0⟩ := trodAll_cons hA
  obtain ⟨rfl, rfl, rfl⟩ := trodAll_nil r0
  obtain rfl : args = #[v0] := by cases args; simp_all
  obtain ⟨rfl, rfl⟩ := trodVars_none hV
  have hv : Value.okWide Tryz.prog W .any base 9 v0 := hval 0 9 v0 rfl rfl
  obtain ⟨s, rfl, rfl, rfl, hs⟩ := ChangeMaps.open_string (t := 9) Tryz.underlying9 hv h0
  clear hA0
  simp only [List.append_nil] at hW'
  obtain ⟨hT, hN, hB⟩ := tabs3_of_laid hL
  refine (back_any s W hT hN hB).mono fun e W' ⟨he, hg⟩ => ?_
  subst he
  exact ⟨_, rfl, _, _, _, [], [], [], hW', trodAll_cons_mk (shut_bool Tryz.underlying4 _) trodAll_mk0, trodAll_cons_mk (ChangeMaps.shut_string Tryz.underlying9 hs) trodAll_mk0, rfl, kept_of_grown hg _, fun h => by cases h⟩

theorem laid_met (os : Os) : laidMet Tryz.prog Rows.backRow.laid ((laidWorld os).forCall (fun _ _ => 0) ⟨#[], #[.string ⟨#[]⟩], []⟩).memory :=
  laidMet_of_run' 8 (by kernel_rfl) (by kernel_rfl)
theorem witness_reads (os : Os) {H : Type} (enc : TypeId × Value → H) : ∃ places, DataW.whole enc Tryz.prog ((laidWorld os).forCall (fun _ _ => 0) ⟨#[], #[.string ⟨#[]⟩], []⟩).memory Tryz.f3.params.toList Rows.backSpec.vars false #[Value.string ⟨#[]⟩].toList 8 = some ([.lit (.string [])], [], places) :=
  ⟨[], by kernel_rfl⟩

set_option maxRecDepth 100000 in
theorem back_lifted (os : Os) (started : os.Started) (H : Type) (enc : TypeId × Value → H) (F : Stop.Interp) :
    ReturnsInHanded {} Tryz.checked os 3 .any ((OpenSpec.ofChange Rows.backSpec).preRow enc Tryz.prog Tryz.f3 Rows.backRow.domain false Rows.backRow.laid) (((OpenSpec.ofChange Rows.backSpec).at F).post enc Tryz.prog Tryz.f3 false true false false) := by
  obtain ⟨places, hx⟩ := witness_reads os enc
  refine returnsInHanded_of_row (C := Tryz.checked) (s := OpenSpec.ofChange Rows.backSpec) ownKnobNone started (by kernel_rfl) Tryz.func3
    (witness_row_at (enc := enc) (C := Tryz.checked) false (laidWorld os) #[.string ⟨#[]⟩] rfl (by kernel_rfl) (by kernel_rfl) (by kernel_rfl)
      (OpenSpec.preRow_of_cond 8 hx (by kernel_rfl) (fun k hk => by cases hk) (by kernel_rfl) (laid_met os))) ?_
  intro W base args ds gs before hval hW _ _ _ hL _ _
  exact back_contract H enc W base args ds gs before hval hW hL

theorem back_said : Rows.BackSaid :=
  OpenClaim.holds_of_cond 3 Tryz.f3 rfl rfl rfl rfl rfl rfl rfl ⟨rfl, rfl, rfl, rfl, rfl⟩ rfl rfl rfl rfl rfl (by kernel_rfl) Tryz.func3 (by kernel_rfl)
    (of_decide_eq_true (by kernel_rfl)) (by unfold Func.isWrapper; first | (rw [if_pos (by decide +kernel)]; kernel_rfl) | (rw [if_neg (by decide +kernel)]; exact ⟨rfl, rfl⟩))
    (fun os started H enc _ F => by rw [OpenClaim.pre_eq_preRow]; exact back_lifted os started H enc F)

theorem back_plain (f : FuncId) (fn : Func) (hf : Tryz.pinned.checked.prog.funcNamed "linker/linkerkeep.Back" = some f) (hfn : Tryz.pinned.checked.prog.funcs[f]? = some fn) :
    false = Tryz.pinned.checked.prog.looks [] ∧ ∀ (j : Nat) t, fn.params[j]? = some t → Tryz.pinned.checked.prog.wantsStandIn t = false := by
  obtain rfl : f = 3 := Option.some.inj ((show Tryz.prog.funcNamed "linker/linkerkeep.Back" = some 3 by kernel_rfl).symm.trans hf) |>.symm
  obtain rfl : fn = Tryz.f3 := (Option.some.inj (Tryz.func3.symm.trans hfn)).symm
  refine ⟨by kernel_rfl, fun j t ht => ?_⟩
  rw [Tryz.params3] at ht
  obtain rfl : t = 9 := by simpa using Array.mem_of_getElem? ht
  exact (show Tryz.prog.wantsStandIn 9 = false by kernel_rfl)

/-- the card -/
theorem back_card : Rows.BackCardSaid :=
  Claim7.holds_tied_plain_at .later [] _ _ _ _ back_said (fun _ h => by cases h) (by kernel_rfl) (fun _ h => by cases h) back_row_tie rfl ⟨rfl, rfl⟩ (by kernel_rfl) rfl back_plain (by kernel_rfl)

end Go.Proofs.YtmhbgnlfdiahpaaGreatDoor
