/- Walks over the document's answer: ParseImage. -/
/- Walks over the document's answer: ParseImage, the whole. -/
/- The document's machine in memory; its small parts. -/
import Derived.Test.YtaiplongpjimnaaDoorG04
namespace Go.Proofs.YtaiplongpjimnaaDoor
open Go.RowKit

theorem grown_high {w a c : World} {row : Option Nat} (h : w.grownBy a none) (k : a.grownBy c row) (hb : ∀ b, row = some b → w.heap.size ≤ b) : w.grownBy c none :=
  ⟨k.os.trans h.os, k.tape.trans h.tape, k.output.trans h.output, Nat.le_trans h.size k.size, fun i hi _ =>
    (k.block i (Nat.lt_of_lt_of_le hi h.size) (fun e => by have := hb i e.symm; omega)).trans (h.block i hi (by simp))⟩
theorem size_set (w : World) (a : Addr) (v : Value) : (w.setCell a v).heap.size = w.heap.size := by simp [World.setCell]

/-- while the words of an image are read: its regions' rows, each behind the one ahead -/
structure PLs (w : World) (l : List UInt8) (g nt nf k : Nat) (a0 a1 a2 a3 : Int) (vT vF vD : Value) (B1 B2 : Nat) (wr : World) : Prop where
  obj : BlkAt wr g #[.int .i64 a0, .int .i64 a1, .int .i64 a2, .int .i64 a3, vT, vF, vD] 49
  rT : wr.ownsRow (g + 1) 3 1 vT (min k nt) ((Im.words l 26 (min k nt)).map (Value.int .i64))
  rF : wr.ownsRow B1 3 1 vF (min (k - nt) nf) ((Im.words l (26 + 4 * nt) (min (k - nt) nf)).map (Value.int .i64))
  rD : wr.ownsRow B2 3 1 vD (k - nt - nf) ((Im.words l (26 + 4 * nt + 4 * nf) (k - nt - nf)).map (Value.int .i64))
  tB1 : ∀ b, vT.ownBlock = some b → b < B1
  tB2 : ∀ b, vT.ownBlock = some b → b < B2
  fB2 : ∀ b, vF.ownBlock = some b → b < B2
  sz : (B1 ≤ wr.heap.size ∧ B2 ≤ wr.heap.size) ∧ g < B1 ∧ g < B2
  nF : k ≤ nt → vF = .slice none 0 0
  nD : k ≤ nt + nf → vD = .slice none 0 0
  gr : w.grownBy wr none
  lo : w.heap.size ≤ g

section
variable {w wr w3 : World} {l : List UInt8} {g nt nf k : Nat} {a0 a1 a2 a3 : Int} {vT vF vD v' : Value} {B1 B2 : Nat} {ob : Obj}

theorem PLs.pre (h : PLs w l g nt nf k a0 a1 a2 a3 vT vF vD B1 B2 wr) {row : Option Nat} (hg : (wr.alloc ob).grownBy w3 row) (hr : ∀ b, row = some b → g < b) :
    BlkAt w3 g #[.int .i64 a0, .int .i64 a1, .int .i64 a2, .int .i64 a3, vT, vF, vD] 49 ∧ w.grownBy w3 none :=
  ⟨(h.obj.grown (World.grownBy_alloc wr ob none) (by simp)).grown hg (fun e => by have := hr g e.symm; omega),
    grown_high (grown_trans h.gr (World.grownBy_alloc wr ob none)) hg (fun b e => by have := hr b e; have := h.lo; omega)⟩
theorem kept_row {B : Nat} {v : Value} {n : Nat} {xs : List Value} {row : Option Nat} (hr : wr.ownsRow B 3 1 v n xs) (hg : (wr.alloc ob).grownBy w3 row) (hne : ∀ b, row = some b → v.ownBlock ≠ some b) : w3.ownsRow B 3 1 v n xs :=
  (hr.alloc ob).kept hg (by
    cases row with
    | none => cases hv : v.ownBlock <;> simp
    | some b => exact .inr (hne b rfl))

theorem PLs.stepT (h : PLs w l g nt nf k a0 a1 a2 a3 vT vF vD B1 B2 wr) (hk : k < nt) (hown : w3.ownsRow (g + 1) 3 1 v' (k + 1) ((Im.words l 26 (k + 1)).map (Value.int .i64))) (hg : (wr.alloc ob).grownBy w3 vT.ownBlock) :
    PLs w l g nt nf (k + 1) a0 a1 a2 a3 v' (.slice none 0 0) (.slice none 0 0) w3.heap.size w3.heap.size (w3.setCell ⟨g, 4, none⟩ v') := by
  have hT : ∀ b, vT.ownBlock = some b → g < b := fun b e => (h.rT.lt b e).1
  obtain ⟨P, G⟩ := h.pre hg hT
  have eF := h.nF (by omega)
  have eD := h.nD (by omega)
  subst eF eD
  have m1 : min (k + 1) nt = k + 1 := by omega
  have m2 : min (k + 1 - nt) nf = 0 := by omega
  have m3 : k + 1 - nt - nf = 0 := by omega
  refine ⟨P.set 4 v', by rw [m1]; exact ownsRow_setCell_below hown (show g < _ by omega) v', by rw [m2]; exact World.ownsRow_nil _ _ _ _, by rw [m3]; exact World.ownsRow_nil _ _ _ _, fun b e => (hown.lt b e).2, fun b e => (hown.lt b e).2, by simp [Value.ownBlock],
    ⟨⟨by rw [size_set]; exact Nat.le_refl _, by rw [size_set]; exact Nat.le_refl _⟩, P.lt, P.lt⟩, fun _ => rfl, fun _ => rfl, grown_high G (grown_set w3 g 4 v') (by intro b e; simp at e; have := h.lo; omega), h.lo⟩

theorem PLs.stepF (h : PLs w l g nt nf k a0 a1 a2 a3 vT vF vD B1 B2 wr) (h1 : nt ≤ k) (hk : k < nt + nf) (hown : w3.ownsRow B1 3 1 v' (k - nt + 1) ((Im.words l (26 + 4 * nt) (k - nt + 1)).map (Value.int .i64))) (hg : (wr.alloc ob).grownBy w3 vF.ownBlock) :
    PLs w l g nt nf (k + 1) a0 a1 a2 a3 vT v' (.slice none 0 0) B1 w3.heap.size (w3.setCell ⟨g, 5, none⟩ v') := by
  have hF : ∀ b, vF.ownBlock = some b → B1 ≤ b := fun b e => (h.rF.lt b e).1
  have hs := h.sz
  obtain ⟨P, G⟩ := h.pre hg (fun b e => by have := hF b e; omega)
  have eD := h.nD (by omega)
  subst eD
  have hz := hg.size
  rw [show (wr.alloc ob).heap.size = wr.heap.size + 1 from Array.size_push _] at hz
  have KT := kept_row h.rT hg (fun b e => fun c => by have := hF b e; have := h.tB1 b c; omega)
  have m0 : min k nt = nt := by omega
  have m1 : min (k + 1) nt = nt := by omega
  have m2 : min (k + 1 - nt) nf = k - nt + 1 := by omega
  have m3 : k + 1 - nt - nf = 0 := by omega
  rw [m0] at KT
  refine ⟨P.set 5 v', by rw [m1]; exact ownsRow_setCell_below KT (show g < _ by omega) v', by rw [m2]; exact ownsRow_setCell_below hown (show g < _ by omega) v', by rw [m3]; exact World.ownsRow_nil _ _ _ _, h.tB1, fun b e => by have := (KT.lt b e).2; omega, fun b e => (hown.lt b e).2,
    ⟨⟨by rw [size_set]; omega, by rw [size_set]; exact Nat.le_refl _⟩, hs.2.1, P.lt⟩, fun e => by omega, fun _ => rfl, grown_high G (grown_set w3 g 5 v') (by intro b e; simp at e; have := h.lo; omega), h.lo⟩

theorem PLs.stepD (h : PLs w l g nt nf k a0 a1 a2 a3 vT vF vD B1 B2 wr) (h1 : nt + nf ≤ k) (hown : w3.ownsRow B2 3 1 v' (k - nt - nf + 1) ((Im.words l (26 + 4 * nt + 4 * nf) (k - nt - nf + 1)).map (Value.int .i64))) (hg : (wr.alloc ob).grownBy w3 vD.ownBlock) :
    PLs w l g nt nf (k + 1) a0 a1 a2 a3 vT vF v' B1 B2 (w3.setCell ⟨g, 6, none⟩ v') := by
  have hD : ∀ b, vD.ownBlock = some b → B2 ≤ b := fun b e => (h.rD.lt b e).1
  have hs := h.sz
  obtain ⟨P, G⟩ := h.pre hg (fun b e => by have := hD b e; omega)
  have hz := hg.size
  rw [show (wr.alloc ob).heap.size = wr.heap.size + 1 from Array.size_push _] at hz
  have KT := kept_row h.rT hg (fun b e => fun c => by have := hD b e; have := h.tB2 b c; omega)
  have KF := kept_row h.rF hg (fun b e => fun c => by have := hD b e; have := h.fB2 b c; omega)
  have m0 : min k nt = nt := by omega
  have m1 : min (k + 1) nt = nt := by omega
  have m2 : min (k - nt) nf = nf := by omega
  have m3 : min (k + 1 - nt) nf = nf := by omega
  have m4 : k + 1 - nt - nf = k - nt - nf + 1 := by omega
  rw [m0] at KT
  rw [m2] at KF
  refine ⟨P.set 6 v', by rw [m1]; exact ownsRow_setCell_below KT (show g < _ by omega) v', by rw [m3]; exact ownsRow_setCell_below KF (show g < _ by omega) v', by rw [m4]; exact ownsRow_setCell_below hown (show g < _ by omega) v', h.tB1, h.tB2, h.fB2,
    ⟨⟨by rw [size_set]; omega, by rw [size_set]; omega⟩, hs.2.1, hs.2.2⟩, fun e => h.nF (by omega), fun e => by omega, grown_high G (grown_set w3 g 6 v') (by intro b e; simp at e; have := h.lo; omega), h.lo⟩

/-- the noughts behind the data -/
theorem PLs.fin (m : Im.Img) (nb nd : Nat) (hm : m = ⟨a0, a1, a2, a3, Im.words l 26 nt, Im.words l (26 + 4 * nt) nf, Im.words l (26 + 4 * nt + 4 * nf) nd, nb⟩)
    (h : PLs w l g nt nf (nt + nf + nd) a0 a1 a2 a3 vT vF vD B1 B2 wr) (hown : w3.ownsRow B2 3 1 v' (nd + nb) ((Im.words l (26 + 4 * nt + 4 * nf) nd).map (Value.int .i64) ++ List.replicate nb (.int .i64 0))) (hg : wr.grownBy w3 vD.ownBlock) :
    RImgAt (w3.setCell ⟨g, 6, none⟩ v') g m ∧ w.grownBy (w3.setCell ⟨g, 6, none⟩ v') none := by
  have hD : ∀ b, vD.ownBlock = some b → B2 ≤ b := fun b e => (h.rD.lt b e).1
  have hs := h.sz
  have P := h.obj.grown hg (fun e => by have := hD g e.symm; omega)
  have kr : ∀ {B : Nat} {v : Value} {n : Nat} {xs : List Value}, wr.ownsRow B 3 1 v n xs → (∀ b, vD.ownBlock = some b → v.ownBlock ≠ some b) → w3.ownsRow B 3 1 v n xs := fun {B v n xs} hr hne => hr.kept hg (by
    cases hv : vD.ownBlock with
    | none => cases hv' : v.ownBlock <;> simp
    | some b => exact .inr (hne b hv))
  have KT := kr h.rT (fun b e => fun c => by have := hD b e; have := h.tB2 b c; omega)
  have KF := kr h.rF (fun b e => fun c => by have := hD b e; have := h.fB2 b c; omega)
  have m0 : min (nt + nf + nd) nt = nt := by omega
  have m2 : min (nt + nf + nd - nt) nf = nf := by omega
  rw [m0] at KT
  rw [m2] at KF
  refine ⟨⟨vT, vF, v', ?_, ?_, ?_, ?_⟩, grown_high (grown_high h.gr hg (fun b e => by have := hD b e; have := h.lo; omega)) (grown_set w3 g 6 v') (by intro b e; simp at e; have := h.lo; omega)⟩
  · rw [hm]; exact P.set 6 v'
  · rw [hm]; simp only [Im.words_length]; exact own_base (ownsRow_setCell_below KT (show g < _ by omega) v') (Nat.zero_le _)
  · rw [hm]; simp only [Im.words_length]; exact own_base (ownsRow_setCell_below KF (show g < _ by omega) v') (Nat.zero_le _)
  · rw [hm]; simp only [Im.words_length, Int.toNat_natCast, List.map_append, List.map_replicate]; exact own_base (ownsRow_setCell_below hown (show g < _ by omega) v') (Nat.zero_le _)
end

end Go.Proofs.YtaiplongpjimnaaDoor

namespace Go.Proofs.YtaiplongpjimnaaDoor
open Go.RowKit

/-- what ParseImage gives -/
def ImgRet (s : ByteArray) (e : Ending) (w' : World) : Prop :=
  (Im.IsImg (sl s) ∧ ∃ g, e = .returned (.tuple #[.pointer (some ⟨g, 0, none⟩), .bool true]) ∧ RImgAt w' g (Im.imgOf (sl s))) ∨
  (¬ Im.IsImg (sl s) ∧ ∃ v, e = .returned (.tuple #[v, .bool false]))

theorem four_range (l : List UInt8) (p : Nat) : 0 ≤ atL l p 4 ∧ atL l p 4 < 4294967296 := by have := atL_range l p 4; simpa using this
theorem imgOf_tame (l : List UInt8) : Im.Tame (Im.imgOf l) := by
  have h := Im.n_le l
  have h2 := Im.two_range l 24
  refine ⟨four_range l 2, four_range l 6, four_range l 10, four_range l 14, ⟨?_, ?_, ?_⟩, ?_⟩
  · simp only [Im.imgOf, Im.words_length]; omega
  · simp only [Im.imgOf, Im.words_length]; omega
  · simp only [Im.imgOf, Im.words_length]; omega
  · simp only [Im.imgOf]; omega

theorem RImgAt.kept {W W' : World} {g : Nat} {m : Im.Img} (h : RImgAt W g m) (hg : W.grownBy W' none) : RImgAt W' g m := by
  obtain ⟨vt, vf, vd, hb, h1, h2, h3⟩ := h
  have k : ∀ {v : Value} {n : Nat} {xs : List Value}, W.ownsRow 0 3 1 v n xs → W'.ownsRow 0 3 1 v n xs := fun {v n xs} h => h.kept hg (by cases hv : v.ownBlock <;> simp)
  exact ⟨vt, vf, vd, hb.grown hg (by simp), k h1, k h2, k h3⟩

theorem imgOk_ref (m : Im.Img) : Im.ImgOk m ↔ (Im.Clear m.text m.T.length ∧ Im.Clear m.far m.F.length ∧ Im.Clear m.data ((m.D.length : Int) + m.noughts)) ∧
    (¬ Im.Meet m.text (m.text + 4 * (m.T.length : Int)) m.far (m.far + 4 * (m.F.length : Int)) ∧ ¬ Im.Meet m.text (m.text + 4 * (m.T.length : Int)) m.data (m.data + 4 * ((m.D.length : Int) + m.noughts)) ∧
      ¬ Im.Meet m.far (m.far + 4 * (m.F.length : Int)) m.data (m.data + 4 * ((m.D.length : Int) + m.noughts))) ∧ (Im.code m m.start).isSome = true := by
  rw [Im.code_iff]
  unfold Im.ImgOk Im.Base Im.Clear
  constructor
  · rintro ⟨⟨a, b, c⟩, ⟨d, e, f⟩, g, h⟩; exact ⟨⟨⟨a.1, d, a.2⟩, ⟨b.1, e, b.2⟩, ⟨c.1, f, c.2⟩⟩, g, h⟩
  · rintro ⟨⟨a, b, c⟩, g, h⟩; exact ⟨⟨⟨a.1, a.2.2⟩, ⟨b.1, b.2.2⟩, ⟨c.1, c.2.2⟩⟩, ⟨a.2.1, b.2.1, c.2.1⟩, g, h⟩

set_option maxRecDepth 100000 in
set_option maxHeartbeats 16000000 in
theorem parseImage_any (s : ByteArray) (w : World) (hs : s.size ≤ 1048576) :
    Calls Tryd.prog 8 #[.string s] w fun e w' => ImgRet s e w' ∧ w.grownBy w' none := by
  obtain ⟨i0, hi, hz0, hz1, hz2⟩ := info_parts Tryd.infoInt
  have a18 := hid (fun W => at_lit s 18 2 18 2 rfl rfl W hs (by omega) (by omega))
  have a20 := hid (fun W => at_lit s 20 2 20 2 rfl rfl W hs (by omega) (by omega))
  have a22 := hid (fun W => at_lit s 22 2 22 2 rfl rfl W hs (by omega) (by omega))
  have a24 := hid (fun W => at_lit s 24 2 24 2 rfl rfl W hs (by omega) (by omega))
  have a2 := hid (fun W => at_lit s 2 4 2 4 rfl rfl W hs (by omega) (by omega))
  have a6 := hid (fun W => at_lit s 6 4 6 4 rfl rfl W hs (by omega) (by omega))
  have a10 := hid (fun W => at_lit s 10 4 10 4 rfl rfl W hs (by omega) (by omega))
  have a14 := hid (fun W => at_lit s 14 4 14 4 rfl rfl W hs (by omega) (by omega))
  obtain ⟨n1, n2, n3, n4⟩ := Im.n_le (sl s)
  obtain ⟨e1, e2, e3, e4⟩ := Im.n_int (sl s)
  have TM := hid (imgOf_tame (sl s))
  have IO := hid (show Im.imgOf (sl s) = ⟨atL (sl s) 2 4, atL (sl s) 6 4, atL (sl s) 10 4, atL (sl s) 14 4, Im.words (sl s) 26 (Im.nT (sl s)), Im.words (sl s) (26 + 4 * Im.nT (sl s)) (Im.nF (sl s)), Im.words (sl s) (26 + 4 * Im.nT (sl s) + 4 * Im.nF (sl s)) (Im.nD (sl s)), (Im.nB (sl s) : Int)⟩ by rw [e4]; rfl)
  have IS := hid (show Im.IsImg (sl s) ↔ (sl s).take 2 = [73, 77] ∧ s.size = 26 + 4 * (Im.nT (sl s) + Im.nF (sl s) + Im.nD (sl s)) ∧ Im.ImgOk (Im.imgOf (sl s)) by unfold Im.IsImg Im.Full; rw [sl_length])
  rw [← e1] at a18
  rw [← e2] at a20
  rw [← e3] at a22
  rw [← e4] at a24
  clear e1 e2 e3 e4
  have r2 := four_range (sl s) 2
  have r6 := four_range (sl s) 6
  have r10 := four_range (sl s) 10
  have r14 := four_range (sl s) 14
  generalize Im.nT (sl s) = nt at *
  generalize Im.nF (sl s) = nf at *
  generalize Im.nD (sl s) = nd at *
  generalize Im.nB (sl s) = nb at *
  generalize atL (sl s) 2 4 = st at *
  generalize atL (sl s) 6 4 = te at *
  generalize atL (sl s) 10 4 = fa at *
  generalize atL (sl s) 14 4 = da at *
  unfold ImgRet
  generalize Im.IsImg (sl s) = Q at *
  go_enter Tryd.func8, Tryd.ntmps8
  go_wp2_with fail
  refine (a18.out _).mono ?_
  rintro e V ⟨rfl, rfl⟩
  go_wp2_with fail
  refine (a20.out _).mono ?_
  rintro e V ⟨rfl, rfl⟩
  go_wp2_with fail
  refine (a22.out _).mono ?_
  rintro e V ⟨rfl, rfl⟩
  go_wp2_with fail
  refine (a24.out _).mono ?_
  rintro e V ⟨rfl, rfl⟩
  clear a18 a20 a22 a24
  by_cases hl : s.size = 26 + 4 * (nt + nf + nd)
  case neg =>
    have d1 : ((s.size : Int) == 26 + 4 * ((nt : Int) + (nf : Int) + (nd : Int))) = false := by rw [beq_eq_false_iff_ne]; omega
    go_wp2
    go_ret2
    exact ⟨.inr ⟨fun q => hl (IS.out.1 q).2.1, _, rfl⟩, World.grownBy.refl _ _⟩
  have d1 : ((s.size : Int) == 26 + 4 * ((nt : Int) + (nf : Int) + (nd : Int))) = true := by rw [beq_iff_eq]; omega
  have h2 : 2 ≤ s.size := by omega
  have TK := hid (show (s.extract 0 2).toList = (sl s).take 2 by rw [extract_bs, toList_bs]; rfl)
  by_cases hm : (sl s).take 2 = [73, 77]
  case neg =>
    have d2 : ((s.extract 0 2).toList == [73, 77]) = false := by rw [TK.out]; simpa using hm
    go_wp2
    go_ret2
    exact ⟨.inr ⟨fun q => hm (IS.out.1 q).1, _, rfl⟩, World.grownBy.refl _ _⟩
  have d2 : ((s.extract 0 2).toList == [73, 77]) = true := by rw [TK.out, hm]; rfl
  have IS2 := hid (show Q ↔ Im.ImgOk (Im.imgOf (sl s)) by rw [IS.out]; exact ⟨fun q => q.2.2, fun q => ⟨hm, hl, q⟩⟩)
  clear IS hm TK
  go_wp2_with fail
  refine (a2.out _).mono ?_
  rintro e V ⟨rfl, rfl⟩
  go_wp2_with fail
  refine (a6.out _).mono ?_
  rintro e V1 ⟨rfl, hV1⟩
  subst hV1
  go_wp2_with fail
  refine (a10.out _).mono ?_
  rintro e V1 ⟨rfl, hV1⟩
  subst hV1
  go_wp2_with fail
  refine (a14.out _).mono ?_
  rintro e V1 ⟨rfl, hV1⟩
  subst hV1
  clear a2 a6 a10 a14
  have P0 : Hid (PLs V (sl s) V.heap.size nt nf 0 st te fa da (.slice none 0 0) (.slice none 0 0) (.slice none 0 0) (V.heap.size + 1) (V.heap.size + 1) (V.alloc (.cells #[.int .i64 st, .int .i64 te, .int .i64 fa, .int .i64 da, .slice none 0 0, .slice none 0 0, .slice none 0 0] 49))) := by
    refine ⟨BlkAt.new _ _ _, by rw [Nat.zero_min]; exact World.ownsRow_nil _ _ _ _, by rw [Nat.zero_sub, Nat.zero_min]; exact World.ownsRow_nil _ _ _ _, by rw [Nat.zero_sub, Nat.zero_sub]; exact World.ownsRow_nil _ _ _ _, by simp [Value.ownBlock], by simp [Value.ownBlock], by simp [Value.ownBlock], ⟨⟨?_, ?_⟩, by omega, by omega⟩, fun _ => rfl, fun _ => rfl, World.grownBy_alloc _ _ _, Nat.le_refl _⟩
    · rw [show (V.alloc (.cells #[.int .i64 st, .int .i64 te, .int .i64 fa, .int .i64 da, .slice none 0 0, .slice none 0 0, .slice none 0 0] 49)).heap.size = V.heap.size + 1 from Array.size_push _]; exact Nat.le_refl _
    · rw [show (V.alloc (.cells #[.int .i64 st, .int .i64 te, .int .i64 fa, .int .i64 da, .slice none 0 0, .slice none 0 0, .slice none 0 0] 49)).heap.size = V.heap.size + 1 from Array.size_push _]; exact Nat.le_refl _
  go_wp2
  generalize V.heap.size = g at *
  go_loopw [9, 10] (fun p i wr => ∃ (k : Nat) (vT vF vD : Value) (B1 B2 : Nat), k ≤ nt + nf + nd ∧ i = .int .i64 k ∧ p = .int .i64 ((26 + 4 * k : Nat) : Int) ∧ PLs V (sl s) g nt nf k st te fa da vT vF vD B1 B2 wr) (fun _ i _ => nt + nf + nd - (intOf i).toNat)
  case atStart => exact ⟨0, _, _, _, _, _, Nat.zero_le _, rfl, rfl, P0.out⟩
  case round =>
    obtain ⟨k, vT, vF, vD, B1, B2, hk, rfl, rfl, hP⟩ := hrel
    have H := hid hP
    clear hP P0
    by_cases hlt : k < nt + nf + nd
    · have g1 : (k : Int) < (nt : Int) + (nf : Int) + (nd : Int) := by omega
      have aK := hid (fun W => at_lit s (26 + 4 * k) 4 ((26 + 4 * k : Nat) : Int) 4 rfl rfl W hs (by omega) (by omega))
      generalize hx : atL (sl s) (26 + 4 * k) 4 = x at *
      go_wp2_with fail
      refine (aK.out _).mono ?_
      rintro e V2 ⟨rfl, hV2⟩
      subst hV2
      clear aK
      have hp4 : IntKind.i64.wrap (((26 + 4 * k : Nat) : Int) + 4) = ((26 + 4 * (k + 1) : Nat) : Int) := by rw [IntWalk.i64_in _ ⟨by omega, by omega⟩]; omega
      by_cases cT : k < nt
      · have dT : decide ((k : Int) < (nt : Int)) = true := by simp; omega
        have hown := H.out.rT
        rw [show min k nt = k by omega] at hown
        obtain ⟨av, cv, hav⟩ := own_form hown
        subst hav
        have c4 := H.out.obj.cell 4
        have f4 := H.out.obj.free 4
        simp only [List.getElem?_toArray, List.getElem?_cons_succ, List.getElem?_cons_zero] at c4
        have hsz := H.out.sz
        have hgl := H.out.obj.lt
        have WS := hid (Im.words_snoc (sl s) 26 (k))
        rw [show 26 + 4 * (k) = 26 + 4 * k by omega, hx] at WS
        go_wp2_with (at_builtin; refine wpList_append_own _ rfl _ _ 22 rfl (g + 1) 3 i0 (.int .i64 0) 1 8 Tryd.underlying22 hi hz0 hz1 hz2 rfl (by decide) _ _ _ rfl (hown.alloc _) ⟨V2.heap.size, 0, none⟩ 1 1 [.int .i64 x] rfl rfl (cell_one_new _ _ _) (by intro u hu; simp at hu; subst hu; rfl) (by unfold maxLen; omega) (by omega) (by simp; omega) ?_; intro v' w3 hown' hgrow _; obtain ⟨av', cv', rfl⟩ := own_form hown'; have KB := (H.out.pre hgrow (fun b hb => by have := (hown.lt b hb).1; omega)).1; have c4' := KB.cell 4; have f4' := KB.free 4; simp only [List.getElem?_toArray, List.getElem?_cons_succ, List.getElem?_cons_zero] at c4'; have K := hid (H.out.stepT cT (by rw [WS.out, List.map_append]; exact hown') hgrow); clear hgrow hown' KB hown c4 f4)
        go_wp2
        go_roundw
        case rel => exact ⟨k + 1, _, _, _, _, _, by omega, by go_num, by go_num, K.out⟩
        case measure => simp [intOf]; omega
      · have dT : decide ((k : Int) < (nt : Int)) = false := by simp; omega
        by_cases cF : k < nt + nf
        · have dF : decide ((k : Int) < (nt : Int) + (nf : Int)) = true := by simp; omega
          have hown := H.out.rF
          rw [show min (k - nt) nf = k - nt by omega] at hown
          obtain ⟨av, cv, hav⟩ := own_form hown
          subst hav
          have c4 := H.out.obj.cell 5
          have f4 := H.out.obj.free 5
          simp only [List.getElem?_toArray, List.getElem?_cons_succ, List.getElem?_cons_zero] at c4
          have hsz := H.out.sz
          have hgl := H.out.obj.lt
          have WS := hid (Im.words_snoc (sl s) (26 + 4 * nt) (k - nt))
          rw [show (26 + 4 * nt) + 4 * (k - nt) = 26 + 4 * k by omega, hx] at WS
          go_wp2_with (at_builtin; refine wpList_append_own _ rfl _ _ 22 rfl B1 3 i0 (.int .i64 0) 1 8 Tryd.underlying22 hi hz0 hz1 hz2 rfl (by decide) _ _ _ rfl (hown.alloc _) ⟨V2.heap.size, 0, none⟩ 1 1 [.int .i64 x] rfl rfl (cell_one_new _ _ _) (by intro u hu; simp at hu; subst hu; rfl) (by unfold maxLen; omega) (by omega) (by simp; omega) ?_; intro v' w3 hown' hgrow _; obtain ⟨av', cv', rfl⟩ := own_form hown'; have KB := (H.out.pre hgrow (fun b hb => by have := (hown.lt b hb).1; omega)).1; have c4' := KB.cell 5; have f4' := KB.free 5; simp only [List.getElem?_toArray, List.getElem?_cons_succ, List.getElem?_cons_zero] at c4'; have K := hid (H.out.stepF (by omega) cF (by rw [WS.out, List.map_append]; exact hown') hgrow); clear hgrow hown' KB hown c4 f4)
          go_wp2
          go_roundw
          case rel => exact ⟨k + 1, _, _, _, _, _, by omega, by go_num, by go_num, K.out⟩
          case measure => simp [intOf]; omega
        · have dF : decide ((k : Int) < (nt : Int) + (nf : Int)) = false := by simp; omega
          have hown := H.out.rD
          obtain ⟨av, cv, hav⟩ := own_form hown
          subst hav
          have c4 := H.out.obj.cell 6
          have f4 := H.out.obj.free 6
          simp only [List.getElem?_toArray, List.getElem?_cons_succ, List.getElem?_cons_zero] at c4
          have hsz := H.out.sz
          have hgl := H.out.obj.lt
          have WS := hid (Im.words_snoc (sl s) (26 + 4 * nt + 4 * nf) (k - nt - nf))
          rw [show (26 + 4 * nt + 4 * nf) + 4 * (k - nt - nf) = 26 + 4 * k by omega, hx] at WS
          go_wp2_with (at_builtin; refine wpList_append_own _ rfl _ _ 22 rfl B2 3 i0 (.int .i64 0) 1 8 Tryd.underlying22 hi hz0 hz1 hz2 rfl (by decide) _ _ _ rfl (hown.alloc _) ⟨V2.heap.size, 0, none⟩ 1 1 [.int .i64 x] rfl rfl (cell_one_new _ _ _) (by intro u hu; simp at hu; subst hu; rfl) (by unfold maxLen; omega) (by omega) (by simp; omega) ?_; intro v' w3 hown' hgrow _; obtain ⟨av', cv', rfl⟩ := own_form hown'; have KB := (H.out.pre hgrow (fun b hb => by have := (hown.lt b hb).1; omega)).1; have c4' := KB.cell 6; have f4' := KB.free 6; simp only [List.getElem?_toArray, List.getElem?_cons_succ, List.getElem?_cons_zero] at c4'; have K := hid (H.out.stepD (by omega) (by rw [WS.out, List.map_append]; exact hown') hgrow); clear hgrow hown' KB hown c4 f4)
          go_wp2
          go_roundw
          case rel => exact ⟨k + 1, _, _, _, _, _, by omega, by go_num, by go_num, K.out⟩
          case measure => simp [intOf]; omega
    · obtain rfl : k = nt + nf + nd := by omega
      have g1 : decide (((nt + nf + nd : Nat) : Int) < (nt : Int) + (nf : Int) + (nd : Int)) = false := by simp
      have hown := H.out.rD
      rw [show nt + nf + nd - nt - nf = nd by omega] at hown
      obtain ⟨av, cv, hav⟩ := own_form hown
      subst hav
      have c6 := H.out.obj.cell 6
      have f6 := H.out.obj.free 6
      simp only [List.getElem?_toArray, List.getElem?_cons_succ, List.getElem?_cons_zero] at c6
      have hsz := H.out.sz
      have hgl := H.out.obj.lt
      have HQ := hid (show Q ↔ _ from IS2.out.trans (imgOk_ref (Im.imgOf (sl s))))
      have ES := hid (show (Im.imgOf (sl s)).start = st by rw [IO.out])
      rw [ES.out] at HQ
      generalize hcode : Im.code (Im.imgOf (sl s)) st = cd at *
      have HC := hid hcode
      clear hcode
      rw [IO.out] at HQ
      simp only [Im.words_length] at HQ
      clear IS2
      go_wp2_with (at_builtin; refine wpList_append_zeros _ rfl _ _ 22 3 rfl B2 3 i0 Tryd.underlying22 Tryd.underlying3 hi hz0 hz1 hz2 _ _ _ rfl hown nb rfl (by omega) (by omega) ?_; intro v' w3 hown' hgrow; obtain ⟨av', cv', rfl⟩ := own_form hown'; have KB := H.out.obj.grown hgrow (fun e => by have := (hown.lt g e.symm).1; omega); have c6' := KB.cell 6; have f6' := KB.free 6; have z1 := KB.cell 1; simp only [List.getElem?_toArray, List.getElem?_cons_succ, List.getElem?_cons_zero] at c6' z1; have K := hid (PLs.fin (Im.imgOf (sl s)) nb nd IO.out H.out hown' hgrow); clear hgrow hown' KB hown c6 f6)
      go_wp2_with fail
      generalize World.setCell w3 ⟨g, 6, none⟩ (.slice av' (nd + nb) cv') = V3 at *
      clear c6' f6' hsz hgl H z1
      obtain ⟨vt, vf, vd, hb, -, -, -⟩ := K.out.1
      rw [IO.out] at hb
      have k0 := hb.cell 0
      have k1 := hb.cell 1
      have k2 := hb.cell 2
      have k3 := hb.cell 3
      simp only [List.getElem?_toArray, List.getElem?_cons_succ, List.getElem?_cons_zero] at k0 k1 k2 k3
      clear hb
      have x1 : IntKind.i64.wrap ((nd : Int) + (nb : Int)) = (nd : Int) + (nb : Int) := IntWalk.i64_in _ ⟨by omega, by omega⟩
      have x2 : IntKind.i64.wrap (4 * (nt : Int)) = 4 * (nt : Int) := IntWalk.i64_in _ ⟨by omega, by omega⟩
      have x3 : IntKind.i64.wrap (te + 4 * (nt : Int)) = te + 4 * (nt : Int) := IntWalk.i64_in _ ⟨by omega, by omega⟩
      have x4 : IntKind.i64.wrap (4 * (nf : Int)) = 4 * (nf : Int) := IntWalk.i64_in _ ⟨by omega, by omega⟩
      have x5 : IntKind.i64.wrap (fa + 4 * (nf : Int)) = fa + 4 * (nf : Int) := IntWalk.i64_in _ ⟨by omega, by omega⟩
      have x6 : IntKind.i64.wrap (4 * ((nd : Int) + (nb : Int))) = 4 * ((nd : Int) + (nb : Int)) := IntWalk.i64_in _ ⟨by omega, by omega⟩
      have x7 : IntKind.i64.wrap (da + 4 * ((nd : Int) + (nb : Int))) = da + 4 * ((nd : Int) + (nb : Int)) := IntWalk.i64_in _ ⟨by omega, by omega⟩
      refine (clear_any te nt V3 r6.1 r6.2 (by omega) (by omega)).mono ?_
      rintro e V4 ⟨rfl, hV4⟩
      subst hV4
      go_wp2_with fail
      refine (clear_any fa nf _ r10.1 r10.2 (by omega) (by omega)).mono ?_
      rintro e V5 ⟨rfl, hV5⟩
      subst hV5
      go_wp2_with fail
      refine (clear_any da ((nd : Int) + (nb : Int)) _ r14.1 r14.2 (by omega) (by omega)).mono ?_
      rintro e V6 ⟨rfl, hV6⟩
      subst hV6
      have GF := hid K.out.2
      cases hA : decide (Im.Clear te (nt : Int))
      · have N := hid (show ¬ Q from fun q => by rw [decide_eq_false_iff_not] at hA; exact hA (HQ.out.1 q).1.1)
        clear hA
        go_wp2
        go_ret2
        exact ⟨.inr ⟨N.out, _, rfl⟩, GF.out⟩
      cases hB : decide (Im.Clear fa (nf : Int))
      · have N := hid (show ¬ Q from fun q => by rw [decide_eq_false_iff_not] at hB; exact hB (HQ.out.1 q).1.2.1)
        clear hA hB
        go_wp2
        go_ret2
        exact ⟨.inr ⟨N.out, _, rfl⟩, GF.out⟩
      cases hC : decide (Im.Clear da ((nd : Int) + (nb : Int)))
      · have N := hid (show ¬ Q from fun q => by rw [decide_eq_false_iff_not] at hC; exact hC (HQ.out.1 q).1.2.2)
        clear hA hB hC
        go_wp2
        go_ret2
        exact ⟨.inr ⟨N.out, _, rfl⟩, GF.out⟩
      rw [decide_eq_true_iff] at hA hB hC
      have CL := hid (And.intro hA (And.intro hB hC))
      clear hA hB hC
      have p1 := hid (fun W => apart_any te (te + 4 * (nt : Int)) fa (fa + 4 * (nf : Int)) W)
      have p2 := hid (fun W => apart_any te (te + 4 * (nt : Int)) da (da + 4 * ((nd : Int) + (nb : Int))) W)
      have p3 := hid (fun W => apart_any fa (fa + 4 * (nf : Int)) da (da + 4 * ((nd : Int) + (nb : Int))) W)
      go_wp2
      go_quiet ((go_at_call 14; exact Calls.quiet_of_same (p1.out _)))
      go_wp2
      have G7 := hid (grown_drewN (World.grownBy.refl V6 none) nq)
      replace k0 : (V6.drewN nq).cell? ⟨g, 0, none⟩ = some (.int .i64 st) := k0
      replace k1 : (V6.drewN nq).cell? ⟨g, 1, none⟩ = some (.int .i64 te) := k1
      replace k2 : (V6.drewN nq).cell? ⟨g, 2, none⟩ = some (.int .i64 fa) := k2
      replace k3 : (V6.drewN nq).cell? ⟨g, 3, none⟩ = some (.int .i64 da) := k3
      generalize V6.drewN nq = V7 at *
      go_quiet ((go_at_call 14; exact Calls.quiet_of_same (p2.out _)))
      go_wp2
      have G8 := hid (grown_drewN G7.out nq)
      replace k0 : (V7.drewN nq).cell? ⟨g, 0, none⟩ = some (.int .i64 st) := k0
      replace k1 : (V7.drewN nq).cell? ⟨g, 1, none⟩ = some (.int .i64 te) := k1
      replace k2 : (V7.drewN nq).cell? ⟨g, 2, none⟩ = some (.int .i64 fa) := k2
      replace k3 : (V7.drewN nq).cell? ⟨g, 3, none⟩ = some (.int .i64 da) := k3
      generalize V7.drewN nq = V8 at *
      go_quiet ((go_at_call 14; exact Calls.quiet_of_same (p3.out _)))
      have G9 := hid (grown_drewN G8.out nq)
      replace k0 : (V8.drewN nq).cell? ⟨g, 0, none⟩ = some (.int .i64 st) := k0
      generalize V8.drewN nq = V9 at *
      clear k1 k2 k3 x1 x2 x3 x4 x5 x6 x7 p1 p2 p3
      go_wp2_with fail
      refine (fetch_any g (Im.imgOf (sl s)) st V9 (K.out.1.kept G9.out) TM.out r2.1 r2.2).mono ?_
      rintro e V10 ⟨rfl, nn, rfl⟩
      rw [HC.out]
      have GL := hid (grown_drewN (grown_trans GF.out G9.out) nn)
      have RL := hid (K.out.1.kept (grown_drewN G9.out nn))
      cases hA : decide (¬ Im.Meet te (te + 4 * (nt : Int)) fa (fa + 4 * (nf : Int)))
      · have N := hid (show ¬ Q from fun q => by rw [decide_eq_false_iff_not] at hA; exact hA (HQ.out.1 q).2.1.1)
        clear hA
        go_wp2
        go_ret2
        exact ⟨.inr ⟨N.out, _, rfl⟩, GL.out⟩
      cases hB : decide (¬ Im.Meet te (te + 4 * (nt : Int)) da (da + 4 * ((nd : Int) + (nb : Int))))
      · have N := hid (show ¬ Q from fun q => by rw [decide_eq_false_iff_not] at hB; exact hB (HQ.out.1 q).2.1.2.1)
        clear hA hB
        go_wp2
        go_ret2
        exact ⟨.inr ⟨N.out, _, rfl⟩, GL.out⟩
      cases hC : decide (¬ Im.Meet fa (fa + 4 * (nf : Int)) da (da + 4 * ((nd : Int) + (nb : Int))))
      · have N := hid (show ¬ Q from fun q => by rw [decide_eq_false_iff_not] at hC; exact hC (HQ.out.1 q).2.1.2.2)
        clear hA hB hC
        go_wp2
        go_ret2
        exact ⟨.inr ⟨N.out, _, rfl⟩, GL.out⟩
      rw [decide_eq_true_iff] at hA hB hC
      have ML := hid (And.intro hA (And.intro hB hC))
      clear hA hB hC
      cases hD : cd.isSome
      · have N := hid (show ¬ Q from fun q => by have := (HQ.out.1 q).2.2; rw [hD] at this; cases this)
        clear hD
        go_wp2
        go_ret2
        exact ⟨.inr ⟨N.out, _, rfl⟩, GL.out⟩
      · have N := hid (show Q from HQ.out.2 ⟨CL.out, ML.out, hD⟩)
        clear hD
        go_wp2
        go_ret2
        exact ⟨.inl ⟨N.out, g, rfl, RL.out⟩, GL.out⟩

end Go.Proofs.YtaiplongpjimnaaDoor

namespace Go.Proofs.YtaiplongpjimnaaDoor
open Go.RowKit

/-- the cells of the document's machine -/
def stL (g : Nat) (vin : Value) (st : Mc.St) (vr vd vo : Value) : List Value :=
  [.pointer (some ⟨g, 0, none⟩), vr, .int .i64 st.pc, vd, vin, .int .i64 st.ende, .int .i64 st.code, vo, .int .i64 st.steps, .int .i64 st.read]

structure StAt (W0 : World) (b g : Nat) (vin : Value) (st : Mc.St) (vr vd vo : Value) (W : World) : Prop where
  blk : BlkAt W b (stL g vin st vr vd vo).toArray 57
  regs : W.ownsRow W0.heap.size 3 1 vr st.regs.length (st.regs.map (Value.int .i64))
  data : W.ownsRow W0.heap.size 3 1 vd st.data.length (st.data.map (Value.int .i64))
  out : W.ownsRow W0.heap.size 3 1 vo st.out.length (st.out.map (Value.int .i64))
  apr : ∀ k, vr.ownBlock = some k → k ≠ b ∧ vd.ownBlock ≠ some k ∧ vo.ownBlock ≠ some k
  apd : ∀ k, vd.ownBlock = some k → k ≠ b ∧ vo.ownBlock ≠ some k
  apo : ∀ k, vo.ownBlock = some k → k ≠ b
  lo : W0.heap.size ≤ b
  gr : W0.grownBy W none
  ok : Mc.Ok st

section
variable {W0 W W' : World} {b g : Nat} {vin vr vd vo : Value} {st : Mc.St}
theorem StAt.cells (h : StAt W0 b g vin st vr vd vo W) (i : Nat) : W.cell? ⟨b, i, none⟩ = (stL g vin st vr vd vo)[i]? := (h.blk.cell i).trans List.getElem?_toArray
theorem StAt.free (h : StAt W0 b g vin st vr vd vo W) (o : Nat) : W.frozen? ⟨b, o, none⟩ = false := h.blk.free o
theorem StAt.grown (h : StAt W0 b g vin st vr vd vo W) (hg : W.grownBy W' none) : StAt W0 b g vin st vr vd vo W' :=
  ⟨h.blk.grown hg (by simp), h.regs.kept hg (by cases hv : vr.ownBlock <;> simp), h.data.kept hg (by cases hv : vd.ownBlock <;> simp), h.out.kept hg (by cases hv : vo.ownBlock <;> simp), h.apr, h.apd, h.apo, h.lo, grown_trans h.gr hg, h.ok⟩
theorem StAt.put (h : StAt W0 b g vin st vr vd vo W) (o : Nat) (v : Value) (st' : Mc.St) (hc : (stL g vin st vr vd vo).set o v = stL g vin st' vr vd vo) (hr : st'.regs = st.regs) (hd : st'.data = st.data) (ho : st'.out = st.out) (hok : Mc.Ok st') :
    StAt W0 b g vin st' vr vd vo (W.setCell ⟨b, o, none⟩ v) := by
  refine ⟨?_, by rw [hr]; exact own_other h.regs (fun k e => (h.apr k e).1), by rw [hd]; exact own_other h.data (fun k e => (h.apd k e).1), by rw [ho]; exact own_other h.out h.apo, h.apr, h.apd, h.apo, h.lo, grown_hi h.gr (grown_set W b o v) (by intro k e; simp at e; have := h.lo; omega), hok⟩
  have := h.blk.set o v
  rw [List.setIfInBounds_toArray, hc] at this
  exact this
theorem StAt.putEnd (h : StAt W0 b g vin st vr vd vo W) (v : Int) : StAt W0 b g vin { st with ende := v } vr vd vo (W.setCell ⟨b, 5, none⟩ (.int .i64 v)) :=
  h.put 5 _ _ rfl rfl rfl rfl ⟨h.ok.regs, h.ok.words, h.ok.zero, h.ok.data, h.ok.dwords, h.ok.pc, h.ok.next, h.ok.out, h.ok.steps, h.ok.read⟩
theorem StAt.putCode (h : StAt W0 b g vin st vr vd vo W) (v : Int) : StAt W0 b g vin { st with code := v } vr vd vo (W.setCell ⟨b, 6, none⟩ (.int .i64 v)) :=
  h.put 6 _ _ rfl rfl rfl rfl ⟨h.ok.regs, h.ok.words, h.ok.zero, h.ok.data, h.ok.dwords, h.ok.pc, h.ok.next, h.ok.out, h.ok.steps, h.ok.read⟩
theorem StAt.putPc (h : StAt W0 b g vin st vr vd vo W) (v : Int) (hv : 0 ≤ v ∧ v < 4294967296) : StAt W0 b g vin { st with pc := v } vr vd vo (W.setCell ⟨b, 2, none⟩ (.int .i64 v)) :=
  h.put 2 _ _ rfl rfl rfl rfl ⟨h.ok.regs, h.ok.words, h.ok.zero, h.ok.data, h.ok.dwords, hv, h.ok.next, h.ok.out, h.ok.steps, h.ok.read⟩
theorem StAt.putSteps (h : StAt W0 b g vin st vr vd vo W) (v : Nat) (hv : v ≤ 65536) : StAt W0 b g vin { st with steps := v } vr vd vo (W.setCell ⟨b, 8, none⟩ (.int .i64 v)) :=
  h.put 8 _ _ rfl rfl rfl rfl ⟨h.ok.regs, h.ok.words, h.ok.zero, h.ok.data, h.ok.dwords, h.ok.pc, h.ok.next, h.ok.out, hv, h.ok.read⟩
theorem StAt.putRead (h : StAt W0 b g vin st vr vd vo W) (v : Nat) (hv : v ≤ 16) : StAt W0 b g vin { st with read := v } vr vd vo (W.setCell ⟨b, 9, none⟩ (.int .i64 v)) :=
  h.put 9 _ _ rfl rfl rfl rfl ⟨h.ok.regs, h.ok.words, h.ok.zero, h.ok.data, h.ok.dwords, h.ok.pc, h.ok.next, h.ok.out, h.ok.steps, hv⟩
/-- only what is not laid differs -/
theorem StAt.next (h : StAt W0 b g vin st vr vd vo W) (v : Int) (hv : 0 ≤ v ∧ v < 4294967296) : StAt W0 b g vin { st with next := v } vr vd vo W :=
  ⟨h.blk, h.regs, h.data, h.out, h.apr, h.apd, h.apo, h.lo, h.gr, ⟨h.ok.regs, h.ok.words, h.ok.zero, h.ok.data, h.ok.dwords, h.ok.pc, hv, h.ok.out, h.ok.steps, h.ok.read⟩⟩
theorem StAt.reg (h : StAt W0 b g vin st vr vd vo W) : ∃ rg cap, vr = .slice (some ⟨rg, 0, none⟩) 32 cap ∧ 32 ≤ cap ∧ cap ≤ maxLen ∧ (∀ o, W.frozen? ⟨rg, o, none⟩ = false) ∧ ∀ k, k < 32 → W.cell? ⟨rg, k, none⟩ = some (.int .i64 (st.regs.getD k 0)) := by
  obtain ⟨ar, cap, hv⟩ := own_form h.regs
  have hr := h.regs
  rw [hv] at hr
  obtain ⟨rg, rfl, hf, c1, c2, hc⟩ := own_some hr (by rw [h.ok.regs]; decide)
  rw [h.ok.regs] at hv c1
  refine ⟨rg, cap, hv, c1, c2, hf, fun k hk => ?_⟩
  rw [hc k (by rw [h.ok.regs]; exact hk), List.getElem?_map, List.getElem?_eq_getElem (by rw [h.ok.regs]; exact hk), List.getD_eq_getElem?_getD, List.getElem?_eq_getElem (by rw [h.ok.regs]; exact hk)]
  rfl
theorem StAt.putReg {rg n cap : Nat} (h : StAt W0 b g vin st (.slice (some ⟨rg, 0, none⟩) n cap) vd vo W) (hn : n = st.regs.length) (i : Nat) (v : Int) (hi : i ≠ 0) :
    StAt W0 b g vin { st with regs := st.regs.set i (Mc.wd v) } (.slice (some ⟨rg, 0, none⟩) n cap) vd vo (W.setCell ⟨rg, i, none⟩ (.int .i64 (Mc.wd v))) := by
  have ha := h.apr rg rfl
  have hlo := (h.regs.lt rg rfl).1
  subst hn
  refine ⟨h.blk.grown (grown_set W rg i _) (by have := ha.1; simp; omega), ?_, own_other h.data (fun k e c => ha.2.1 (by rw [e, c])), own_other h.out (fun k e c => ha.2.2 (by rw [e, c])), h.apr, h.apd, h.apo, h.lo, grown_hi h.gr (grown_set W rg i _) (by intro k e; simp at e; omega), Ok_set h.ok i v hi⟩
  have := own_set1 (j := i) (u := .int .i64 (Mc.wd v)) h.regs
  simp only [List.length_set, List.map_set]
  exact this
theorem StAt.putData {sg n cap : Nat} (h : StAt W0 b g vin st vr (.slice (some ⟨sg, 0, none⟩) n cap) vo W) (hn : n = st.data.length) (i : Nat) (v : Int) (hv : 0 ≤ v ∧ v < 4294967296) :
    StAt W0 b g vin { st with data := st.data.set i v } vr (.slice (some ⟨sg, 0, none⟩) n cap) vo (W.setCell ⟨sg, i, none⟩ (.int .i64 v)) := by
  have ha := h.apd sg rfl
  have hlo := (h.data.lt sg rfl).1
  subst hn
  refine ⟨h.blk.grown (grown_set W sg i _) (by have := ha.1; simp; omega), own_other h.regs (fun k e c => (h.apr k e).2.1 (by rw [c]; rfl)), ?_, own_other h.out (fun k e c => ha.2 (by rw [e, c])), h.apr, h.apd, h.apo, h.lo, grown_hi h.gr (grown_set W sg i _) (by intro k e; simp at e; omega), ⟨h.ok.regs, h.ok.words, h.ok.zero, by simpa using h.ok.data, fun j => ?_, h.ok.pc, h.ok.next, h.ok.out, h.ok.steps, h.ok.read⟩⟩
  · have := own_set1 (j := i) (u := .int .i64 v) h.data
    simp only [List.length_set, List.map_set]
    exact this
  · show 0 ≤ (st.data.set i v).getD j 0 ∧ (st.data.set i v).getD j 0 < 4294967296
    rw [List.getD_eq_getElem?_getD, List.getElem?_set]
    split
    · split
      · simpa using hv
      · rename_i h1 h2
        subst h1
        simp
    · have := h.ok.dwords j
      rw [List.getD_eq_getElem?_getD] at this
      exact this
end

section
variable {W0 W w3 : World} {b g : Nat} {vin vr vd vo v' : Value} {st : Mc.St} {ob : Obj}
theorem StAt.preOut (h : StAt W0 b g vin st vr vd vo W) (hg : (W.alloc ob).grownBy w3 vo.ownBlock) : BlkAt w3 b (stL g vin st vr vd vo).toArray 57 :=
  (h.blk.grown (World.grownBy_alloc W ob none) (by simp)).grown hg (fun e => h.apo b e.symm rfl)
theorem StAt.preCell (h : StAt W0 b g vin st vr vd vo W) (hg : (W.alloc ob).grownBy w3 vo.ownBlock) : w3.cell? ⟨b, 7, none⟩ = some vo :=
  ((h.preOut hg).cell 7).trans List.getElem?_toArray
theorem StAt.putOut (h : StAt W0 b g vin st vr vd vo W) (x : Int) (hx : st.out.length < 16) (hown : w3.ownsRow W0.heap.size 3 1 v' (st.out.length + 1) (st.out.map (Value.int .i64) ++ [.int .i64 x])) (hg : (W.alloc ob).grownBy w3 vo.ownBlock) (hb : v'.ownBlock = vo.ownBlock ∨ v'.ownBlock = some (W.alloc ob).heap.size) :
    StAt W0 b g vin { st with out := st.out ++ [x] } vr vd v' (w3.setCell ⟨b, 7, none⟩ v') := by
  have hsz : (W.alloc ob).heap.size = W.heap.size + 1 := Array.size_push _
  have hlt := h.blk.lt
  have hv : ∀ k, v'.ownBlock = some k → k ≠ b := fun k e => by
    rcases hb with hb | hb
    · exact h.apo k (by rw [← hb]; exact e)
    · rw [e, hsz] at hb; simp at hb; omega
  have hk : ∀ {v : Value} {n : Nat} {xs : List Value}, W.ownsRow W0.heap.size 3 1 v n xs → (∀ k, v.ownBlock = some k → vo.ownBlock ≠ some k) → w3.ownsRow W0.heap.size 3 1 v n xs ∧ ∀ k, v.ownBlock = some k → v'.ownBlock ≠ some k := by
    intro v n xs hv hne
    refine ⟨(hv.alloc ob).kept hg ?_, fun k e c => ?_⟩
    · cases hvo : vo.ownBlock with
      | none => cases hvd : v.ownBlock <;> simp
      | some k => right; intro c; exact hne k c hvo
    · rcases hb with hb | hb
      · exact hne k e (by rw [← hb]; exact c)
      · rw [c, hsz] at hb
        have := (hv.lt k e).2
        simp at hb
        omega
  obtain ⟨hr1, hr2⟩ := hk h.regs (fun k e => (h.apr k e).2.2)
  obtain ⟨hd1, hd2⟩ := hk h.data (fun k e => (h.apd k e).2)
  refine ⟨?_, own_other hr1 (fun k e => (h.apr k e).1), own_other hd1 (fun k e => (h.apd k e).1), ?_, fun k e => ⟨(h.apr k e).1, (h.apr k e).2.1, hr2 k e⟩, fun k e => ⟨(h.apd k e).1, hd2 k e⟩, hv, h.lo, ?_, ⟨h.ok.regs, h.ok.words, h.ok.zero, h.ok.data, h.ok.dwords, h.ok.pc, h.ok.next, by simp; omega, h.ok.steps, h.ok.read⟩⟩
  · have := (h.preOut hg).set 7 v'
    rw [List.setIfInBounds_toArray] at this
    exact this
  · have := own_other (b := b) (o := 7) (u := v') hown hv
    simpa using this
  · refine grown_hi (grown_hi (grown_trans h.gr (World.grownBy_alloc W ob none)) hg (fun k e => (h.out.lt k e).1)) (grown_set w3 b 7 v') (by intro k e; simp at e; have := h.lo; omega)
end

set_option maxHeartbeats 400000 in
theorem rBits_any (n : Int) (w : World) : Calls Tryd.prog 27 #[.int .i64 n] w fun e w' => e = .returned (.int .i64 (Mc.wd n)) ∧ w' = w := by
  have E := hid (and_wd n)
  go_enter Tryd.func27, Tryd.ntmps27
  go_wp2
  go_ret
  exact ⟨ret_int E.out, rfl⟩

set_option maxHeartbeats 400000 in
theorem rMinus_any (n : Int) (w : World) (h0 : 0 ≤ n) (h1 : n < 4294967296) : Calls Tryd.prog 45 #[.int .i64 n] w fun e w' => e = .returned (.int .i64 (Mc.sg n)) ∧ w' = w := by
  by_cases h : n < 2147483648
  · have E := hid (show n = Mc.sg n by unfold Mc.sg; rw [if_pos h])
    have d : decide (2147483648 ≤ n) = false := by simpa using h
    go_enter Tryd.func45, Tryd.ntmps45
    go_wp2
    go_ret
    exact ⟨ret_int E.out, rfl⟩
  · have E := hid (show n - 4294967296 = Mc.sg n by unfold Mc.sg; rw [if_neg h])
    have d : decide (2147483648 ≤ n) = true := by simp; omega
    have e1 : IntKind.i64.wrap (n - 4294967296) = n - 4294967296 := IntWalk.i64_in _ ⟨by omega, by omega⟩
    go_enter Tryd.func45, Tryd.ntmps45
    go_wp2
    go_ret
    exact ⟨ret_int E.out, rfl⟩

set_option maxHeartbeats 2000000 in
theorem rPut_any (W0 : World) (b g : Nat) (vin : Value) (st : Mc.St) (vr vd vo : Value) (n v : Int) (W : World) (h : StAt W0 b g vin st vr vd vo W) (h0 : 0 ≤ n) (h1 : n < 32) :
    Calls Tryd.prog 26 #[.pointer (some ⟨b, 0, none⟩), .int .i64 n, .int .i64 v] W fun e W' => e = .returned (.tuple #[]) ∧ StAt W0 b g vin (Mc.set n v st) vr vd vo W' ∧ W.grownBy W' vr.ownBlock := by
  obtain ⟨k, rfl⟩ := Int.eq_ofNat_of_zero_le h0
  have hk : k < 32 := by omega
  have e2 : (k : Int) % 32 = k := by omega
  have H := hid h
  by_cases hz : k = 0
  · subst hz
    have R := hid (show Mc.set ((0 : Nat) : Int) v st = st by unfold Mc.set; rw [if_pos (by decide)])
    clear h
    go_enter Tryd.func26, Tryd.ntmps26
    go_wp2
    go_end0
    rw [R.out]
    exact ⟨rfl, H.out, World.grownBy.refl _ _⟩
  · have R := hid (show Mc.set (k : Int) v st = { st with regs := st.regs.set k (Mc.wd v) } by unfold Mc.set; rw [e2, if_neg (by omega)]; rfl)
    obtain ⟨rg, cap, rfl, hc1, hc2, hf, hcells⟩ := h.reg
    have c1 : W.cell? ⟨b, 1, none⟩ = some (.slice (some ⟨rg, 0, none⟩) 32 cap) := h.cells 1
    have ck := hcells k hk
    have fk := hf k
    have d : ((k : Int) == 0) = false := by simp; omega
    have cW := hid (fun W => rBits_any v W)
    have F := hid ((H.out.grown (grown_drewN (World.grownBy.refl W none) 1)).putReg H.out.ok.regs.symm k v hz)
    clear h e2 hf hcells
    go_enter Tryd.func26, Tryd.ntmps26
    go_wp2
    go_region_with (go_at_call 27; refine (cW.out _).mono ?_; rintro e w' ⟨rfl, rfl⟩)
    all_goals
      go_wp2
      go_end0
      rw [R.out]
      exact ⟨rfl, F.out, grown_drewN (grown_set W rg k _) 1⟩

end Go.Proofs.YtaiplongpjimnaaDoor
