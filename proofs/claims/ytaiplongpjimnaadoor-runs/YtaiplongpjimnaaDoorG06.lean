/- Walks over the document's machine: what operations give, reads, requests. -/
/- Walks over package wire's Writer. -/
/- Walks over package wire's Writer: Text, Bytes. -/
/- What Decode's answer says of a word: the plain side. -/
/- Walks over package object's checks: whether words go with a relocation. -/
/- Walks over package object's checks: wordsGo. -/
/- Walks over package object's checks: validReloc. -/
/- Walks over package object's checks: validRelocs. -/
/- Walks over package object: the writers. -/
/- Walks over the document's answer: numbers and parts of a file. -/
/- Walks over the document's answer: names, what a relocation covers, numbers as bytes. -/
/- Walks over the document's answer: sections. -/
/- Walks over the document's answer: isSymbol. -/
import Derived.Test.YtaiplongpjimnaaDoorG05
import Derived.Test.YtaiplongpjimnaaDoorG02
import Derived.Deep.RegionLaw
import Derived.Deep.AppendLies
import Derived.BigRegion
namespace Go.Proofs.YtaiplongpjimnaaDoor
open Go.RowKit

set_option maxHeartbeats 2000000 in
theorem rGoes_any (op a b : Int) (w : World) (a0 : 0 ≤ a) (a1 : a < 4294967296) (b0 : 0 ≤ b) (b1 : b < 4294967296) (ho : 5 ≤ op ∧ op ≤ 10) :
    Calls Tryd.prog 30 #[.int .i64 op, .int .i64 a, .int .i64 b] w fun e w' => e = .returned (.bool (Mc.holds op a b)) ∧ w' = w := by
  have cA := hid (fun W => rMinus_any a W a0 a1)
  have cB := hid (fun W => rMinus_any b W b0 b1)
  rcases (show op = 5 ∨ op = 6 ∨ op = 7 ∨ op = 8 ∨ op = 9 ∨ op = 10 by omega) with rfl | rfl | rfl | rfl | rfl | rfl
  · have R := hid (show Mc.holds 5 a b = (a == b) by unfold Mc.holds; rw [Bool.eq_iff_iff]; simp)
    clear ho
    go_enter Tryd.func30, Tryd.ntmps30
    go_wp2
    go_ret
    exact ⟨ret_bool' R.out.symm, rfl⟩
  · have R := hid (show Mc.holds 6 a b = !(a == b) by unfold Mc.holds; rw [Bool.eq_iff_iff]; simp)
    clear ho
    go_enter Tryd.func30, Tryd.ntmps30
    go_wp2
    go_ret
    exact ⟨ret_bool' R.out.symm, rfl⟩
  · have R := hid (show Mc.holds 7 a b = decide (Mc.sg a < Mc.sg b) by unfold Mc.holds; simp)
    clear ho
    go_enter Tryd.func30, Tryd.ntmps30
    go_wp2_with fail
    refine (cA.out _).mono ?_
    rintro e V ⟨rfl, rfl⟩
    go_wp2_with fail
    refine (cB.out _).mono ?_
    rintro e V2 ⟨rfl, rfl⟩
    go_wp2
    go_ret
    exact ⟨ret_bool' R.out.symm, rfl⟩
  · have R := hid (show Mc.holds 8 a b = decide (Mc.sg b ≤ Mc.sg a) by unfold Mc.holds; simp)
    clear ho
    go_enter Tryd.func30, Tryd.ntmps30
    go_wp2_with fail
    refine (cA.out _).mono ?_
    rintro e V ⟨rfl, rfl⟩
    go_wp2_with fail
    refine (cB.out _).mono ?_
    rintro e V2 ⟨rfl, rfl⟩
    go_wp2
    go_ret
    exact ⟨ret_bool' R.out.symm, rfl⟩
  · have R := hid (show Mc.holds 9 a b = decide (a < b) by unfold Mc.holds; simp)
    clear ho
    go_enter Tryd.func30, Tryd.ntmps30
    go_wp2
    go_ret
    exact ⟨ret_bool' R.out.symm, rfl⟩
  · have R := hid (show Mc.holds 10 a b = decide (b ≤ a) by unfold Mc.holds; simp)
    clear ho
    go_enter Tryd.func30, Tryd.ntmps30
    go_wp2
    go_ret
    exact ⟨ret_bool' R.out.symm, rfl⟩

namespace Mc
/-- what an operation over two words gives, as the document has it -/
def gives (op a b : Int) : Int := computed (if op ≤ 17 then plain op else op) a b
end Mc

set_option maxHeartbeats 4000000 in
theorem rDoes_any (op a b : Int) (w : World) (a0 : 0 ≤ a) (a1 : a < 4294967296) (b0 : 0 ≤ b) (b1 : b < 4294967296) (ho : 13 ≤ op ∧ op ≤ 24) :
    Calls Tryd.prog 31 #[.int .i64 op, .int .i64 a, .int .i64 b] w fun e w' => e = .returned (.int .i64 (Mc.wd (Mc.gives op a b))) ∧ w' = w := by
  have cA := hid (fun W => rMinus_any a W a0 a1)
  have cB := hid (fun W => rMinus_any b W b0 b1)
  have cW := hid (fun v W => rBits_any v W)
  have x1 : IntKind.i64.wrap (a + b) = a + b := IntWalk.i64_in _ ⟨by omega, by omega⟩
  have x2 : IntKind.i64.wrap (a - b) = a - b := IntWalk.i64_in _ ⟨by omega, by omega⟩
  rcases (show op = 13 ∨ op = 14 ∨ op = 15 ∨ op = 16 ∨ op = 17 ∨ op = 18 ∨ op = 19 ∨ op = 20 ∨ op = 21 ∨ op = 22 ∨ op = 23 ∨ op = 24 by omega) with rfl | rfl | rfl | rfl | rfl | rfl | rfl | rfl | rfl | rfl | rfl | rfl
  · have R := hid (show a + b = Mc.gives 13 a b from rfl)
    clear ho
    go_enter Tryd.func31, Tryd.ntmps31
    go_wp2_with fail
    refine (cW.out _ _).mono ?_
    rintro e V ⟨rfl, rfl⟩
    rw [R.out]
    go_wp2
    go_ret
    exact ⟨rfl, rfl⟩
  · by_cases hc : Mc.sg a < Mc.sg b
    · have R := hid (show (1 : Int) = Mc.gives 14 a b from (if_pos hc).symm)
      have d : decide (Mc.sg a < Mc.sg b) = true := by simpa using hc
      clear ho
      go_enter Tryd.func31, Tryd.ntmps31
      go_wp2_with fail
      refine (cA.out _).mono ?_
      rintro e V ⟨rfl, rfl⟩
      go_wp2_with fail
      refine (cB.out _).mono ?_
      rintro e V ⟨rfl, rfl⟩
      go_wp2_with fail
      refine (cW.out _ _).mono ?_
      rintro e V ⟨rfl, rfl⟩
      rw [R.out]
      go_wp2
      go_ret
      exact ⟨rfl, rfl⟩
    · have R := hid (show (0 : Int) = Mc.gives 14 a b from (if_neg hc).symm)
      have d : decide (Mc.sg a < Mc.sg b) = false := by simpa using hc
      clear ho
      go_enter Tryd.func31, Tryd.ntmps31
      go_wp2_with fail
      refine (cA.out _).mono ?_
      rintro e V ⟨rfl, rfl⟩
      go_wp2_with fail
      refine (cB.out _).mono ?_
      rintro e V ⟨rfl, rfl⟩
      go_wp2_with fail
      refine (cW.out _ _).mono ?_
      rintro e V ⟨rfl, rfl⟩
      rw [R.out]
      go_wp2
      go_ret
      exact ⟨rfl, rfl⟩
  · have R := hid (show bits .xor .i64 a b = Mc.gives 15 a b from rfl)
    clear ho
    go_enter Tryd.func31, Tryd.ntmps31
    go_wp2_with fail
    refine (cW.out _ _).mono ?_
    rintro e V ⟨rfl, rfl⟩
    rw [R.out]
    go_wp2
    go_ret
    exact ⟨rfl, rfl⟩
  · have R := hid (show bits .or .i64 a b = Mc.gives 16 a b from rfl)
    clear ho
    go_enter Tryd.func31, Tryd.ntmps31
    go_wp2_with fail
    refine (cW.out _ _).mono ?_
    rintro e V ⟨rfl, rfl⟩
    rw [R.out]
    go_wp2
    go_ret
    exact ⟨rfl, rfl⟩
  · have R := hid (show bits .and .i64 a b = Mc.gives 17 a b from rfl)
    clear ho
    go_enter Tryd.func31, Tryd.ntmps31
    go_wp2_with fail
    refine (cW.out _ _).mono ?_
    rintro e V ⟨rfl, rfl⟩
    rw [R.out]
    go_wp2
    go_ret
    exact ⟨rfl, rfl⟩
  · have R := hid (show a + b = Mc.gives 18 a b from rfl)
    clear ho
    go_enter Tryd.func31, Tryd.ntmps31
    go_wp2_with fail
    refine (cW.out _ _).mono ?_
    rintro e V ⟨rfl, rfl⟩
    rw [R.out]
    go_wp2
    go_ret
    exact ⟨rfl, rfl⟩
  · have R := hid (show a - b = Mc.gives 19 a b from rfl)
    clear ho
    go_enter Tryd.func31, Tryd.ntmps31
    go_wp2_with fail
    refine (cW.out _ _).mono ?_
    rintro e V ⟨rfl, rfl⟩
    rw [R.out]
    go_wp2
    go_ret
    exact ⟨rfl, rfl⟩
  · by_cases hc : Mc.sg a < Mc.sg b
    · have R := hid (show (1 : Int) = Mc.gives 20 a b from (if_pos hc).symm)
      have d : decide (Mc.sg a < Mc.sg b) = true := by simpa using hc
      clear ho
      go_enter Tryd.func31, Tryd.ntmps31
      go_wp2_with fail
      refine (cA.out _).mono ?_
      rintro e V ⟨rfl, rfl⟩
      go_wp2_with fail
      refine (cB.out _).mono ?_
      rintro e V ⟨rfl, rfl⟩
      go_wp2_with fail
      refine (cW.out _ _).mono ?_
      rintro e V ⟨rfl, rfl⟩
      rw [R.out]
      go_wp2
      go_ret
      exact ⟨rfl, rfl⟩
    · have R := hid (show (0 : Int) = Mc.gives 20 a b from (if_neg hc).symm)
      have d : decide (Mc.sg a < Mc.sg b) = false := by simpa using hc
      clear ho
      go_enter Tryd.func31, Tryd.ntmps31
      go_wp2_with fail
      refine (cA.out _).mono ?_
      rintro e V ⟨rfl, rfl⟩
      go_wp2_with fail
      refine (cB.out _).mono ?_
      rintro e V ⟨rfl, rfl⟩
      go_wp2_with fail
      refine (cW.out _ _).mono ?_
      rintro e V ⟨rfl, rfl⟩
      rw [R.out]
      go_wp2
      go_ret
      exact ⟨rfl, rfl⟩
  · by_cases hc : a < b
    · have R := hid (show (1 : Int) = Mc.gives 21 a b from (if_pos hc).symm)
      have d : decide (a < b) = true := by simpa using hc
      clear ho
      go_enter Tryd.func31, Tryd.ntmps31
      go_wp2_with fail
      refine (cW.out _ _).mono ?_
      rintro e V ⟨rfl, rfl⟩
      rw [R.out]
      go_wp2
      go_ret
      exact ⟨rfl, rfl⟩
    · have R := hid (show (0 : Int) = Mc.gives 21 a b from (if_neg hc).symm)
      have d : decide (a < b) = false := by simpa using hc
      clear ho
      go_enter Tryd.func31, Tryd.ntmps31
      go_wp2_with fail
      refine (cW.out _ _).mono ?_
      rintro e V ⟨rfl, rfl⟩
      rw [R.out]
      go_wp2
      go_ret
      exact ⟨rfl, rfl⟩
  · have R := hid (show bits .xor .i64 a b = Mc.gives 22 a b from rfl)
    clear ho
    go_enter Tryd.func31, Tryd.ntmps31
    go_wp2_with fail
    refine (cW.out _ _).mono ?_
    rintro e V ⟨rfl, rfl⟩
    rw [R.out]
    go_wp2
    go_ret
    exact ⟨rfl, rfl⟩
  · have R := hid (show bits .or .i64 a b = Mc.gives 23 a b from rfl)
    clear ho
    go_enter Tryd.func31, Tryd.ntmps31
    go_wp2_with fail
    refine (cW.out _ _).mono ?_
    rintro e V ⟨rfl, rfl⟩
    rw [R.out]
    go_wp2
    go_ret
    exact ⟨rfl, rfl⟩
  · have R := hid (show bits .and .i64 a b = Mc.gives 24 a b from rfl)
    clear ho
    go_enter Tryd.func31, Tryd.ntmps31
    go_wp2_with fail
    refine (cW.out _ _).mono ?_
    rintro e V ⟨rfl, rfl⟩
    rw [R.out]
    go_wp2
    go_ret
    exact ⟨rfl, rfl⟩

namespace Mc
/-- the word at an address, of code or data -/
def wordAt (m : Im.Img) (st : St) (a : Int) : Option Int :=
  match Im.code m a with
  | some w => some w
  | none => if 0 ≤ Im.place m.data st.data.length a then some (st.data.getD (Im.place m.data st.data.length a).toNat 0) else none
end Mc

theorem RImgAt.data {W : World} {g : Nat} {m : Im.Img} (h : RImgAt W g m) : W.cell? ⟨g, 3, none⟩ = some (.int .i64 m.data) := by
  obtain ⟨vt, vf, vd, hb, -⟩ := h
  exact hb.cell 3

set_option maxHeartbeats 4000000 in
theorem rRead_any (W0 : World) (b g : Nat) (vin : Value) (st : Mc.St) (vr vd vo : Value) (m : Im.Img) (a : Int) (W : World) (h : StAt W0 b g vin st vr vd vo W) (hI : RImgAt W0 g m) (hT : Im.Tame m) (h0 : 0 ≤ a) (h1 : a < 4294967296) :
    Calls Tryd.prog 28 #[.pointer (some ⟨b, 0, none⟩), .int .i64 a] W fun e W' => e = .returned (.tuple #[.int .i64 ((Mc.wordAt m st a).getD 0), .bool (Mc.wordAt m st a).isSome]) ∧ StAt W0 b g vin st vr vd vo W' ∧ W.grownBy W' none := by
  have cC := hid (fetch_any g m a W (hI.kept h.gr) hT h0 h1)
  have cI := hid (fun W => index_any st.data.length m.data a W h0 h1 hT.data.1 hT.data.2)
  have HI := hid hI
  have H := hid h
  have c0 : W.cell? ⟨b, 0, none⟩ = some (.pointer (some ⟨g, 0, none⟩)) := h.cells 0
  have r := Im.place_range m.data st.data.length a
  obtain ⟨X, hX⟩ : ∃ X, X = Mc.wordAt m st a := ⟨_, rfl⟩
  rw [← hX]
  unfold Mc.wordAt at hX
  have RX := hid hX
  have hdl := h.ok.data
  clear h hI hT hX
  generalize Im.place m.data st.data.length a = i at *
  generalize Im.code m a = cd at *
  go_enter Tryd.func28, Tryd.ntmps28
  go_wp2_with fail
  refine cC.out.mono ?_
  rintro e V ⟨rfl, n, hV⟩
  have H1 : Hid (StAt W0 b g vin st vr vd vo V) := by rw [hV]; exact H.out.grown (grown_drewN (World.grownBy.refl _ _) n)
  have G1 : Hid (W.grownBy V none) := by rw [hV]; exact grown_drewN (World.grownBy.refl _ _) n
  clear hV H cC c0
  cases cd with
  | some wv =>
    simp only at RX
    go_wp2
    go_ret2
    rw [RX.out]
    exact ⟨rfl, H1.out, G1.out⟩
  | none =>
    simp only at RX
    obtain ⟨ad, cdp, hvd⟩ := own_form H1.out.data
    subst hvd
    have c0 : V.cell? ⟨b, 0, none⟩ = some (.pointer (some ⟨g, 0, none⟩)) := H1.out.cells 0
    have c3 : V.cell? ⟨b, 3, none⟩ = some (.slice ad st.data.length cdp) := H1.out.cells 3
    have g3 := (HI.out.kept H1.out.gr).data
    have hcap := own_cap H1.out.data
    have hcl := hcap.2
    unfold maxLen at hcl
    go_wp2
    go_quiet ((go_at_call 22; exact Calls.quiet_of_same (cI.out _)))
    have G2 := hid (grown_drewN G1.out nq)
    have H2 := hid (H1.out.grown (grown_drewN (World.grownBy.refl _ none) nq))
    clear H1 c0 c3 g3
    generalize V.drewN nq = U at *
    by_cases hi : 0 ≤ i
    · have d : decide (i < 0) = false := by simp; omega
      rw [if_pos hi] at RX
      obtain ⟨k, rfl⟩ := Int.eq_ofNat_of_zero_le hi
      have hk : k < st.data.length := by omega
      obtain ⟨sg, rfl, hf, hc1, hc2, hcells⟩ := own_some H2.out.data (by omega)
      have c3 : U.cell? ⟨b, 3, none⟩ = some (.slice (some ⟨sg, 0, none⟩) st.data.length cdp) := H2.out.cells 3
      have ck := hcells k hk
      rw [List.getElem?_map, List.getElem?_eq_getElem hk, Option.map_some] at ck
      have g1 : (k : Int) < (st.data.length : Int) := by omega
      rw [Int.toNat_natCast] at RX
      have GE := hid (show st.data.getD k 0 = st.data[k] from by rw [List.getD_eq_getElem?_getD, List.getElem?_eq_getElem hk]; rfl)
      rw [GE.out] at RX
      clear hf hcells GE
      generalize st.data[k] = y at *
      go_wp2
      go_ret2
      rw [RX.out]
      exact ⟨rfl, H2.out, G2.out⟩
    · have d : decide (i < 0) = true := by simp; omega
      rw [if_neg hi] at RX
      go_wp2
      go_ret2
      rw [RX.out]
      exact ⟨rfl, H2.out, G2.out⟩

theorem Mc.reg_eq (st : Mc.St) (k : Nat) (hk : k < 32) : Mc.reg st (k : Int) = st.regs.getD k 0 := by
  unfold Mc.reg
  rw [show ((k : Int) % 32).toNat = k by omega]

/-- what a method of the document's machine does -/
def DoesS (W0 : World) (b g : Nat) (vin : Value) (st : Mc.St) (W : World) : Prop := ∃ vr vd vo, StAt W0 b g vin st vr vd vo W

set_option maxRecDepth 100000 in
set_option maxHeartbeats 4000000 in
theorem rAsk_any (W0 : World) (b g : Nat) (ai : Option Addr) (ci : Nat) (ins : List Int) (st : Mc.St) (vr vd vo : Value) (W : World) (h : StAt W0 b g (.slice ai ins.length ci) st vr vd vo W) (hin : IntsIn W0 ai ins) (hl : ins.length ≤ 16) :
    Calls Tryd.prog 29 #[.pointer (some ⟨b, 0, none⟩)] W fun e W' => e = .returned (.tuple #[]) ∧ DoesS W0 b g (.slice ai ins.length ci) (Mc.call ins st) W' := by
  obtain ⟨i0, hi, hz0, hz1, hz2⟩ := info_parts Tryd.infoInt
  obtain ⟨rg, cap, hvr, hc1, hc2, hf, hcells⟩ := h.reg
  subst hvr
  have H := hid h
  have c1 : W.cell? ⟨b, 1, none⟩ = some (.slice (some ⟨rg, 0, none⟩) 32 cap) := h.cells 1
  have c4 : W.cell? ⟨b, 4, none⟩ = some (.slice ai ins.length ci) := h.cells 4
  have c5 : W.cell? ⟨b, 5, none⟩ = some (.int .i64 st.ende) := h.cells 5
  have c6 : W.cell? ⟨b, 6, none⟩ = some (.int .i64 st.code) := h.cells 6
  have c9 : W.cell? ⟨b, 9, none⟩ = some (.int .i64 st.read) := h.cells 9
  have f5 := h.free 5
  have f6 := h.free 6
  have r10 := hcells 10 (by decide)
  have r17 := hcells 17 (by decide)
  rw [← Mc.reg_eq st 10 (by decide)] at r10
  rw [← Mc.reg_eq st 17 (by decide)] at r17
  have rr := reg_range h.ok 10
  have sG := hid (fun W => rMinus_any (Mc.reg st 10) W rr.1 rr.2)
  obtain ⟨X, hX⟩ : ∃ X, X = Mc.call ins st := ⟨_, rfl⟩
  rw [← hX]
  unfold Mc.call at hX
  have RX := hid hX
  have hcm := hc2
  unfold maxLen at hcm
  clear hX rr hf hcells
  have E17 : Hid (((17 : Nat) : Int) = 17) := rfl
  simp only [show (((17 : Nat) : Int)) = 17 from rfl, show (((10 : Nat) : Int)) = 10 from rfl] at r10 r17
  clear E17
  generalize Mc.reg st 17 = q at *
  generalize Mc.reg st 10 = x at *
  by_cases q0 : q = 0
  · subst q0
    rw [if_pos rfl] at RX
    clear h
    go_enter Tryd.func29, Tryd.ntmps29
    go_wp2_with fail
    refine (sG.out _).mono ?_
    rintro e V3 ⟨rfl, hV⟩
    subst hV
    go_wp2
    (try simp only [Exit.inBlock, Exit.then]); refine bodyPost_ret (results_none rfl _ _ _) rfl ?_
    rw [RX.out]
    exact ⟨rfl, _, _, _, (H.out.putEnd 1).putCode _⟩
  rw [if_neg q0] at RX
  have d0 : (q == 0) = false := by simpa using q0
  by_cases q1 : q = 1
  · subst q1
    rw [if_pos rfl] at RX
    obtain ⟨ao, co, hvo⟩ := own_form h.out
    subst hvo
    have c7 : W.cell? ⟨b, 7, none⟩ = some (.slice ao st.out.length co) := h.cells 7
    have hcap := own_cap h.out
    have hsz := h.gr.size
    by_cases hlt : 16 ≤ st.out.length
    · have d : decide ((st.out.length : Int) < 16) = false := by simp; omega
      rw [if_pos hlt] at RX
      clear h
      go_enter Tryd.func29, Tryd.ntmps29
      go_wp2_with fail
      refine (sG.out _).mono ?_
      rintro e V3 ⟨rfl, hV⟩
      subst hV
      go_wp2
      go_end0
      rw [RX.out]
      exact ⟨rfl, _, _, _, H.out.putEnd 6⟩
    · have d : decide ((st.out.length : Int) < 16) = true := by simp; omega
      rw [if_neg hlt] at RX
      have HO := hid h.out
      clear h
      go_enter Tryd.func29, Tryd.ntmps29
      go_wp2_with fail
      refine (sG.out _).mono ?_
      rintro e V3 ⟨rfl, hV⟩
      subst hV
      go_wp2_with (at_builtin; refine wpList_append_at _ rfl _ _ 22 rfl W0.heap.size 3 i0 (.int .i64 0) 1 8 Tryd.underlying22 hi hz0 hz1 hz2 rfl (by decide) _ _ _ rfl (HO.out.alloc _) ⟨V3.heap.size, 0, none⟩ 1 1 [.int .i64 (Mc.sg x)] rfl rfl (cell_one_new _ _ _) (by intro u hu; simp at hu; subst hu; rfl) (by unfold maxLen; omega) (by omega) (by simp; omega) ?_; intro v' w3 hown' hgrow hblk; obtain ⟨av', cv', rfl⟩ := own_form hown'; have KB := H.out.preOut hgrow; have f7 := KB.free 7; have k7 := H.out.preCell hgrow; have K := hid (H.out.putOut (Mc.sg x) (by omega) hown' hgrow hblk); clear hgrow hown' KB hblk)
      go_wp2
      (try simp only [Exit.inBlock, Exit.then]); refine bodyPost_ret (results_none rfl _ _ _) rfl ?_
      rw [RX.out]
      exact ⟨rfl, _, _, _, K.out⟩
  rw [if_neg q1] at RX
  have d1 : (q == 1) = false := by simpa using q1
  by_cases q2 : q = 2
  · subst q2
    rw [if_pos rfl] at RX
    by_cases hle : ins.length ≤ st.read
    · rw [if_pos hle] at RX
      have d : decide ((st.read : Int) < (ins.length : Int)) = false := by simp; omega
      clear h
      go_enter Tryd.func29, Tryd.ntmps29
      go_wp2_with fail
      refine (sG.out _).mono ?_
      rintro e V3 ⟨rfl, hV⟩
      subst hV
      go_wp2
      go_quiet (fail)
      have H1 := hid (H.out.grown (grown_drewN (World.grownBy.refl _ none) nq))
      clear c1 c4 c5 c6 c9 f5 f6 r10 r17 H
      generalize V3.drewN nq = V at *
      have c5 : V.cell? ⟨b, 5, none⟩ = some (.int .i64 st.ende) := H1.out.cells 5
      have f5 := H1.out.free 5
      go_wp2
      go_end0
      rw [RX.out]
      exact ⟨rfl, _, _, _, H1.out.putEnd 6⟩
    · rw [if_neg hle] at RX
      have d : decide ((st.read : Int) < (ins.length : Int)) = true := by simp; omega
      obtain ⟨sg, off, rfl, hcs⟩ := hin.kept (fun a v e => gcell e h.gr) (by omega)
      have ck := hcs st.read (by omega)
      have GE := hid (show ins.getD st.read 0 = ins[st.read]'(by omega) by rw [List.getD_eq_getElem?_getD, List.getElem?_eq_getElem (by omega)]; rfl)
      rw [GE.out] at RX
      generalize ins[st.read]'(by omega) = v at *
      have cS := hid (fun W hW => rPut_any W0 b g (.slice (some ⟨sg, off, none⟩) ins.length ci) st (.slice (some ⟨rg, 0, none⟩) 32 cap) vd vo 10 v W hW (by decide) (by decide))
      have hz : (st.read : Int) < (ins.length : Int) := by omega
      clear h hcs GE hin
      go_enter Tryd.func29, Tryd.ntmps29
      go_wp2_with fail
      refine (sG.out _).mono ?_
      rintro e V3 ⟨rfl, hV⟩
      subst hV
      go_wp2
      go_quiet (fail)
      have H1 := hid (H.out.grown (grown_drewN (World.grownBy.refl _ none) nq))
      have ck2 : (V3.drewN nq).cell? ⟨sg, off + st.read, none⟩ = some (.int .i64 v) := ck
      clear c1 c4 c5 c6 c9 f5 f6 r10 r17 H ck
      generalize V3.drewN nq = V at *
      have c4 : V.cell? ⟨b, 4, none⟩ = some (.slice (some ⟨sg, off, none⟩) ins.length ci) := H1.out.cells 4
      have c9 : V.cell? ⟨b, 9, none⟩ = some (.int .i64 st.read) := H1.out.cells 9
      have H2 : Hid (StAt W0 b g (.slice (some ⟨sg, off, none⟩) ins.length ci) st (.slice (some ⟨rg, 0, none⟩) 32 cap) vd vo V.drew) := H1.out.grown (grown_drewN (World.grownBy.refl _ none) 1)
      go_wp2
      go_region_with (go_at_call 26; refine (cS.out _ H2.out).mono ?_; rintro e w' ⟨rfl, h3, -⟩)
      all_goals
        have H3 := hid h3
        clear h3 c4 c9 ck2 H1 H2
        have c9 : w'.cell? ⟨b, 9, none⟩ = some (.int .i64 (Mc.set 10 v st).read) := H3.out.cells 9
        rw [set_read] at c9
        have f9 := H3.out.free 9
        go_wp2
        (try simp only [Exit.inBlock, Exit.then]); refine bodyPost_ret (results_none rfl _ _ _) rfl ?_
        rw [RX.out]
        exact ⟨rfl, _, _, _, H3.out.putRead (st.read + 1) (by omega)⟩
  rw [if_neg q2] at RX
  have d2 : (q == 2) = false := by simpa using q2
  clear q0 q1 q2 h
  go_enter Tryd.func29, Tryd.ntmps29
  go_wp2_with fail
  refine (sG.out _).mono ?_
  rintro e V ⟨rfl, hV⟩
  subst hV
  go_wp2
  go_end0
  rw [RX.out]
  exact ⟨rfl, _, _, _, H.out.putEnd 6⟩

end Go.Proofs.YtaiplongpjimnaaDoor

namespace Go.Proofs.YtaiplongpjimnaaDoor
open Go.RowKit

theorem Tryd.infoU8 : (Tryd.prog.info? 5).map (fun i => (i.zero, i.size, i.bytes)) = some (some (.int .u8 0), 1, 1) := by kernel_rfl

def byV (l : List UInt8) : List Value := l.map fun c => .int .u8 c.toNat

theorem i64_and255 (n : Int) : bits .and .i64 n 255 = n % 256 := by
  have h255 : (BitVec.ofInt 64 255).toNat = 2 ^ 8 - 1 := by decide
  have key : (BitVec.ofInt 64 n &&& BitVec.ofInt 64 255).toNat = (n % ((2 ^ 64 : Nat) : Int)).toNat % 2 ^ 8 := by
    rw [BitVec.toNat_and, BitVec.toNat_ofInt, h255, Nat.and_two_pow_sub_one_eq_mod]
  show IntKind.i64.wrap ((BitVec.ofInt 64 n &&& BitVec.ofInt 64 255).toNat : Nat) = n % 256
  rw [key, IntKind.wrap_i64]
  omega

def lowB (x : Int) : UInt8 := UInt8.ofNat (x % 256).toNat
theorem lowB_int (x : Int) : ((lowB x).toNat : Int) = bits .and .i64 x 255 % 256 := by
  rw [i64_and255]
  unfold lowB
  rw [UInt8.toNat_ofNat']
  omega

theorem lowB_own {w : World} {base : Nat} {v : Value} {n : Nat} {xs : List Value} {x : Int} (h : w.ownsRow base 5 1 v n (xs ++ [.int .u8 (bits .and .i64 x 255 % 256)])) : w.ownsRow base 5 1 v n (xs ++ [.int .u8 (lowB x).toNat]) := by
  rw [lowB_int]; exact h

/-- but for block b, what holds no bytes is as it was -/
def KeepT (b : Nat) (w w' : World) : Prop := ∀ k cs t, k ≠ b → t ≠ 5 → BlkAt w k cs t → BlkAt w' k cs t
theorem KeepT.refl (b : Nat) (w : World) : KeepT b w w := fun _ _ _ _ _ h => h
theorem KeepT.trans {b : Nat} {x y z : World} (h : KeepT b x y) (k : KeepT b y z) : KeepT b x z := fun i cs t hi ht hb => k i cs t hi ht (h i cs t hi ht hb)

/-- below b all is as it was; and of the rest what holds no bytes -/
def Wk (b : Nat) (w w' : World) : Prop := Below b w w' ∧ KeepT b w w'
theorem Wk.refl (b : Nat) (w : World) : Wk b w w := ⟨Below.refl _ _, KeepT.refl _ _⟩
theorem Wk.trans {b : Nat} {x y z : World} (h : Wk b x y) (k : Wk b y z) : Wk b x z := ⟨h.1.trans k.1, h.2.trans k.2⟩
theorem Wk.alloc {b : Nat} {x y : World} (h : Wk b x y) (hb : b ≤ y.heap.size) (o : Obj) : Wk b x (y.alloc o) :=
  ⟨h.1.alloc hb o, h.2.trans fun _ _ _ _ _ hk => hk.grown (World.grownBy_alloc y o none) (by simp)⟩

theorem keep_put {wr w1 : World} {b : Nat} {o : Obj} {base : Nat} {v0 : Value} {n : Nat} {xs : List Value} (hown : wr.ownsRow base 5 1 v0 n xs) (hg : (wr.alloc o).grownBy w1 v0.ownBlock) (v : Value) : KeepT b wr (w1.setCell ⟨b, 0, none⟩ v) := by
  intro k cs t hk ht hb
  have h1 := hb.grown (World.grownBy_alloc wr o none) (by simp)
  have h2 : BlkAt w1 k cs t := h1.grown hg (by
    rcases hown.2 with ⟨rfl, _⟩ | ⟨g, cap, cur, rfl, _, hh, _⟩
    · simp [Value.ownBlock]
    · intro e
      simp only [Value.ownBlock, Option.some.injEq] at e
      subst e
      unfold BlkAt at hb
      rw [hb] at hh
      simp only [Option.some.injEq, Obj.cells.injEq] at hh
      exact ht hh.2.1)
  exact h2.grown (grown_set w1 b 0 v) (by simpa using hk)

theorem wr_cell {wr w1 : World} {b : Nat} {cs : Array Value} {t : TypeId} {o : Obj} {row : Option Nat} (hb : BlkAt wr b cs t) (hg : (wr.alloc o).grownBy w1 row) (hrow : ∀ g, row = some g → b + 1 ≤ g) : BlkAt w1 b cs t :=
  (hb.grown (World.grownBy_alloc wr o none) (by simp)).grown hg (fun e => by have := hrow b e.symm; omega)

end Go.Proofs.YtaiplongpjimnaaDoor

namespace Go.Proofs.YtaiplongpjimnaaDoor
open Go.RowKit

theorem sl_snoc (s : ByteArray) (k : Nat) (h : k < s.size) : (sl s).take (k + 1) = (sl s).take k ++ [s[k]] := by
  have h' : k < s.data.toList.length := by rw [Array.length_toList]; exact h
  unfold sl
  rw [List.take_succ_eq_append_getElem h']
  rfl

theorem str_nums (l : List UInt8) : strOfNums (l.map fun c => (c.toNat : Int)) = bs l := by
  unfold strOfNums bs
  rw [List.map_map, List.map_congr_left (g := id) (fun c _ => by simp), List.map_id]

end Go.Proofs.YtaiplongpjimnaaDoor

namespace Go.Proofs.YtaiplongpjimnaaDoor
open Go.RowKit

def Branch0 (n : Int) : Prop := n % 128 = 99 ∧ (n / 4096 % 8 = 0 ∨ n / 4096 % 8 = 1 ∨ n / 4096 % 8 = 4 ∨ n / 4096 % 8 = 5 ∨ n / 4096 % 8 = 6 ∨ n / 4096 % 8 = 7) ∧ n / 33554432 = 0 ∧ n / 128 % 32 = 0
def Jal0 (n : Int) : Prop := n % 128 = 111 ∧ n / 4096 = 0
def Upper0 (opc n : Int) : Prop := n % 128 = opc ∧ n / 4096 = 0
def Short0 (opc f n : Int) : Prop := n % 128 = opc ∧ n / 4096 % 8 = f ∧ n / 1048576 = 0
def Store0 (n : Int) : Prop := n % 128 = 35 ∧ n / 4096 % 8 = 2 ∧ n / 33554432 = 0 ∧ n / 128 % 32 = 0

theorem is_1 (n : Int) (h0 : 0 ≤ n) (h1 : n ≤ 4294967295) : Is 1 n ↔ n % 128 = 55 := by
  show bits .and .i64 n 127 = 55 ↔ _
  rw [mask7 n h0 h1]
theorem is_2 (n : Int) (h0 : 0 ≤ n) (h1 : n ≤ 4294967295) : Is 2 n ↔ n % 128 = 23 := by
  show bits .and .i64 n 127 = 23 ↔ _
  rw [mask7 n h0 h1]
theorem is_3 (n : Int) (h0 : 0 ≤ n) (h1 : n ≤ 4294967295) : Is 3 n ↔ n % 128 = 111 := by
  show bits .and .i64 n 127 = 111 ↔ _
  rw [mask7 n h0 h1]
theorem is_4 (n : Int) (h0 : 0 ≤ n) (h1 : n ≤ 4294967295) : Is 4 n ↔ n % 128 + 4096 * (n / 4096 % 8) = 103 := by
  show bits .and .i64 n 28799 = 103 ↔ _
  rw [mask3 n h0 h1]
theorem is_5 (n : Int) (h0 : 0 ≤ n) (h1 : n ≤ 4294967295) : Is 5 n ↔ n % 128 + 4096 * (n / 4096 % 8) = 99 := by
  show bits .and .i64 n 28799 = 99 ↔ _
  rw [mask3 n h0 h1]
theorem is_6 (n : Int) (h0 : 0 ≤ n) (h1 : n ≤ 4294967295) : Is 6 n ↔ n % 128 + 4096 * (n / 4096 % 8) = 4195 := by
  show bits .and .i64 n 28799 = 4195 ↔ _
  rw [mask3 n h0 h1]
theorem is_7 (n : Int) (h0 : 0 ≤ n) (h1 : n ≤ 4294967295) : Is 7 n ↔ n % 128 + 4096 * (n / 4096 % 8) = 16483 := by
  show bits .and .i64 n 28799 = 16483 ↔ _
  rw [mask3 n h0 h1]
theorem is_8 (n : Int) (h0 : 0 ≤ n) (h1 : n ≤ 4294967295) : Is 8 n ↔ n % 128 + 4096 * (n / 4096 % 8) = 20579 := by
  show bits .and .i64 n 28799 = 20579 ↔ _
  rw [mask3 n h0 h1]
theorem is_9 (n : Int) (h0 : 0 ≤ n) (h1 : n ≤ 4294967295) : Is 9 n ↔ n % 128 + 4096 * (n / 4096 % 8) = 24675 := by
  show bits .and .i64 n 28799 = 24675 ↔ _
  rw [mask3 n h0 h1]
theorem is_10 (n : Int) (h0 : 0 ≤ n) (h1 : n ≤ 4294967295) : Is 10 n ↔ n % 128 + 4096 * (n / 4096 % 8) = 28771 := by
  show bits .and .i64 n 28799 = 28771 ↔ _
  rw [mask3 n h0 h1]
theorem is_11 (n : Int) (h0 : 0 ≤ n) (h1 : n ≤ 4294967295) : Is 11 n ↔ n % 128 + 4096 * (n / 4096 % 8) = 8195 := by
  show bits .and .i64 n 28799 = 8195 ↔ _
  rw [mask3 n h0 h1]
theorem is_12 (n : Int) (h0 : 0 ≤ n) (h1 : n ≤ 4294967295) : Is 12 n ↔ n % 128 + 4096 * (n / 4096 % 8) = 8227 := by
  show bits .and .i64 n 28799 = 8227 ↔ _
  rw [mask3 n h0 h1]
theorem is_13 (n : Int) (h0 : 0 ≤ n) (h1 : n ≤ 4294967295) : Is 13 n ↔ n % 128 + 4096 * (n / 4096 % 8) = 19 := by
  show bits .and .i64 n 28799 = 19 ↔ _
  rw [mask3 n h0 h1]
theorem is_14 (n : Int) (h0 : 0 ≤ n) (h1 : n ≤ 4294967295) : Is 14 n ↔ n % 128 + 4096 * (n / 4096 % 8) = 8211 := by
  show bits .and .i64 n 28799 = 8211 ↔ _
  rw [mask3 n h0 h1]
theorem is_15 (n : Int) (h0 : 0 ≤ n) (h1 : n ≤ 4294967295) : Is 15 n ↔ n % 128 + 4096 * (n / 4096 % 8) = 16403 := by
  show bits .and .i64 n 28799 = 16403 ↔ _
  rw [mask3 n h0 h1]
theorem is_16 (n : Int) (h0 : 0 ≤ n) (h1 : n ≤ 4294967295) : Is 16 n ↔ n % 128 + 4096 * (n / 4096 % 8) = 24595 := by
  show bits .and .i64 n 28799 = 24595 ↔ _
  rw [mask3 n h0 h1]
theorem is_17 (n : Int) (h0 : 0 ≤ n) (h1 : n ≤ 4294967295) : Is 17 n ↔ n % 128 + 4096 * (n / 4096 % 8) = 28691 := by
  show bits .and .i64 n 28799 = 28691 ↔ _
  rw [mask3 n h0 h1]
theorem is_18 (n : Int) (h0 : 0 ≤ n) (h1 : n ≤ 4294967295) : Is 18 n ↔ n % 128 + 4096 * (n / 4096 % 8) + 33554432 * (n / 33554432) = 51 := by
  show bits .and .i64 n 4261441663 = 51 ↔ _
  rw [maskR n h0 h1]
theorem is_19 (n : Int) (h0 : 0 ≤ n) (h1 : n ≤ 4294967295) : Is 19 n ↔ n % 128 + 4096 * (n / 4096 % 8) + 33554432 * (n / 33554432) = 1073741875 := by
  show bits .and .i64 n 4261441663 = 1073741875 ↔ _
  rw [maskR n h0 h1]
theorem is_20 (n : Int) (h0 : 0 ≤ n) (h1 : n ≤ 4294967295) : Is 20 n ↔ n % 128 + 4096 * (n / 4096 % 8) + 33554432 * (n / 33554432) = 8243 := by
  show bits .and .i64 n 4261441663 = 8243 ↔ _
  rw [maskR n h0 h1]
theorem is_21 (n : Int) (h0 : 0 ≤ n) (h1 : n ≤ 4294967295) : Is 21 n ↔ n % 128 + 4096 * (n / 4096 % 8) + 33554432 * (n / 33554432) = 12339 := by
  show bits .and .i64 n 4261441663 = 12339 ↔ _
  rw [maskR n h0 h1]
theorem is_22 (n : Int) (h0 : 0 ≤ n) (h1 : n ≤ 4294967295) : Is 22 n ↔ n % 128 + 4096 * (n / 4096 % 8) + 33554432 * (n / 33554432) = 16435 := by
  show bits .and .i64 n 4261441663 = 16435 ↔ _
  rw [maskR n h0 h1]
theorem is_23 (n : Int) (h0 : 0 ≤ n) (h1 : n ≤ 4294967295) : Is 23 n ↔ n % 128 + 4096 * (n / 4096 % 8) + 33554432 * (n / 33554432) = 24627 := by
  show bits .and .i64 n 4261441663 = 24627 ↔ _
  rw [maskR n h0 h1]
theorem is_24 (n : Int) (h0 : 0 ≤ n) (h1 : n ≤ 4294967295) : Is 24 n ↔ n % 128 + 4096 * (n / 4096 % 8) + 33554432 * (n / 33554432) = 28723 := by
  show bits .and .i64 n 4261441663 = 28723 ↔ _
  rw [maskR n h0 h1]
theorem is_25 (n : Int) (h0 : 0 ≤ n) (h1 : n ≤ 4294967295) : Is 25 n ↔ n = 115 := by
  show bits .and .i64 n 4294967295 = 115 ↔ _
  rw [maskW n h0 h1]

def DecFacts (n op rd rs1 m : Int) : Prop :=
    ((5 ≤ op ∧ op ≤ 10 ∧ m = 0) ↔ Branch0 n) ∧ ((op = 3 ∧ m = 0) ↔ Jal0 n) ∧ ((op = 1 ∧ m = 0) ↔ Upper0 55 n) ∧ ((op = 2 ∧ m = 0) ↔ Upper0 23 n) ∧
    ((op = 4 ∧ m = 0) ↔ Short0 103 0 n) ∧ ((op = 11 ∧ m = 0) ↔ Short0 3 2 n) ∧ ((op = 12 ∧ m = 0) ↔ Store0 n) ∧ ((op = 13 ∧ m = 0) ↔ Short0 19 0 n) ∧
    ((op = 1 ∨ op = 2) → rd = n / 128 % 32) ∧ ((op = 4 ∨ op = 11 ∨ op = 12 ∨ op = 13) → rs1 = n / 32768 % 32)

theorem reg_low (n d : Int) (h0 : 0 ≤ n) (h1 : n ≤ 4294967295) (hd : 1 ≤ d) : bits .and .i64 (n / d) 31 = n / d % 32 := by
  have a : 0 ≤ n / d := Int.ediv_nonneg h0 (by omega)
  have b : n / d ≤ n := Int.ediv_le_self d h0
  exact low (n / d) 5 (by decide) 31 32 rfl rfl a (by omega)

theorem dec_no (n : Int) (h0 : 0 ≤ n) (h1 : n ≤ 4294967295) (h : ∀ k, 1 ≤ k → k ≤ 25 → ¬ Is k n) : DecFacts n 0 0 0 0 := by
  have i1 := h 1 (by decide) (by decide)
  rw [is_1 n h0 h1] at i1
  have i2 := h 2 (by decide) (by decide)
  rw [is_2 n h0 h1] at i2
  have i3 := h 3 (by decide) (by decide)
  rw [is_3 n h0 h1] at i3
  have i4 := h 4 (by decide) (by decide)
  rw [is_4 n h0 h1] at i4
  have i5 := h 5 (by decide) (by decide)
  rw [is_5 n h0 h1] at i5
  have i6 := h 6 (by decide) (by decide)
  rw [is_6 n h0 h1] at i6
  have i7 := h 7 (by decide) (by decide)
  rw [is_7 n h0 h1] at i7
  have i8 := h 8 (by decide) (by decide)
  rw [is_8 n h0 h1] at i8
  have i9 := h 9 (by decide) (by decide)
  rw [is_9 n h0 h1] at i9
  have i10 := h 10 (by decide) (by decide)
  rw [is_10 n h0 h1] at i10
  have i11 := h 11 (by decide) (by decide)
  rw [is_11 n h0 h1] at i11
  have i12 := h 12 (by decide) (by decide)
  rw [is_12 n h0 h1] at i12
  have i13 := h 13 (by decide) (by decide)
  rw [is_13 n h0 h1] at i13
  clear h
  unfold DecFacts Branch0 Jal0 Upper0 Short0 Store0
  refine ⟨?_, ?_, ?_, ?_, ?_, ?_, ?_, ?_, ?_, ?_⟩ <;> omega

theorem dec_1 (n m : Int) (h0 : 0 ≤ n) (h1 : n ≤ 4294967295) (hi : Is 1 n) (_hm : m = 0 ↔ NumZero 1 n) : DecFacts n 1 (rdF 1 n) (rs1F 1 n) m := by
  rw [is_1 n h0 h1] at hi
  have hz : NumZero 1 n ↔ n / 4096 = 0 := by simp [NumZero]
  rw [hz] at _hm
  have hrd : rdF 1 n = n / 128 % 32 := by rw [← reg_low n 128 h0 h1 (by decide)]; rfl
  have hrs : rs1F 1 n = 0 := by rfl
  unfold DecFacts Branch0 Jal0 Upper0 Short0 Store0
  rw [hrd, hrs]
  clear hz
  refine ⟨?_, ?_, ?_, ?_, ?_, ?_, ?_, ?_, ?_, ?_⟩ <;> omega
theorem dec_2 (n m : Int) (h0 : 0 ≤ n) (h1 : n ≤ 4294967295) (hi : Is 2 n) (_hm : m = 0 ↔ NumZero 1 n) : DecFacts n 2 (rdF 1 n) (rs1F 1 n) m := by
  rw [is_2 n h0 h1] at hi
  have hz : NumZero 1 n ↔ n / 4096 = 0 := by simp [NumZero]
  rw [hz] at _hm
  have hrd : rdF 1 n = n / 128 % 32 := by rw [← reg_low n 128 h0 h1 (by decide)]; rfl
  have hrs : rs1F 1 n = 0 := by rfl
  unfold DecFacts Branch0 Jal0 Upper0 Short0 Store0
  rw [hrd, hrs]
  clear hz
  refine ⟨?_, ?_, ?_, ?_, ?_, ?_, ?_, ?_, ?_, ?_⟩ <;> omega
theorem dec_3 (n m : Int) (h0 : 0 ≤ n) (h1 : n ≤ 4294967295) (hi : Is 3 n) (_hm : m = 0 ↔ NumZero 2 n) : DecFacts n 3 (rdF 2 n) (rs1F 2 n) m := by
  rw [is_3 n h0 h1] at hi
  have hz : NumZero 2 n ↔ n / 4096 = 0 := by simp [NumZero]
  rw [hz] at _hm
  have hrd : rdF 2 n = n / 128 % 32 := by rw [← reg_low n 128 h0 h1 (by decide)]; rfl
  have hrs : rs1F 2 n = 0 := by rfl
  unfold DecFacts Branch0 Jal0 Upper0 Short0 Store0
  rw [hrd, hrs]
  clear hz
  refine ⟨?_, ?_, ?_, ?_, ?_, ?_, ?_, ?_, ?_, ?_⟩ <;> omega
theorem dec_4 (n m : Int) (h0 : 0 ≤ n) (h1 : n ≤ 4294967295) (hi : Is 4 n) (_hm : m = 0 ↔ NumZero 3 n) : DecFacts n 4 (rdF 3 n) (rs1F 3 n) m := by
  rw [is_4 n h0 h1] at hi
  have hz : NumZero 3 n ↔ n / 1048576 = 0 := by simp [NumZero]
  rw [hz] at _hm
  have hrd : rdF 3 n = n / 128 % 32 := by rw [← reg_low n 128 h0 h1 (by decide)]; rfl
  have hrs : rs1F 3 n = n / 32768 % 32 := by rw [← reg_low n 32768 h0 h1 (by decide)]; rfl
  unfold DecFacts Branch0 Jal0 Upper0 Short0 Store0
  rw [hrd, hrs]
  clear hz
  refine ⟨?_, ?_, ?_, ?_, ?_, ?_, ?_, ?_, ?_, ?_⟩ <;> omega
theorem dec_5 (n m : Int) (h0 : 0 ≤ n) (h1 : n ≤ 4294967295) (hi : Is 5 n) (_hm : m = 0 ↔ NumZero 4 n) : DecFacts n 5 (rdF 4 n) (rs1F 4 n) m := by
  rw [is_5 n h0 h1] at hi
  have hz : NumZero 4 n ↔ n / 33554432 = 0 ∧ n / 128 % 32 = 0 := by simp [NumZero]
  rw [hz] at _hm
  have hrd : rdF 4 n = 0 := by rfl
  have hrs : rs1F 4 n = n / 32768 % 32 := by rw [← reg_low n 32768 h0 h1 (by decide)]; rfl
  unfold DecFacts Branch0 Jal0 Upper0 Short0 Store0
  rw [hrd, hrs]
  clear hz
  refine ⟨?_, ?_, ?_, ?_, ?_, ?_, ?_, ?_, ?_, ?_⟩ <;> omega
theorem dec_6 (n m : Int) (h0 : 0 ≤ n) (h1 : n ≤ 4294967295) (hi : Is 6 n) (_hm : m = 0 ↔ NumZero 4 n) : DecFacts n 6 (rdF 4 n) (rs1F 4 n) m := by
  rw [is_6 n h0 h1] at hi
  have hz : NumZero 4 n ↔ n / 33554432 = 0 ∧ n / 128 % 32 = 0 := by simp [NumZero]
  rw [hz] at _hm
  have hrd : rdF 4 n = 0 := by rfl
  have hrs : rs1F 4 n = n / 32768 % 32 := by rw [← reg_low n 32768 h0 h1 (by decide)]; rfl
  unfold DecFacts Branch0 Jal0 Upper0 Short0 Store0
  rw [hrd, hrs]
  clear hz
  refine ⟨?_, ?_, ?_, ?_, ?_, ?_, ?_, ?_, ?_, ?_⟩ <;> omega
theorem dec_7 (n m : Int) (h0 : 0 ≤ n) (h1 : n ≤ 4294967295) (hi : Is 7 n) (_hm : m = 0 ↔ NumZero 4 n) : DecFacts n 7 (rdF 4 n) (rs1F 4 n) m := by
  rw [is_7 n h0 h1] at hi
  have hz : NumZero 4 n ↔ n / 33554432 = 0 ∧ n / 128 % 32 = 0 := by simp [NumZero]
  rw [hz] at _hm
  have hrd : rdF 4 n = 0 := by rfl
  have hrs : rs1F 4 n = n / 32768 % 32 := by rw [← reg_low n 32768 h0 h1 (by decide)]; rfl
  unfold DecFacts Branch0 Jal0 Upper0 Short0 Store0
  rw [hrd, hrs]
  clear hz
  refine ⟨?_, ?_, ?_, ?_, ?_, ?_, ?_, ?_, ?_, ?_⟩ <;> omega
theorem dec_8 (n m : Int) (h0 : 0 ≤ n) (h1 : n ≤ 4294967295) (hi : Is 8 n) (_hm : m = 0 ↔ NumZero 4 n) : DecFacts n 8 (rdF 4 n) (rs1F 4 n) m := by
  rw [is_8 n h0 h1] at hi
  have hz : NumZero 4 n ↔ n / 33554432 = 0 ∧ n / 128 % 32 = 0 := by simp [NumZero]
  rw [hz] at _hm
  have hrd : rdF 4 n = 0 := by rfl
  have hrs : rs1F 4 n = n / 32768 % 32 := by rw [← reg_low n 32768 h0 h1 (by decide)]; rfl
  unfold DecFacts Branch0 Jal0 Upper0 Short0 Store0
  rw [hrd, hrs]
  clear hz
  refine ⟨?_, ?_, ?_, ?_, ?_, ?_, ?_, ?_, ?_, ?_⟩ <;> omega
theorem dec_9 (n m : Int) (h0 : 0 ≤ n) (h1 : n ≤ 4294967295) (hi : Is 9 n) (_hm : m = 0 ↔ NumZero 4 n) : DecFacts n 9 (rdF 4 n) (rs1F 4 n) m := by
  rw [is_9 n h0 h1] at hi
  have hz : NumZero 4 n ↔ n / 33554432 = 0 ∧ n / 128 % 32 = 0 := by simp [NumZero]
  rw [hz] at _hm
  have hrd : rdF 4 n = 0 := by rfl
  have hrs : rs1F 4 n = n / 32768 % 32 := by rw [← reg_low n 32768 h0 h1 (by decide)]; rfl
  unfold DecFacts Branch0 Jal0 Upper0 Short0 Store0
  rw [hrd, hrs]
  clear hz
  refine ⟨?_, ?_, ?_, ?_, ?_, ?_, ?_, ?_, ?_, ?_⟩ <;> omega
theorem dec_10 (n m : Int) (h0 : 0 ≤ n) (h1 : n ≤ 4294967295) (hi : Is 10 n) (_hm : m = 0 ↔ NumZero 4 n) : DecFacts n 10 (rdF 4 n) (rs1F 4 n) m := by
  rw [is_10 n h0 h1] at hi
  have hz : NumZero 4 n ↔ n / 33554432 = 0 ∧ n / 128 % 32 = 0 := by simp [NumZero]
  rw [hz] at _hm
  have hrd : rdF 4 n = 0 := by rfl
  have hrs : rs1F 4 n = n / 32768 % 32 := by rw [← reg_low n 32768 h0 h1 (by decide)]; rfl
  unfold DecFacts Branch0 Jal0 Upper0 Short0 Store0
  rw [hrd, hrs]
  clear hz
  refine ⟨?_, ?_, ?_, ?_, ?_, ?_, ?_, ?_, ?_, ?_⟩ <;> omega
theorem dec_11 (n m : Int) (h0 : 0 ≤ n) (h1 : n ≤ 4294967295) (hi : Is 11 n) (_hm : m = 0 ↔ NumZero 3 n) : DecFacts n 11 (rdF 3 n) (rs1F 3 n) m := by
  rw [is_11 n h0 h1] at hi
  have hz : NumZero 3 n ↔ n / 1048576 = 0 := by simp [NumZero]
  rw [hz] at _hm
  have hrd : rdF 3 n = n / 128 % 32 := by rw [← reg_low n 128 h0 h1 (by decide)]; rfl
  have hrs : rs1F 3 n = n / 32768 % 32 := by rw [← reg_low n 32768 h0 h1 (by decide)]; rfl
  unfold DecFacts Branch0 Jal0 Upper0 Short0 Store0
  rw [hrd, hrs]
  clear hz
  refine ⟨?_, ?_, ?_, ?_, ?_, ?_, ?_, ?_, ?_, ?_⟩ <;> omega
theorem dec_12 (n m : Int) (h0 : 0 ≤ n) (h1 : n ≤ 4294967295) (hi : Is 12 n) (_hm : m = 0 ↔ NumZero 5 n) : DecFacts n 12 (rdF 5 n) (rs1F 5 n) m := by
  rw [is_12 n h0 h1] at hi
  have hz : NumZero 5 n ↔ n / 33554432 = 0 ∧ n / 128 % 32 = 0 := by simp [NumZero]
  rw [hz] at _hm
  have hrd : rdF 5 n = 0 := by rfl
  have hrs : rs1F 5 n = n / 32768 % 32 := by rw [← reg_low n 32768 h0 h1 (by decide)]; rfl
  unfold DecFacts Branch0 Jal0 Upper0 Short0 Store0
  rw [hrd, hrs]
  clear hz
  refine ⟨?_, ?_, ?_, ?_, ?_, ?_, ?_, ?_, ?_, ?_⟩ <;> omega
theorem dec_13 (n m : Int) (h0 : 0 ≤ n) (h1 : n ≤ 4294967295) (hi : Is 13 n) (_hm : m = 0 ↔ NumZero 3 n) : DecFacts n 13 (rdF 3 n) (rs1F 3 n) m := by
  rw [is_13 n h0 h1] at hi
  have hz : NumZero 3 n ↔ n / 1048576 = 0 := by simp [NumZero]
  rw [hz] at _hm
  have hrd : rdF 3 n = n / 128 % 32 := by rw [← reg_low n 128 h0 h1 (by decide)]; rfl
  have hrs : rs1F 3 n = n / 32768 % 32 := by rw [← reg_low n 32768 h0 h1 (by decide)]; rfl
  unfold DecFacts Branch0 Jal0 Upper0 Short0 Store0
  rw [hrd, hrs]
  clear hz
  refine ⟨?_, ?_, ?_, ?_, ?_, ?_, ?_, ?_, ?_, ?_⟩ <;> omega
theorem dec_14 (n m : Int) (h0 : 0 ≤ n) (h1 : n ≤ 4294967295) (hi : Is 14 n) (_hm : m = 0 ↔ NumZero 3 n) : DecFacts n 14 (rdF 3 n) (rs1F 3 n) m := by
  rw [is_14 n h0 h1] at hi
  have hz : NumZero 3 n ↔ n / 1048576 = 0 := by simp [NumZero]
  rw [hz] at _hm
  have hrd : rdF 3 n = n / 128 % 32 := by rw [← reg_low n 128 h0 h1 (by decide)]; rfl
  have hrs : rs1F 3 n = n / 32768 % 32 := by rw [← reg_low n 32768 h0 h1 (by decide)]; rfl
  unfold DecFacts Branch0 Jal0 Upper0 Short0 Store0
  rw [hrd, hrs]
  clear hz
  refine ⟨?_, ?_, ?_, ?_, ?_, ?_, ?_, ?_, ?_, ?_⟩ <;> omega
theorem dec_15 (n m : Int) (h0 : 0 ≤ n) (h1 : n ≤ 4294967295) (hi : Is 15 n) (_hm : m = 0 ↔ NumZero 3 n) : DecFacts n 15 (rdF 3 n) (rs1F 3 n) m := by
  rw [is_15 n h0 h1] at hi
  have hz : NumZero 3 n ↔ n / 1048576 = 0 := by simp [NumZero]
  rw [hz] at _hm
  have hrd : rdF 3 n = n / 128 % 32 := by rw [← reg_low n 128 h0 h1 (by decide)]; rfl
  have hrs : rs1F 3 n = n / 32768 % 32 := by rw [← reg_low n 32768 h0 h1 (by decide)]; rfl
  unfold DecFacts Branch0 Jal0 Upper0 Short0 Store0
  rw [hrd, hrs]
  clear hz
  refine ⟨?_, ?_, ?_, ?_, ?_, ?_, ?_, ?_, ?_, ?_⟩ <;> omega
theorem dec_16 (n m : Int) (h0 : 0 ≤ n) (h1 : n ≤ 4294967295) (hi : Is 16 n) (_hm : m = 0 ↔ NumZero 3 n) : DecFacts n 16 (rdF 3 n) (rs1F 3 n) m := by
  rw [is_16 n h0 h1] at hi
  have hz : NumZero 3 n ↔ n / 1048576 = 0 := by simp [NumZero]
  rw [hz] at _hm
  have hrd : rdF 3 n = n / 128 % 32 := by rw [← reg_low n 128 h0 h1 (by decide)]; rfl
  have hrs : rs1F 3 n = n / 32768 % 32 := by rw [← reg_low n 32768 h0 h1 (by decide)]; rfl
  unfold DecFacts Branch0 Jal0 Upper0 Short0 Store0
  rw [hrd, hrs]
  clear hz
  refine ⟨?_, ?_, ?_, ?_, ?_, ?_, ?_, ?_, ?_, ?_⟩ <;> omega
theorem dec_17 (n m : Int) (h0 : 0 ≤ n) (h1 : n ≤ 4294967295) (hi : Is 17 n) (_hm : m = 0 ↔ NumZero 3 n) : DecFacts n 17 (rdF 3 n) (rs1F 3 n) m := by
  rw [is_17 n h0 h1] at hi
  have hz : NumZero 3 n ↔ n / 1048576 = 0 := by simp [NumZero]
  rw [hz] at _hm
  have hrd : rdF 3 n = n / 128 % 32 := by rw [← reg_low n 128 h0 h1 (by decide)]; rfl
  have hrs : rs1F 3 n = n / 32768 % 32 := by rw [← reg_low n 32768 h0 h1 (by decide)]; rfl
  unfold DecFacts Branch0 Jal0 Upper0 Short0 Store0
  rw [hrd, hrs]
  clear hz
  refine ⟨?_, ?_, ?_, ?_, ?_, ?_, ?_, ?_, ?_, ?_⟩ <;> omega
theorem dec_18 (n m : Int) (h0 : 0 ≤ n) (h1 : n ≤ 4294967295) (hi : Is 18 n) (_hm : m = 0 ↔ NumZero 6 n) : DecFacts n 18 (rdF 6 n) (rs1F 6 n) m := by
  rw [is_18 n h0 h1] at hi
  have hz : NumZero 6 n ↔ True := by simp [NumZero]
  rw [hz] at _hm
  have hrd : rdF 6 n = n / 128 % 32 := by rw [← reg_low n 128 h0 h1 (by decide)]; rfl
  have hrs : rs1F 6 n = n / 32768 % 32 := by rw [← reg_low n 32768 h0 h1 (by decide)]; rfl
  unfold DecFacts Branch0 Jal0 Upper0 Short0 Store0
  rw [hrd, hrs]
  simp only [iff_true] at _hm
  refine ⟨?_, ?_, ?_, ?_, ?_, ?_, ?_, ?_, ?_, ?_⟩ <;> omega
theorem dec_19 (n m : Int) (h0 : 0 ≤ n) (h1 : n ≤ 4294967295) (hi : Is 19 n) (_hm : m = 0 ↔ NumZero 6 n) : DecFacts n 19 (rdF 6 n) (rs1F 6 n) m := by
  rw [is_19 n h0 h1] at hi
  have hz : NumZero 6 n ↔ True := by simp [NumZero]
  rw [hz] at _hm
  have hrd : rdF 6 n = n / 128 % 32 := by rw [← reg_low n 128 h0 h1 (by decide)]; rfl
  have hrs : rs1F 6 n = n / 32768 % 32 := by rw [← reg_low n 32768 h0 h1 (by decide)]; rfl
  unfold DecFacts Branch0 Jal0 Upper0 Short0 Store0
  rw [hrd, hrs]
  simp only [iff_true] at _hm
  refine ⟨?_, ?_, ?_, ?_, ?_, ?_, ?_, ?_, ?_, ?_⟩ <;> omega
theorem dec_20 (n m : Int) (h0 : 0 ≤ n) (h1 : n ≤ 4294967295) (hi : Is 20 n) (_hm : m = 0 ↔ NumZero 6 n) : DecFacts n 20 (rdF 6 n) (rs1F 6 n) m := by
  rw [is_20 n h0 h1] at hi
  have hz : NumZero 6 n ↔ True := by simp [NumZero]
  rw [hz] at _hm
  have hrd : rdF 6 n = n / 128 % 32 := by rw [← reg_low n 128 h0 h1 (by decide)]; rfl
  have hrs : rs1F 6 n = n / 32768 % 32 := by rw [← reg_low n 32768 h0 h1 (by decide)]; rfl
  unfold DecFacts Branch0 Jal0 Upper0 Short0 Store0
  rw [hrd, hrs]
  simp only [iff_true] at _hm
  refine ⟨?_, ?_, ?_, ?_, ?_, ?_, ?_, ?_, ?_, ?_⟩ <;> omega
theorem dec_21 (n m : Int) (h0 : 0 ≤ n) (h1 : n ≤ 4294967295) (hi : Is 21 n) (_hm : m = 0 ↔ NumZero 6 n) : DecFacts n 21 (rdF 6 n) (rs1F 6 n) m := by
  rw [is_21 n h0 h1] at hi
  have hz : NumZero 6 n ↔ True := by simp [NumZero]
  rw [hz] at _hm
  have hrd : rdF 6 n = n / 128 % 32 := by rw [← reg_low n 128 h0 h1 (by decide)]; rfl
  have hrs : rs1F 6 n = n / 32768 % 32 := by rw [← reg_low n 32768 h0 h1 (by decide)]; rfl
  unfold DecFacts Branch0 Jal0 Upper0 Short0 Store0
  rw [hrd, hrs]
  simp only [iff_true] at _hm
  refine ⟨?_, ?_, ?_, ?_, ?_, ?_, ?_, ?_, ?_, ?_⟩ <;> omega
theorem dec_22 (n m : Int) (h0 : 0 ≤ n) (h1 : n ≤ 4294967295) (hi : Is 22 n) (_hm : m = 0 ↔ NumZero 6 n) : DecFacts n 22 (rdF 6 n) (rs1F 6 n) m := by
  rw [is_22 n h0 h1] at hi
  have hz : NumZero 6 n ↔ True := by simp [NumZero]
  rw [hz] at _hm
  have hrd : rdF 6 n = n / 128 % 32 := by rw [← reg_low n 128 h0 h1 (by decide)]; rfl
  have hrs : rs1F 6 n = n / 32768 % 32 := by rw [← reg_low n 32768 h0 h1 (by decide)]; rfl
  unfold DecFacts Branch0 Jal0 Upper0 Short0 Store0
  rw [hrd, hrs]
  simp only [iff_true] at _hm
  refine ⟨?_, ?_, ?_, ?_, ?_, ?_, ?_, ?_, ?_, ?_⟩ <;> omega
theorem dec_23 (n m : Int) (h0 : 0 ≤ n) (h1 : n ≤ 4294967295) (hi : Is 23 n) (_hm : m = 0 ↔ NumZero 6 n) : DecFacts n 23 (rdF 6 n) (rs1F 6 n) m := by
  rw [is_23 n h0 h1] at hi
  have hz : NumZero 6 n ↔ True := by simp [NumZero]
  rw [hz] at _hm
  have hrd : rdF 6 n = n / 128 % 32 := by rw [← reg_low n 128 h0 h1 (by decide)]; rfl
  have hrs : rs1F 6 n = n / 32768 % 32 := by rw [← reg_low n 32768 h0 h1 (by decide)]; rfl
  unfold DecFacts Branch0 Jal0 Upper0 Short0 Store0
  rw [hrd, hrs]
  simp only [iff_true] at _hm
  refine ⟨?_, ?_, ?_, ?_, ?_, ?_, ?_, ?_, ?_, ?_⟩ <;> omega
theorem dec_24 (n m : Int) (h0 : 0 ≤ n) (h1 : n ≤ 4294967295) (hi : Is 24 n) (_hm : m = 0 ↔ NumZero 6 n) : DecFacts n 24 (rdF 6 n) (rs1F 6 n) m := by
  rw [is_24 n h0 h1] at hi
  have hz : NumZero 6 n ↔ True := by simp [NumZero]
  rw [hz] at _hm
  have hrd : rdF 6 n = n / 128 % 32 := by rw [← reg_low n 128 h0 h1 (by decide)]; rfl
  have hrs : rs1F 6 n = n / 32768 % 32 := by rw [← reg_low n 32768 h0 h1 (by decide)]; rfl
  unfold DecFacts Branch0 Jal0 Upper0 Short0 Store0
  rw [hrd, hrs]
  simp only [iff_true] at _hm
  refine ⟨?_, ?_, ?_, ?_, ?_, ?_, ?_, ?_, ?_, ?_⟩ <;> omega
theorem dec_25 (n m : Int) (h0 : 0 ≤ n) (h1 : n ≤ 4294967295) (hi : Is 25 n) (_hm : m = 0 ↔ NumZero 7 n) : DecFacts n 25 (rdF 7 n) (rs1F 7 n) m := by
  rw [is_25 n h0 h1] at hi
  have hz : NumZero 7 n ↔ True := by simp [NumZero]
  rw [hz] at _hm
  have hrd : rdF 7 n = 0 := by rfl
  have hrs : rs1F 7 n = 0 := by rfl
  unfold DecFacts Branch0 Jal0 Upper0 Short0 Store0
  rw [hrd, hrs]
  simp only [iff_true] at _hm
  refine ⟨?_, ?_, ?_, ?_, ?_, ?_, ?_, ?_, ?_, ?_⟩ <;> omega

theorem dec_facts (n op rd rs1 m : Int) (h0 : 0 ≤ n) (h1 : n ≤ 4294967295) (h : Dec n op rd rs1 m) : DecFacts n op rd rs1 m := by
  rcases h with ⟨rfl, rfl, rfl, rfl, h⟩ | ⟨k, k1, k2, hi, -, rfl, rfl, rfl, hm⟩
  · exact dec_no n h0 h1 h
  · rcases (show k = 1 ∨ k = 2 ∨ k = 3 ∨ k = 4 ∨ k = 5 ∨ k = 6 ∨ k = 7 ∨ k = 8 ∨ k = 9 ∨ k = 10 ∨ k = 11 ∨ k = 12 ∨ k = 13 ∨ k = 14 ∨ k = 15 ∨ k = 16 ∨ k = 17 ∨ k = 18 ∨ k = 19 ∨ k = 20 ∨ k = 21 ∨ k = 22 ∨ k = 23 ∨ k = 24 ∨ k = 25 from by omega) with rfl | rfl | rfl | rfl | rfl | rfl | rfl | rfl | rfl | rfl | rfl | rfl | rfl | rfl | rfl | rfl | rfl | rfl | rfl | rfl | rfl | rfl | rfl | rfl | rfl
    · exact dec_1 n m h0 h1 hi hm
    · exact dec_2 n m h0 h1 hi hm
    · exact dec_3 n m h0 h1 hi hm
    · exact dec_4 n m h0 h1 hi hm
    · exact dec_5 n m h0 h1 hi hm
    · exact dec_6 n m h0 h1 hi hm
    · exact dec_7 n m h0 h1 hi hm
    · exact dec_8 n m h0 h1 hi hm
    · exact dec_9 n m h0 h1 hi hm
    · exact dec_10 n m h0 h1 hi hm
    · exact dec_11 n m h0 h1 hi hm
    · exact dec_12 n m h0 h1 hi hm
    · exact dec_13 n m h0 h1 hi hm
    · exact dec_14 n m h0 h1 hi hm
    · exact dec_15 n m h0 h1 hi hm
    · exact dec_16 n m h0 h1 hi hm
    · exact dec_17 n m h0 h1 hi hm
    · exact dec_18 n m h0 h1 hi hm
    · exact dec_19 n m h0 h1 hi hm
    · exact dec_20 n m h0 h1 hi hm
    · exact dec_21 n m h0 h1 hi hm
    · exact dec_22 n m h0 h1 hi hm
    · exact dec_23 n m h0 h1 hi hm
    · exact dec_24 n m h0 h1 hi hm
    · exact dec_25 n m h0 h1 hi hm

end Go.Proofs.YtaiplongpjimnaaDoor

namespace Go.Proofs.YtaiplongpjimnaaDoor
open Go.RowKit

def Nops (xs : List Int) : Prop := ∀ i (h : i < xs.length), xs[i] = 19

def PairP (kind op1 rd m1 op2 rs m2 : Int) : Prop := (rd ≠ 0 ∧ rs = rd ∧ m1 = 0 ∧ m2 = 0) ∧ (if kind = 4 then op1 = 2 ∧ op2 = 4 else op1 = 1 ∧ (op2 = 13 ∨ op2 = 11 ∨ op2 = 12))

def PairW (kind a b : Int) : Prop := a / 128 % 32 ≠ 0 ∧ b / 32768 % 32 = a / 128 % 32 ∧ (if kind = 4 then Upper0 23 a ∧ Short0 103 0 b else Upper0 55 a ∧ (Short0 19 0 b ∨ Short0 3 2 b ∨ Store0 b))

theorem pair_words (kind a b op1 rd1 s1 m1 op2 rd2 s2 m2 : Int) (h1 : DecFacts a op1 rd1 s1 m1) (h2 : DecFacts b op2 rd2 s2 m2) : PairP kind op1 rd1 m1 op2 s2 m2 ↔ PairW kind a b := by
  obtain ⟨-, -, a1, a2, -, -, -, -, a9, -⟩ := h1
  obtain ⟨-, -, -, -, b4, b11, b12, b13, -, b10⟩ := h2
  unfold PairP PairW
  rw [← a1, ← a2, ← b4, ← b11, ← b12, ← b13]
  split
  · constructor
    · rintro ⟨⟨x1, x2, x3, x4⟩, x5, x6⟩
      have y1 := a9 (.inr x5)
      have y2 := b10 (.inl x6)
      rw [← y1, ← y2]
      exact ⟨x1, x2, ⟨x5, x3⟩, x6, x4⟩
    · rintro ⟨x1, x2, ⟨x5, x3⟩, x6, x4⟩
      have y1 := a9 (.inr x5)
      have y2 := b10 (.inl x6)
      rw [← y1] at x1 x2
      rw [← y2] at x2
      exact ⟨⟨x1, x2, x3, x4⟩, x5, x6⟩
  · constructor
    · rintro ⟨⟨x1, x2, x3, x4⟩, x5, x6⟩
      have y1 := a9 (.inl x5)
      have y2 := b10 (by omega)
      rw [← y1, ← y2]
      exact ⟨x1, x2, ⟨x5, x3⟩, by omega⟩
    · rintro ⟨x1, x2, ⟨x5, x3⟩, x6⟩
      have y1 := a9 (.inl x5)
      have y2 := b10 (by omega)
      rw [← y1] at x1 x2
      rw [← y2] at x2
      exact ⟨⟨x1, x2, x3, by omega⟩, x5, by omega⟩

def GoesP (kind : Int) (xs : List Int) : Prop :=
  if kind = 1 then xs.getD 0 0 = 0 else if kind = 2 then Branch0 (xs.getD 0 0) else if kind = 3 then Jal0 (xs.getD 0 0) else if kind = 4 ∨ kind = 5 then PairW kind (xs.getD 0 0) (xs.getD 1 0) else if kind = 6 then Nops xs else False

end Go.Proofs.YtaiplongpjimnaaDoor

namespace Go.Proofs.YtaiplongpjimnaaDoor
open Go.RowKit

end Go.Proofs.YtaiplongpjimnaaDoor

namespace Go.Proofs.YtaiplongpjimnaaDoor
open Go.RowKit

def BordOk (o : Lk.Obj) (r : Lk.Rel) : Prop := r.kind = 6 → r.addend + 4 ≤ borderI (o.align.getD (r.sect.toNat - 1) 0)
def RelOk (o : Lk.Obj) (r : Lk.Rel) : Prop := KindOk r ∧ AddendOk r ∧ SymIx o r ∧ BordOk o r ∧ AboutOk o r ∧ GoesP r.kind (about o r) ∧ ¬ WithinP o r

theorem about_facts {o : Lk.Obj} {r : Lk.Rel} (ha : AddendOk r) (hab : AboutOk o r) (hw : Words (wordsOf o r.sect)) : (about o r).length = (spanI r).toNat ∧ Words (about o r) ∧ (about o r).length ≤ 3 ∧ 1 ≤ (about o r).length := by
  have hs := span_range ha
  obtain ⟨b1, b2, b3⟩ := hab
  have hl : (about o r).length = (spanI r).toNat := by unfold about; simp; omega
  refine ⟨hl, ?_, by omega, by omega⟩
  intro i hi
  have hi' : (r.off / 4).toNat + i < (wordsOf o r.sect).length := by omega
  have e : (about o r)[i] = (wordsOf o r.sect)[(r.off / 4).toNat + i] := by
    simp only [about, List.getElem_take, List.getElem_drop]
  rw [e]
  exact hw _ hi'

theorem wordsOf_words {o : Lk.Obj} (h : AllWords o) (sect : Int) : Words (wordsOf o sect) := by
  unfold wordsOf
  split
  · exact h.1
  split
  · exact h.2.1
  split
  · exact h.2.2
  · intro i hi; simp at hi

theorem tells_yes {e : Ending} {P : Prop} (h : Tells e P) (hp : P) : e = .returned (.bool true) := by
  rcases h.split with ⟨_, q⟩ | ⟨h1, _⟩
  · exact absurd hp q.out
  · exact h1
theorem tells_no {e : Ending} {P : Prop} (h : Tells e P) (hp : ¬ P) : e = .returned (.bool false) := by
  rcases h.split with ⟨h1, _⟩ | ⟨_, q⟩
  · exact h1
  · exact absurd q.out hp

end Go.Proofs.YtaiplongpjimnaaDoor

namespace Go.Proofs.YtaiplongpjimnaaDoor
open Go.RowKit

/-- a list of relocations at ao -/
def RelsIn (w : World) (ao : Option Addr) (ys : List Lk.Rel) : Prop :=
  0 < ys.length → ∃ g, ao = some ⟨g, 0, none⟩ ∧ g < w.heap.size ∧ ∀ i (h : i < ys.length), w.cell? ⟨g, i * 5, none⟩ = some (.int .i64 ys[i].sect) ∧ w.cell? ⟨g, i * 5 + 1, none⟩ = some (.int .i64 ys[i].off) ∧
    w.cell? ⟨g, i * 5 + 2, none⟩ = some (.int .i64 ys[i].kind) ∧ w.cell? ⟨g, i * 5 + 3, none⟩ = some (.int .i64 ys[i].sym) ∧ w.cell? ⟨g, i * 5 + 4, none⟩ = some (.int .i64 ys[i].addend)

theorem RelsIn.grown {w w' : World} {ao : Option Addr} {ys : List Lk.Rel} (h : RelsIn w ao ys) (hg : w.grownBy w' none) : RelsIn w' ao ys := by
  intro h0
  obtain ⟨g, h1, h2, h3⟩ := h h0
  refine ⟨g, h1, Nat.lt_of_lt_of_le h2 hg.size, fun i hi => ?_⟩
  obtain ⟨a, b, c, d, e⟩ := h3 i hi
  exact ⟨gcell a hg, gcell b hg, gcell c hg, gcell d hg, gcell e hg⟩

def RelsOk (o : Lk.Obj) : Prop := ∀ i (h : i < o.rels.length), RelOk o o.rels[i] ∧ (∀ _ : 0 < i, FollowsP (o.rels[i - 1]'(by omega)) o.rels[i])

end Go.Proofs.YtaiplongpjimnaaDoor

namespace Go.Proofs.YtaiplongpjimnaaDoor
open Go.RowKit

/-- a list of numbers whose array is no Writer's -/
def IntsB (w : World) (b : Nat) (ao : Option Addr) (xs : List Int) : Prop :=
  0 < xs.length → ∃ g cs, ao = some ⟨g, 0, none⟩ ∧ g ≠ b ∧ BlkAt w g cs 3 ∧ ∀ i (h : i < xs.length), cs[i]? = some (.int .i64 xs[i])
theorem IntsB.kept {w w' : World} {b : Nat} {ao : Option Addr} {xs : List Int} (h : IntsB w b ao xs) (hk : Wk b w w') : IntsB w' b ao xs := by
  intro h0
  obtain ⟨g, cs, h1, h2, h3, h4⟩ := h h0
  exact ⟨g, cs, h1, h2, hk.2 g cs _ h2 (by decide) h3, h4⟩
theorem IntsB.of_own {w : World} {base b : Nat} {ao : Option Addr} {n cap : Nat} {xs : List Int} (h : w.ownsRow base 3 1 (.slice ao n cap) n (xs.map (Value.int .i64))) (hb : ∀ g, Value.ownBlock (.slice ao n cap) = some g → g ≠ b) : IntsB w b ao xs := by
  intro h0
  have hn : xs.length = n := by have := h.1; simpa using this
  rcases h.2 with ⟨h1, h2⟩ | ⟨g, cap', cur, hv, _, hh, _, _, hcs, htk⟩
  · simp at h1; omega
  · simp only [Value.slice.injEq] at hv
    obtain ⟨rfl, _, rfl⟩ := hv
    refine ⟨g, cur, rfl, hb g rfl, hh, fun i hi => ?_⟩
    have e : (cur.toList.take (n * 1))[i]? = (xs.map (Value.int .i64))[i]? := by rw [htk]
    rw [List.getElem?_take, if_pos (by omega)] at e
    rw [← Array.getElem?_toList, e]
    simp [hi]

theorem nums_snoc (xs : List Int) (k size : Nat) (h : k < xs.length) : Lk.nums (xs.take (k + 1)) size = Lk.nums (xs.take k) size ++ Lk.le xs[k] size := by
  unfold Lk.nums
  rw [List.take_succ_eq_append_getElem h, List.flatMap_append]
  simp
theorem nums_length (xs : List Int) (size : Nat) : (Lk.nums xs size).length = xs.length * size := by
  unfold Lk.nums
  induction xs with
  | nil => simp
  | cons x t ih => simp only [List.flatMap_cons, List.length_append, ih, Lk.le_length, List.length_cons, Nat.succ_mul]; omega

end Go.Proofs.YtaiplongpjimnaaDoor

namespace Go.Proofs.YtaiplongpjimnaaDoor
open Go.RowKit

/-- the bytes from p on, n of them, as many as there are -/
def cutL (l : List UInt8) (p n : Nat) : List UInt8 := (l.drop p).take n

/-- n words from p on -/
def numsAt (l : List UInt8) (p : Nat) : Nat → List Int
  | 0 => []
  | n + 1 => numsAt l p n ++ [atL l (p + 4 * n) 4]
theorem numsAt_length (l : List UInt8) (p n : Nat) : (numsAt l p n).length = n := by
  induction n with
  | zero => rfl
  | succ n ih => simp [numsAt, ih]

end Go.Proofs.YtaiplongpjimnaaDoor

namespace Go.Proofs.YtaiplongpjimnaaDoor
open Go.RowKit

end Go.Proofs.YtaiplongpjimnaaDoor

namespace Go.Proofs.YtaiplongpjimnaaDoor
open Go.RowKit

/-- the words of the four sections, as the document's answer lays them -/
structure SectsAt (W : World) (B : Nat) (o : Lk.Obj) (at_ : Option Addr) (ct : Nat) (af : Option Addr) (cf : Nat) (ad : Option Addr) (cd : Nat) (Z : Nat) : Prop where
  blk : BlkAt W B #[.slice none 0 0, .slice at_ o.text.length ct, .slice af o.far.length cf, .slice ad o.data.length cd, .slice (some ⟨Z, 0, none⟩) o.bss.toNat o.bss.toNat] 22
  text : IntsIn W at_ o.text
  far : IntsIn W af o.far
  data : IntsIn W ad o.data
  zero : IntsIn W (some ⟨Z, 0, none⟩) (List.replicate o.bss.toNat 0)
  ct : o.text.length ≤ ct ∧ ct ≤ maxLen
  cf : o.far.length ≤ cf ∧ cf ≤ maxLen
  cd : o.data.length ≤ cd ∧ cd ≤ maxLen

theorem SectsAt.grown {W W' : World} {B : Nat} {o : Lk.Obj} {at_ : Option Addr} {ct : Nat} {af : Option Addr} {cf : Nat} {ad : Option Addr} {cd : Nat} {Z : Nat} (h : SectsAt W B o at_ ct af cf ad cd Z) (hg : W.grownBy W' none) : SectsAt W' B o at_ ct af cf ad cd Z :=
  ⟨h.blk.grown hg (by simp), h.text.kept (fun _ _ hv => gcell hv hg), h.far.kept (fun _ _ hv => gcell hv hg), h.data.kept (fun _ _ hv => gcell hv hg), h.zero.kept (fun _ _ hv => gcell hv hg), h.ct, h.cf, h.cd⟩

end Go.Proofs.YtaiplongpjimnaaDoor

namespace Go.Proofs.YtaiplongpjimnaaDoor
open Go.RowKit

def SymAt (o : Lk.Obj) (k : Nat) (h : k < o.syms.length) : Prop := SymOk o o.syms[k] ∧ ¬ ∃ j, ∃ hj : j < o.syms.length, j < k ∧ o.syms[j].name = o.syms[k].name

theorem SectsAt.len {W : World} {B : Nat} {o : Lk.Obj} {at_ : Option Addr} {ct : Nat} {af : Option Addr} {cf : Nat} {ad : Option Addr} {cd : Nat} {Z : Nat} (h : SectsAt W B o at_ ct af cf ad cd Z) (hz : 0 ≤ o.bss) (n : Nat) (hn : n ≤ 4) :
    ∃ ao L cap, W.cell? ⟨B, n, none⟩ = some (.slice ao L cap) ∧ (L : Int) = seclen o n := by
  rcases (show n = 0 ∨ n = 1 ∨ n = 2 ∨ n = 3 ∨ n = 4 from by omega) with rfl | rfl | rfl | rfl | rfl
  · exact ⟨_, _, _, h.blk.cell 0, by simp [seclen, wordsOf]⟩
  · exact ⟨_, _, _, h.blk.cell 1, by simp [seclen, wordsOf]⟩
  · exact ⟨_, _, _, h.blk.cell 2, by simp [seclen, wordsOf]⟩
  · exact ⟨_, _, _, h.blk.cell 3, by simp [seclen, wordsOf]⟩
  · exact ⟨_, _, _, h.blk.cell 4, by simp [seclen]; omega⟩

end Go.Proofs.YtaiplongpjimnaaDoor
