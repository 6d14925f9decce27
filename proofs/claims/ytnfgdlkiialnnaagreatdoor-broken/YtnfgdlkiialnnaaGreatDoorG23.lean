/- The assembler: sections, bindings, words, room. -/
/- Linking: how long regions are, what numbers stand in them. -/
/- Linking: a module's section is added to a region. -/
import Derived.Test.YtnfgdlkiialnnaaGreatDoorG19
import Derived.Test.YtnfgdlkiialnnaaGreatDoorG22
namespace Go.Proofs.YtnfgdlkiialnnaaGreatDoor
open Go.RowKit

theorem and_n32 (n : Int) : bits .and .i64 n 4294967295 = n % 4294967296 := by
 have h1 : (BitVec.ofInt 64 4294967295).toNat = 2 ^ 32 - 1 := by decide
 have key : (BitVec.ofInt 64 n &&& BitVec.ofInt 64 4294967295).toNat = (n % ((2 ^ 64 : Nat) : Int)).toNat % 2 ^ 32 := by
  rw [BitVec.toNat_and, BitVec.toNat_ofInt, h1, Nat.and_two_pow_sub_one_eq_mod]
 show IntKind.i64.wrap ((BitVec.ofInt 64 n &&& BitVec.ofInt 64 4294967295).toNat : Nat) = _
 rw [key, IntKind.wrap_i64]
 omega

theorem StOk.sect' {s : ByteArray} {st : As.St} (h : StOk s st) (k : Nat) (hk : 1 ≤ k ∧ k ≤ 4) : StOk s { st with sect := k } :=
 ⟨h.size, h.p, h.tok, h.fe, h.fa, h.op, hk, h.text, h.far, h.data, h.bss, h.align, h.syms, h.rels⟩

set_option maxRecDepth 100000 in
set_option maxHeartbeats 4000000 in
theorem section_any (B : Nat) (s : ByteArray) (b g : Nat) (st0 : As.St) (W : World) (h : AsmAt B s b g st0 W) :
  Calls Tryz.prog 167 #[.pointer (some ⟨b, 0, none⟩)] W fun en W' => en = .returned (.tuple #[]) ∧ DoesB B s b g W (As.section' st0) W' := by
 have D0 := hid h.doesB
 have c11 := cell_optext h
 have c13 := cell_sect h
 have f13 := h.blk.free 13
 have OK := hid h.ok
 clear h
 have RS := hid (show As.section' st0 = if st0.op.text = [46, 116, 101, 120, 116] then { st0 with sect := 1 } else if st0.op.text = [46, 102, 97, 114] then { st0 with sect := 2 } else if st0.op.text = [46, 100, 97, 116, 97] then { st0 with sect := 3 } else if st0.op.text = [46, 98, 115, 115] then { st0 with sect := 4 } else st0 from rfl)
 generalize As.section' st0 = X at *
 have e : ∀ l : List UInt8, ((bs st0.op.text).toList == l) = decide (st0.op.text = l) := fun l => by rw [toList_bs, Bool.eq_iff_iff, beq_iff_eq, decide_eq_true_iff]
 have d1 := e [46, 116, 101, 120, 116]
 have d2 := e [46, 102, 97, 114]
 have d3 := e [46, 100, 97, 116, 97]
 have d4 := e [46, 98, 115, 115]
 clear e
 by_cases h1 : st0.op.text = [46, 116, 101, 120, 116]
 ·rw [if_pos h1] at RS
  rw [decide_eq_true h1] at d1
  clear h1 d2 d3 d4
  go_enter Tryz.func167, Tryz.ntmps167
  go_wp2
  go_end0
  rw [RS.out]
  exact ⟨rfl, D0.out.sets [(13, .int .i64 1)] { st0 with sect := 1 } (by simp only [setsA, asmCells, List.foldl_cons, List.foldl_nil, List.setIfInBounds_toArray, List.set_cons_succ, List.set_cons_zero]; rfl) rfl (OK.out.sect' 1 (by omega))⟩
 rw [if_neg h1] at RS
 rw [decide_eq_false h1] at d1
 clear h1
 by_cases h2 : st0.op.text = [46, 102, 97, 114]
 ·rw [if_pos h2] at RS
  rw [decide_eq_true h2] at d2
  clear h2 d3 d4
  go_enter Tryz.func167, Tryz.ntmps167
  go_wp2
  go_end0
  rw [RS.out]
  exact ⟨rfl, D0.out.sets [(13, .int .i64 2)] { st0 with sect := 2 } (by simp only [setsA, asmCells, List.foldl_cons, List.foldl_nil, List.setIfInBounds_toArray, List.set_cons_succ, List.set_cons_zero]; rfl) rfl (OK.out.sect' 2 (by omega))⟩
 rw [if_neg h2] at RS
 rw [decide_eq_false h2] at d2
 clear h2
 by_cases h3 : st0.op.text = [46, 100, 97, 116, 97]
 ·rw [if_pos h3] at RS
  rw [decide_eq_true h3] at d3
  clear h3 d4
  go_enter Tryz.func167, Tryz.ntmps167
  go_wp2
  go_end0
  rw [RS.out]
  exact ⟨rfl, D0.out.sets [(13, .int .i64 3)] { st0 with sect := 3 } (by simp only [setsA, asmCells, List.foldl_cons, List.foldl_nil, List.setIfInBounds_toArray, List.set_cons_succ, List.set_cons_zero]; rfl) rfl (OK.out.sect' 3 (by omega))⟩
 rw [if_neg h3] at RS
 rw [decide_eq_false h3] at d3
 clear h3
 by_cases h4 : st0.op.text = [46, 98, 115, 115]
 ·rw [if_pos h4] at RS
  rw [decide_eq_true h4] at d4
  clear h4 
  go_enter Tryz.func167, Tryz.ntmps167
  go_wp2
  go_end0
  rw [RS.out]
  exact ⟨rfl, D0.out.sets [(13, .int .i64 4)] { st0 with sect := 4 } (by simp only [setsA, asmCells, List.foldl_cons, List.foldl_nil, List.setIfInBounds_toArray, List.set_cons_succ, List.set_cons_zero]; rfl) rfl (OK.out.sect' 4 (by omega))⟩
 rw [if_neg h4] at RS
 rw [decide_eq_false h4] at d4
 clear h4
 go_enter Tryz.func167, Tryz.ntmps167
 go_wp2
 go_end0
 rw [RS.out]
 exact ⟨rfl, D0.out⟩

set_option maxRecDepth 100000 in
set_option maxHeartbeats 4000000 in
theorem binding_any (B : Nat) (s : ByteArray) (b g : Nat) (st0 : As.St) (W : World) (h : AsmAt B s b g st0 W) :
  Calls Tryz.prog 171 #[.pointer (some ⟨b, 0, none⟩)] W fun en W' => en = .returned (.tuple #[]) ∧ Does B s b g W (As.binding (sl s) st0) W' := by
 have c11 := cell_optext h
 have c1 := hid (bind_any B s b g st0 1 W h)
 have c2 := hid (bind_any B s b g st0 2 W h)
 clear h
 have RS := hid (show As.binding (sl s) st0 = As.bind (sl s) (if st0.op.text = [46, 103, 108, 111, 98, 108] then 1 else 2) st0 from rfl)
 generalize As.binding (sl s) st0 = X at *
 have d1 : ((bs st0.op.text).toList == [46, 103, 108, 111, 98, 108]) = decide (st0.op.text = [46, 103, 108, 111, 98, 108]) := by rw [toList_bs, Bool.eq_iff_iff, beq_iff_eq, decide_eq_true_iff]
 by_cases h1 : st0.op.text = [46, 103, 108, 111, 98, 108]
 ·rw [if_pos h1] at RS
  rw [decide_eq_true h1] at d1
  clear h1
  go_enter Tryz.func171, Tryz.ntmps171
  go_wp2_with fail
  refine c1.out.mono ?_
  rintro e VF ⟨rfl, hh⟩
  have DF := hid hh
  clear hh
  go_wp2
  (try simp only [Exit.inBlock, Exit.then]); refine bodyPost_ret (results_none rfl _ _ _) rfl ?_
  rw [RS.out]
  exact ⟨rfl, DF.out⟩
 ·rw [if_neg h1] at RS
  rw [decide_eq_false h1] at d1
  clear h1
  go_enter Tryz.func171, Tryz.ntmps171
  go_wp2_with fail
  refine c2.out.mono ?_
  rintro e VF ⟨rfl, hh⟩
  have DF := hid hh
  clear hh
  go_wp2
  go_end0
  rw [RS.out]
  exact ⟨rfl, DF.out⟩

set_option maxRecDepth 100000 in
set_option maxHeartbeats 4000000 in
theorem word_any (B : Nat) (s : ByteArray) (b g : Nat) (st0 : As.St) (W : World) (h : AsmAt B s b g st0 W) :
  Calls Tryz.prog 168 #[.pointer (some ⟨b, 0, none⟩)] W fun en W' => en = .returned (.tuple #[]) ∧ Does B s b g W (As.word (sl s) st0) W' := by
 have D0 := hid h.does
 clear h
 obtain ⟨X, hX⟩ : ∃ X, X = As.word (sl s) st0 := ⟨_, rfl⟩
 rw [← hX]
 unfold As.word at hX
 dsimp only at hX
 have RS := hid hX
 clear hX
 go_enter Tryz.func168, Tryz.ntmps168
 obtain ⟨c2, c3, c4, c5⟩ := cell_b D0.out.1
 cases hk : (st0.tok.kind == 1)
 ·have d : ((st0.tok.kind : Int) == 1) = false := by simp at hk ⊢; omega
  have d' : ((st0.tok.kind : Int) != 1) = true := by simp at hk ⊢; omega
  rw [hk] at RS
  rw [if_neg (by simp)] at RS
  clear hk
  go_wp2_with fail
  refine (aNumber_any B s b g st0 (-2147483648) 4294967295 _ D0.out.1).mono ?_
  rintro e V1 ⟨rfl, hh⟩
  have D1 := hid (D0.out.afterB hh)
  clear hh D0 c2 c3 c4 c5
  generalize As.number (sl s) (-2147483648) 4294967295 st0 = R1 at *
  obtain ⟨n, st1⟩ := R1
  dsimp only at RS D1 ⊢
  have AN := and_n32 n
  generalize n % 4294967296 = m at *
  go_wp2_with fail
  refine (lay_any B s b g st1 _ 1 [m] _ (D1.out.alloc _).1 (words1 V1 m) (by simp)).mono ?_
  rintro e VF ⟨rfl, hh⟩
  have DF := hid ((D1.out.alloc _).after hh)
  clear hh
  go_wp2
  first | go_end0 | ((try simp only [Exit.inBlock, Exit.then]); refine bodyPost_ret (results_none rfl _ _ _) rfl ?_)
  rw [RS.out]
  exact ⟨rfl, DF.out⟩
 ·have d : ((st0.tok.kind : Int) == 1) = true := by simp at hk ⊢; omega
  have d' : ((st0.tok.kind : Int) != 1) = false := by simp at hk ⊢; omega
  rw [hk] at RS
  rw [if_pos rfl] at RS
  clear hk
  go_wp2_with fail
  refine (target_any B s b g st0 _ D0.out.1).mono ?_
  rintro e V1 ⟨rfl, hh⟩
  have D1 := hid (D0.out.after hh)
  clear hh D0 c2 c3 c4 c5
  generalize As.target (sl s) st0 = R1 at *
  obtain ⟨⟨sym, add⟩, st1⟩ := R1
  dsimp only at RS D1 ⊢
  go_wp2_with fail
  refine (layWith_any B s b g st1 1 sym add _ 1 [0] _ (D1.out.alloc _).1 (words1 V1 0) (by simp)).mono ?_
  rintro e VF ⟨rfl, hh⟩
  have DF := hid ((D1.out.alloc _).after hh)
  clear hh
  go_wp2
  first | go_end0 | ((try simp only [Exit.inBlock, Exit.then]); refine bodyPost_ret (results_none rfl _ _ _) rfl ?_)
  rw [RS.out]
  exact ⟨rfl, DF.out⟩

set_option maxRecDepth 100000 in
set_option maxHeartbeats 4000000 in
theorem space_any (B : Nat) (s : ByteArray) (b g : Nat) (st0 : As.St) (W : World) (h : AsmAt B s b g st0 W) :
  Calls Tryz.prog 169 #[.pointer (some ⟨b, 0, none⟩)] W fun en W' => en = .returned (.tuple #[]) ∧ Does B s b g W (As.space (sl s) st0) W' := by
 have D0 := hid h.does
 clear h
 obtain ⟨X, hX⟩ : ∃ X, X = As.space (sl s) st0 := ⟨_, rfl⟩
 rw [← hX]
 unfold As.space at hX
 dsimp only at hX
 have RS := hid hX
 clear hX
 go_enter Tryz.func169, Tryz.ntmps169
 have NB := number_bnd (sl s) 0 4800 st0 (by omega) (by omega)
 go_wp2_with fail
 refine (aNumber_any B s b g st0 0 4800 _ D0.out.1).mono ?_
 rintro e V1 ⟨rfl, hh⟩
 have D1 := hid (D0.out.afterB hh)
 clear hh D0
 generalize As.number (sl s) 0 4800 st0 = R1 at *
 obtain ⟨n, st1⟩ := R1
 dsimp only at RS D1 NB ⊢
 have c10 := cell_op D1.out.1
 have hpos := D1.out.1.ok.op.pos
 obtain ⟨m, hm⟩ := Int.eq_ofNat_of_zero_le NB.1
 subst hm
 have hm0 : (m : Int) ≤ 4800 := NB.2
 by_cases c : (m : Int) % 4 = 0
 ·rw [if_pos c] at RS
  have d : ((m : Int) % 4 == 0) = true := by simp [c]
  have d' : ((m : Int) % 4 != 0) = false := by simp [c]
  have em : ((m : Int) / 4).toNat = m / 4 := by omega
  rw [em] at RS
  have hm4 := hid (show ((m : Int) / 4) = ((m / 4 : Nat) : Int) by omega)
  have hm5 := hid (show m / 4 ≤ 4096 by omega)
  clear c em
  go_wp2_with fail
  refine (repeated_lit 0 (m / 4) _ hm4.out _ hm5.out).mono ?_
  rintro e V2 ⟨⟨ao, cap, rfl, hw⟩, hg⟩
  have D2 := hid (D1.out.grown hg)
  have HWD := hid hw
  clear hg hw
  go_wp2_with fail
  refine (lay_rep B s b g st1 0 (m / 4) ao cap V2 D2.out.1 HWD.out hm5.out).mono ?_
  rintro e V3 ⟨rfl, h3⟩
  have D3 := hid (D2.out.after h3)
  clear h3
  go_wp2
  go_end0
  rw [RS.out]
  exact ⟨rfl, D3.out⟩
 ·rw [if_neg c] at RS
  have d : ((m : Int) % 4 == 0) = false := by simp [c]
  have d' : ((m : Int) % 4 != 0) = true := by simp [c]
  clear c
  go_wp2_with fail
  refine (refuse_any B s b g st1 8 st1.op.pos V1 D1.out.1 (by omega) hpos).mono ?_
  rintro e V3 ⟨rfl, h3⟩
  have D3 := hid (D1.out.afterB h3)
  clear h3
  go_wp2
  (try simp only [Exit.inBlock, Exit.then]); refine bodyPost_ret (results_none rfl _ _ _) rfl ?_
  rw [RS.out]
  exact ⟨rfl, D3.out⟩

end Go.Proofs.YtnfgdlkiialnnaaGreatDoor

namespace Go.Proofs.YtnfgdlkiialnnaaGreatDoor
open Go.RowKit

/-! the words -/
theorem placeW_lt (form : Nat) (n : Int) : As.place' form n < 2 ^ 32 := by
 have a1 := fld_lt n 0 20
 have a2 := fld_lt n 20 1
 have a3 := fld_lt n 1 10
 have a4 := fld_lt n 11 1
 have a5 := fld_lt n 12 8
 have a6 := fld_lt n 0 12
 have a7 := fld_lt n 12 1
 have a8 := fld_lt n 5 6
 have a9 := fld_lt n 1 4
 have aa := fld_lt n 5 7
 have ab := fld_lt n 0 5
 unfold As.place'
 repeat' split
 ·omega
 ·exact Nat.or_lt_two_pow (Nat.or_lt_two_pow (Nat.or_lt_two_pow (by omega) (by omega)) (by omega)) (by omega)
 ·omega
 ·exact Nat.or_lt_two_pow (Nat.or_lt_two_pow (Nat.or_lt_two_pow (by omega) (by omega)) (by omega)) (by omega)
 ·exact Nat.or_lt_two_pow (by omega) (by omega)
 ·omega
theorem fixeds_lt (op : Nat) : As.fixeds.getD op 0 < 2 ^ 32 := by
 have h : ∀ x ∈ As.fixeds, x < 2 ^ 32 := by decide
 rw [List.getD_eq_getElem?_getD]
 cases e : As.fixeds[op]? with
 | none => simp
 | some x => exact h x (List.mem_of_getElem? e)
theorem enc_lt (op rd rs1 rs2 : Nat) (n : Int) : As.enc op rd rs1 rs2 n < 2 ^ 32 := by
 unfold As.enc As.encF
 have p := placeW_lt (As.forms.getD op 0) n
 have f := fixeds_lt op
 have b1 := fld_lt rd 0 5
 have b2 := fld_lt rs1 0 5
 have b3 := fld_lt rs2 0 5
 generalize As.forms.getD op 0 = form at *
 have w0 := Nat.or_lt_two_pow f p
 generalize As.fixeds.getD op 0 ||| As.place' form n = x0 at *
 have w1 : (if As.hasRd form then x0 ||| As.fld rd 0 5 * 128 else x0) < 2 ^ 32 := by
  split
  ·exact Nat.or_lt_two_pow w0 (by omega)
  ·exact w0
 dsimp only
 generalize (if As.hasRd form then x0 ||| As.fld rd 0 5 * 128 else x0) = x1 at *
 have w2 : (if As.hasRs1 form then x1 ||| As.fld rs1 0 5 * 32768 else x1) < 2 ^ 32 := by
  split
  ·exact Nat.or_lt_two_pow w1 (by omega)
  ·exact w1
 generalize (if As.hasRs1 form then x1 ||| As.fld rs1 0 5 * 32768 else x1) = x2 at *
 split
 ·exact Nat.or_lt_two_pow w2 (by omega)
 ·exact w2
theorem encZ_range (op rd rs1 rs2 : Nat) (n : Int) : 0 ≤ Ln.encZ op rd rs1 rs2 n ∧ Ln.encZ op rd rs1 rs2 n ≤ 4294967295 := by
 unfold Ln.encZ
 split
 ·omega
 ·have := enc_lt op rd rs1 rs2 n
  omega
theorem linked_range (ms : List Ln.Mod) (m : Ln.Mod) (sect off x : Int) (h0 : 0 ≤ x) (h1 : x ≤ 4294967295) : 0 ≤ Ln.linked ms m sect off x ∧ Ln.linked ms m sect off x ≤ 4294967295 := by
 unfold Ln.linked Ln.linkedR
 generalize (Ln.relocAt sect off 0 m.obj.rels).2 = r
 repeat' split
 ·rw [and_n32]; omega
 ·exact encZ_range _ _ _ _ _
 ·exact encZ_range _ _ _ _ _
 ·exact encZ_range _ _ _ _ _
 ·exact encZ_range _ _ _ _ _
 ·exact ⟨h0, h1⟩
/-- words of 32 bits -/
def W32 (xs : List Int) : Prop := ∀ x ∈ xs, 0 ≤ x ∧ x ≤ 4294967295
theorem W32.of_words {xs : List Int} (h : Words xs) : W32 xs := by
 intro x hx
 obtain ⟨i, hi, rfl⟩ := List.getElem_of_mem hx
 exact h i hi
theorem W32.app {xs ys : List Int} (h : W32 xs) (k : W32 ys) : W32 (xs ++ ys) := by
 intro x hx
 rcases List.mem_append.1 hx with q | q
 ·exact h x q
 ·exact k x q
theorem addWords_in (ms : List Ln.Mod) (m : Ln.Mod) (sect : Int) : ∀ (ws : List Int) (k : Nat), W32 ws → W32 (Ln.addWords ms m sect k ws) := by
 intro ws
 induction ws with
 | nil => intro k _ x hx; simp [Ln.addWords] at hx
 | cons w ws ih =>
  intro k hw
  have i := ih (k + 1) (fun x hx => hw x (by simp [hx]))
  unfold Ln.addWords
  split
  ·intro x hx
   rcases List.mem_cons.1 hx with rfl | hx
   ·have := hw w (by simp)
    exact linked_range ms m sect _ w this.1 this.2
   ·exact i x hx
  ·exact i
theorem wordsOf_in {o : Lk.Obj} (hv : Valid o) (sect : Int) : W32 (wordsOf o sect) := by
 unfold wordsOf
 repeat' split
 ·exact W32.of_words hv.2.2.1.1
 ·exact W32.of_words hv.2.2.1.2.1
 ·exact W32.of_words hv.2.2.1.2.2
 ·intro x hx; simp at hx
theorem gap_in {base fl b : Int} {ws : List Int} (hf : 0 ≤ fl ∧ fl ≤ 4294967295) (h : W32 ws) : W32 (Ln.gapTo base fl b ws) := by
 unfold Ln.gapTo
 refine h.app fun x hx => ?_
 have := List.eq_of_mem_replicate hx
 omega
theorem region_in (ms : List Ln.Mod) (sect base fl : Int) (hf : 0 ≤ fl ∧ fl ≤ 4294967295) : ∀ (l : List Ln.Mod) (ws : List Int), (∀ m ∈ l, Valid m.obj) → W32 ws → W32 (Ln.region ms sect base fl l ws) := by
 intro l
 induction l with
 | nil => intro ws _ h; exact h
 | cons m l ih =>
  intro ws hv h
  unfold Ln.region
  refine ih _ (fun x hx => hv x (by simp [hx])) ?_
  unfold Ln.addTo
  exact (gap_in hf h).app (addWords_in ms m sect _ 0 (wordsOf_in (hv m (by simp)) sect))

/-! how long -/
theorem placesFrom_head (m : Ln.Mod) (sect : Int) (ws : List Int) (k : Nat) (a : Int) : (Ln.placesFrom m sect k ws a)[0]? = some a := by
 cases ws <;> rfl
theorem addWords_count (ms : List Ln.Mod) (m : Ln.Mod) (sect : Int) : ∀ (ws : List Int) (k : Nat) (a : Int), (∀ i, i ≤ ws.length → some (Ln.address m sect (4 * (k + i : Nat))) = (Ln.placesFrom m sect k ws a)[i]?) → 4 * ((Ln.addWords ms m sect k ws).length : Int) = Ln.endFrom m sect k ws a - a := by
 intro ws
 induction ws with
 | nil => intro k a _; simp [Ln.addWords, Ln.endFrom]
 | cons w ws ih =>
  intro k a h
  have h0 := h 0 (by simp)
  have h1 := h 1 (by simp)
  have tl : ∀ i, i ≤ ws.length → some (Ln.address m sect (4 * (k + 1 + i : Nat))) = (Ln.placesFrom m sect (k + 1) ws (if Ln.stays m sect (4 * k) a then a + 4 else a))[i]? := by
   intro i hi
   have := h (i + 1) (by simp; omega)
   rw [show k + (i + 1) = k + 1 + i by omega] at this
   exact this
  have e := ih (k + 1) _ tl
  have p1 : (Ln.placesFrom m sect k (w :: ws) a)[1]? = some (if Ln.stays m sect (4 * k) a then a + 4 else a) := placesFrom_head m sect ws (k + 1) _
  have p0 : (Ln.placesFrom m sect k (w :: ws) a)[0]? = some a := rfl
  rw [p0] at h0
  rw [p1] at h1
  simp only [Option.some.injEq, Nat.add_zero] at h0 h1
  have e4 : (4 * ((k + 1 : Nat) : Int)) = 4 * (k : Int) + 4 := by omega
  rw [e4] at h1
  have EF : Ln.endFrom m sect k (w :: ws) a = Ln.endFrom m sect (k + 1) ws (if Ln.stays m sect (4 * k) a then a + 4 else a) := rfl
  rw [EF]
  unfold Ln.addWords
  rw [h0, h1]
  clear tl p0 p1 h0 h1 EF h ih
  generalize Ln.stays m sect (4 * k) a = b at *
  cases b
  ·simp only [Bool.false_eq_true, if_false] at e ⊢
   rw [if_neg (by omega)]
   exact e
  ·simp only [if_true] at e ⊢
   rw [if_pos (by omega), List.length_cons]
   omega

/-- code that is laid one module after the other -/
def Chain (sect : Nat) (ps : Ln.Mod → List Int) : List Ln.Mod → Int → Int → Prop
 | [], t, e => e = t
 | m :: r, t, e => ps m = Ln.layPlaces m sect t ∧ Chain sect ps r (Ln.layEnd m sect t) e
theorem address_text (m : Ln.Mod) (k : Nat) : Ln.address m 1 (4 * (k : Int)) = m.text.getD k 0 := by
 unfold Ln.address Ln.placeOf
 rw [if_pos rfl, Int.tdiv_eq_ediv_of_nonneg (by omega), if_neg (by omega)]
 congr 1
 omega
theorem address_far (m : Ln.Mod) (k : Nat) : Ln.address m 2 (4 * (k : Int)) = m.far.getD k 0 := by
 unfold Ln.address Ln.placeOf
 rw [if_neg (by decide), if_pos rfl, Int.tdiv_eq_ediv_of_nonneg (by omega), if_neg (by omega)]
 congr 1
 omega
theorem addTo_len (ms : List Ln.Mod) (m : Ln.Mod) (sect : Nat) (base fl t : Int) (ws : List Int) (ps : List Int) (hps : ps = Ln.layPlaces m sect t) (had : ∀ k : Nat, Ln.address m sect (4 * (k : Int)) = ps.getD k 0) (h0 : 0 ≤ t) (h1 : t ≤ 562949953421312) (hb : base % 4 = 0) (hl : base + 4 * (ws.length : Int) = t) :
  base + 4 * ((Ln.addTo ms m sect base fl ws).length : Int) = Ln.layEnd m sect t := by
 have R := rup_range t (Ln.border m.obj sect) h0 (by omega) (borderI_vals _)
 have hbg : Ln.begin_ m sect t = Ln.rup t (Ln.border m.obj sect) := rfl
 have pr := placesFrom_range m sect (wordsOf m.obj sect) 0 (Ln.begin_ m sect t)
 have lp : ps = Ln.placesFrom m sect 0 (wordsOf m.obj sect) (Ln.begin_ m sect t) := hps
 have A0 : Ln.address m sect 0 = Ln.begin_ m sect t := by
  have := had 0
  rw [Int.ofNat_zero, Int.mul_zero] at this
  rw [this, List.getD_eq_getElem?_getD, lp, placesFrom_head]
  rfl
 have C := addWords_count ms m sect (wordsOf m.obj sect) 0 (Ln.begin_ m sect t) (fun i hi => by
  rw [Nat.zero_add, had i, lp, List.getD_eq_getElem?_getD, List.getElem?_eq_getElem (by rw [pr.1]; omega)]
  rfl)
 unfold Ln.addTo
 rw [List.length_append, gap_len, A0]
 unfold Ln.layEnd
 rw [hbg] at C ⊢
 omega
theorem region_len (ms : List Ln.Mod) (sect : Nat) (hs : sect = 1 ∨ sect = 2) (ps : Ln.Mod → List Int) (base fl : Int) (hb : base % 4 = 0) (had : ∀ (m : Ln.Mod) (k : Nat), Ln.address m sect (4 * (k : Int)) = (ps m).getD k 0) :
  ∀ (l : List Ln.Mod) (ws : List Int) (t e : Int), (∀ m ∈ l, Valid m.obj) → 0 ≤ t → t + 5000 * l.length ≤ 1200000000 → base + 4 * (ws.length : Int) = t → Chain sect ps l t e → base + 4 * ((Ln.region ms sect base fl l ws).length : Int) = e := by
 intro l
 induction l with
 | nil => intro ws t e _ _ _ hl hc; unfold Ln.region; unfold Chain at hc; omega
 | cons m l ih =>
  intro ws t e hv h0 h1 hl hc
  unfold Chain at hc
  simp only [List.length_cons] at h1
  have r := lay_range (hv m (by simp)) sect hs t h0 (by omega)
  unfold Ln.region
  exact ih _ (Ln.layEnd m sect t) e (fun x hx => hv x (by simp [hx])) (by omega) (by omega) (addTo_len ms m sect base fl t ws (ps m) hc.1 (had m) h0 (by omega) hb hl) hc.2
/-- where code ends -/
def codeEnd (sect : Nat) : List Ln.Mod → Int → Int
 | [], t => t
 | m :: r, t => codeEnd sect r (Ln.layEnd m sect t)
theorem codeEnd_range (sect : Nat) (hs : sect = 1 ∨ sect = 2) : ∀ (l : List Ln.Mod) (t : Int), (∀ m ∈ l, Valid m.obj) → 0 ≤ t → t + 5000 * l.length ≤ 1200000000 → t ≤ codeEnd sect l t ∧ codeEnd sect l t ≤ t + 4815 * l.length := by
 intro l
 induction l with
 | nil => intro t _ _ _; simp [codeEnd]
 | cons m l ih =>
  intro t hv h0 h1
  simp only [List.length_cons] at h1 ⊢
  have r := lay_range (hv m (by simp)) sect hs t h0 (by omega)
  have q := ih (Ln.layEnd m sect t) (fun x hx => hv x (by simp [hx])) (by omega) (by omega)
  unfold codeEnd
  omega
theorem layMods_chain : ∀ (ms : List Ln.Mod) (t f d : Int), Chain 1 Ln.Mod.text (Ln.layMods ms t f d) t (codeEnd 1 ms t) ∧ Chain 2 Ln.Mod.far (Ln.layMods ms t f d) f (codeEnd 2 ms f) := by
 intro ms
 induction ms with
 | nil => intro t f d; exact ⟨rfl, rfl⟩
 | cons m ms ih =>
  intro t f d
  have q := ih (Ln.layEnd m 1 t) (Ln.layEnd m 2 f) (Ln.rup d (Ln.border m.obj 3) + 4 * m.obj.data.length)
  unfold Ln.layMods Chain codeEnd
  have e1 : Ln.layEnd (Ln.layOne m t f d) 1 t = Ln.layEnd m 1 t := layEnd_same (m := m) (m' := Ln.layOne m t f d) rfl rfl 1 t
  have e2 : Ln.layEnd (Ln.layOne m t f d) 2 f = Ln.layEnd m 2 f := layEnd_same (m := m) (m' := Ln.layOne m t f d) rfl rfl 2 f
  rw [e1, e2]
  exact ⟨⟨(layPlaces_same (m := m) (m' := Ln.layOne m t f d) rfl rfl 1 t).symm, q.1⟩, (layPlaces_same (m := m) (m' := Ln.layOne m t f d) rfl rfl 2 f).symm, q.2⟩
theorem layBss_chain (sect : Nat) (ps : Ln.Mod → List Int) (hps : ∀ (m : Ln.Mod) (b : Int), ps { m with bss := b } = ps m) : ∀ (ms : List Ln.Mod) (b t e : Int), Chain sect ps ms t e → Chain sect ps (Ln.layBss ms b) t e := by
 intro ms
 induction ms with
 | nil => intro b t e h; exact h
 | cons m ms ih =>
  intro b t e h
  unfold Chain at h
  unfold Ln.layBss Chain
  have e1 : Ln.layEnd { m with bss := Ln.rup b (Ln.border m.obj 4) } sect t = Ln.layEnd m sect t := layEnd_same (m := m) (m' := { m with bss := Ln.rup b (Ln.border m.obj 4) }) rfl rfl sect t
  have e2 : Ln.layPlaces { m with bss := Ln.rup b (Ln.border m.obj 4) } sect t = Ln.layPlaces m sect t := layPlaces_same (m := m) (m' := { m with bss := Ln.rup b (Ln.border m.obj 4) }) rfl rfl sect t
  rw [e1, e2, hps]
  exact ⟨h.1, ih _ _ _ h.2⟩
/-- data that is laid one module after the other -/
def ChainD : List Ln.Mod → Int → Int → Prop
 | [], d, e => e = d
 | m :: r, d, e => m.data = Ln.rup d (Ln.border m.obj 3) ∧ ChainD r (Ln.rup d (Ln.border m.obj 3) + 4 * m.obj.data.length) e
theorem layMods_chainD : ∀ (ms : List Ln.Mod) (t f d : Int), ChainD (Ln.layMods ms t f d) d (Ln.dataEnd ms d) := by
 intro ms
 induction ms with
 | nil => intro t f d; rfl
 | cons m ms ih => intro t f d; unfold Ln.layMods ChainD Ln.dataEnd; exact ⟨rfl, ih _ _ _⟩
theorem layBss_chainD : ∀ (ms : List Ln.Mod) (b d e : Int), ChainD ms d e → ChainD (Ln.layBss ms b) d e := by
 intro ms
 induction ms with
 | nil => intro b d e h; exact h
 | cons m ms ih => intro b d e h; unfold ChainD at h; unfold Ln.layBss ChainD; exact ⟨h.1, ih _ _ _ h.2⟩
theorem addWords_all (ms : List Ln.Mod) (m : Ln.Mod) : ∀ (ws : List Int) (k : Nat), (Ln.addWords ms m 3 k ws).length = ws.length := by
 intro ws
 induction ws with
 | nil => intro k; rfl
 | cons w ws ih =>
  intro k
  unfold Ln.addWords
  have : Ln.address m 3 (4 * (k : Int)) < Ln.address m 3 (4 * (k : Int) + 4) := by
   unfold Ln.address
   simp only [if_neg (show ¬ (3 : Int) = 1 by decide), if_neg (show ¬ (3 : Int) = 2 by decide), if_pos]
   omega
  rw [if_pos this, List.length_cons, ih, List.length_cons]
theorem region_lenD (ms : List Ln.Mod) (base fl : Int) (hb : base % 4 = 0) : ∀ (l : List Ln.Mod) (ws : List Int) (d e : Int), (∀ m ∈ l, Valid m.obj) → 0 ≤ d → d + 5000 * l.length ≤ 1200000000 → base + 4 * (ws.length : Int) = d → ChainD l d e → base + 4 * ((Ln.region ms 3 base fl l ws).length : Int) = e := by
 intro l
 induction l with
 | nil => intro ws d e _ _ _ hl hc; unfold Ln.region; unfold ChainD at hc; omega
 | cons m l ih =>
  intro ws d e hv h0 h1 hl hc
  unfold ChainD at hc
  simp only [List.length_cons] at h1
  have R := rup_range d (Ln.border m.obj 3) h0 (by omega) (borderI_vals _)
  have hdl : m.obj.data.length ≤ 64 := (hv m (by simp)).1.1.2.2
  unfold Ln.region
  refine ih _ _ e (fun x hx => hv x (by simp [hx])) ?_ ?_ ?_ hc.2
  ·omega
  ·omega
  ·have A0 : Ln.address m 3 0 = m.data := by unfold Ln.address; simp
   have W3 : wordsOf m.obj 3 = m.obj.data := rfl
   unfold Ln.addTo
   rw [List.length_append, gap_len, A0, addWords_all, W3, hc.1]
   omega
theorem bssEnd_range : ∀ (ms : List Ln.Mod) (b : Int), (∀ m ∈ ms, Valid m.obj) → 0 ≤ b → b + 5000 * ms.length ≤ 1200000000 → b ≤ Ln.bssEnd ms b ∧ Ln.bssEnd ms b ≤ b + 271 * ms.length := by
 intro ms
 induction ms with
 | nil => intro b _ _ _; simp [Ln.bssEnd]
 | cons m ms ih =>
  intro b hv h0 h1
  simp only [List.length_cons] at h1 ⊢
  have R := rup_range b (Ln.border m.obj 4) h0 (by omega) (borderI_vals _)
  have hb := (hv m (by simp)).1.2.1
  have q := ih (Ln.rup b (Ln.border m.obj 4) + 4 * m.obj.bss) (fun x hx => hv x (by simp [hx])) (by omega) (by omega)
  unfold Ln.bssEnd
  omega
theorem dataEnd_fine : ∀ (ms : List Ln.Mod) (d : Int), (∀ m ∈ ms, Valid m.obj) → 0 ≤ d → d + 5000 * ms.length ≤ 1200000000 → d ≤ Ln.dataEnd ms d ∧ Ln.dataEnd ms d ≤ d + 271 * ms.length := by
 intro ms
 induction ms with
 | nil => intro b _ _ _; simp [Ln.dataEnd]
 | cons m ms ih =>
  intro d hv h0 h1
  simp only [List.length_cons] at h1 ⊢
  have R := rup_range d (Ln.border m.obj 3) h0 (by omega) (borderI_vals _)
  have hdl : m.obj.data.length ≤ 64 := (hv m (by simp)).1.1.2.2
  have q := ih (Ln.rup d (Ln.border m.obj 3) + 4 * m.obj.data.length) (fun x hx => hv x (by simp [hx])) (by omega) (by omega)
  unfold Ln.dataEnd
  omega

end Go.Proofs.YtnfgdlkiialnnaaGreatDoor

namespace Go.Proofs.YtnfgdlkiialnnaaGreatDoor
open Go.RowKit

theorem RegAt.put {W0 V w3 : World} {R : Nat} {base fl x : Int} {ws : List Int} {v v' : Value} (h : RegAt W0 R base fl ws v V) (hown : w3.ownsRow W0.heap.size 3 1 v' (ws.length + 1) (ws.map (Value.int .i64) ++ [.int .i64 x])) (hg : V.grownBy w3 v.ownBlock) (hat : v'.ownBlock = v.ownBlock ∨ v'.ownBlock = some V.heap.size) :
  (RegAt W0 R base fl (ws ++ [x]) v' (w3.setCell ⟨R, 2, none⟩ v') ∧ RegTo V (w3.setCell ⟨R, 2, none⟩ v') R v v') ∧ BlkAt w3 R #[.int .i64 base, .int .i64 fl, v] 128 ∧ w3.cell? ⟨R, 2, none⟩ = some v ∧ w3.frozen? ⟨R, 2, none⟩ = false ∧ w3.cell? ⟨R, 1, none⟩ = some (.int .i64 fl) := by
 have b3 := blk_ty h.blk hg (RowT.own h.row) (by decide)
 exact ⟨h.step hown hg hat, b3, b3.cell 2, b3.free 2, b3.cell 1⟩

set_option maxHeartbeats 400000 in
theorem lWords_any (W0 : World) (g : Nat) (o : Lk.Obj) (sect : Int) (w : World) (h : ObjAt W0 g o) (hg : W0.grownBy w none) :
  Calls Tryz.prog 99 #[.pointer (some ⟨g, 0, none⟩), .int .i64 sect] w fun e w' => ∃ ao cap, e = .returned (.slice ao (wordsOf o sect).length cap) ∧ (IntsIn W0 ao (wordsOf o sect) ∧ (wordsOf o sect).length ≤ cap ∧ cap ≤ maxLen) ∧ w' = w := by
 obtain ⟨at_, ct, af, cf, ad, cd, aa, ca, as_, cs, ar, cr, hb, h1, h2, h3, -⟩ := h.open
 have hb2 := hb.grown hg (by simp)
 have k0 := hb2.cell 0
 have k1 := hb2.cell 1
 have k2 := hb2.cell 2
 have q1 := hid (IntsIn.of_own h1)
 have q2 := hid (IntsIn.of_own h2)
 have q3 := hid (IntsIn.of_own h3)
 have z1 := hid (own_cap h1)
 have z2 := hid (own_cap h2)
 have z3 := hid (own_cap h3)
 clear h hb hb2 h1 h2 h3 hg
 unfold wordsOf
 by_cases e1 : sect = 1
 ·subst e1
  go_enter Tryz.func99, Tryz.ntmps99
  go_wp2
  go_ret
  exact ⟨at_, ct, rfl, ⟨q1.out, z1.out⟩, rfl⟩
 by_cases e2 : sect = 2
 ·subst e2
  go_enter Tryz.func99, Tryz.ntmps99
  go_wp2
  go_ret
  exact ⟨af, cf, rfl, ⟨q2.out, z2.out⟩, rfl⟩
 by_cases e3 : sect = 3
 ·subst e3
  go_enter Tryz.func99, Tryz.ntmps99
  go_wp2
  go_ret
  exact ⟨ad, cd, rfl, ⟨q3.out, z3.out⟩, rfl⟩
 ·rw [if_neg e1, if_neg e2, if_neg e3]
  have d1 : (sect == 1) = false := beq_eq_false_iff_ne.2 e1
  have d2 : (sect == 2) = false := beq_eq_false_iff_ne.2 e2
  have d3 : (sect == 3) = false := beq_eq_false_iff_ne.2 e3
  clear e1 e2 e3
  go_enter Tryz.func99, Tryz.ntmps99
  go_wp2
  go_ret
  exact ⟨none, 0, rfl, ⟨fun h => by simp at h, by simp, by simp⟩, rfl⟩

set_option maxRecDepth 100000 in
set_option maxHeartbeats 16000000 in
theorem add_any (W0 : World) (bl : List Nat) (ms : List Ln.Mod) (b g : Nat) (m : Ln.Mod) (sect : Int) (R : Nat) (base fl : Int) (ws : List Int) (v : Value) (w : World) (ht : Tabs W0) (h : ModsAt W0 bl ms) (hm : ModAt W0 bl b g m) (hn : MNice bl.length m) (hv : Valid m.obj) (hd : RelsNear ms m) (hr : RegAt W0 R base fl ws v w) (hb0 : 0 ≤ base) (hb1 : base ≤ 1200000000) (hl : ws.length ≤ 300090000) (ha : Ln.address m sect 0 ≤ 1200100000) :
  Calls Tryz.prog 67 #[ptrV R, ptrV b, .int .i64 sect] w fun e w' => e = .returned (.tuple #[]) ∧ ∃ v', RegAt W0 R base fl (Ln.addTo ms m sect base fl ws) v' w' ∧ RegTo w w' R v v' := by
 obtain ⟨i0, hi, hz0, hz1, hz2⟩ := info_parts Tryz.infoInt
 have HT := hid ht
 have HH := hid h
 have HM := hid hm
 have HR := hid hr
 have cA := hid (fun (off : Int) W (hg : W0.grownBy W none) h0 h1 => address_any bl b g bl.length m sect off W (HM.out.kept hg) hn h0 h1)
 have cL := hid (fun (off x : Int) W (hg : W0.grownBy W none) h0 h1 => linked_any bl ms b g m sect off x W (HT.out.grown hg) (HH.out.kept hg) (HM.out.kept hg) hn hv hd h0 h1)
 have cW : Hid (∀ W, W0.grownBy W none → Calls Tryz.prog 99 #[.pointer (some ⟨g, 0, none⟩), .int .i64 sect] W fun e w' => ∃ ao cap, e = .returned (.slice ao (wordsOf m.obj sect).length cap) ∧ (IntsIn W0 ao (wordsOf m.obj sect) ∧ (wordsOf m.obj sect).length ≤ cap ∧ cap ≤ maxLen) ∧ w' = W) := fun W hg => by
  obtain ⟨v1, v2, v3, v4, q0, q1, -⟩ := hm
  exact lWords_any W0 g m.obj sect W q1 hg
 have CB := hid (fun W (hg : W0.grownBy W none) => show W.cell? ⟨b, 0, none⟩ = some (.pointer (some ⟨g, 0, none⟩)) from by
  obtain ⟨v1, v2, v3, v4, q0, -⟩ := hm
  exact (q0.grown hg (by simp)).cell 0)
 have hwl := wordsOf_few hv sect
 have HW32 := hid (wordsOf_in hv sect)
 have EA := hid (show Ln.addTo ms m sect base fl ws = Ln.gapTo base fl (Ln.address m sect 0) ws ++ Ln.addWords ms m sect 0 ((wordsOf m.obj sect).drop 0) from rfl)
 generalize Ln.addTo ms m sect base fl ws = AT at *
 generalize wordsOf m.obj sect = xs at *
 have cA0 := hid (cA.out 0 w HR.out.gr (by omega) (by omega))
 generalize Ln.address m sect 0 = bg at *
 clear ht h hm hr hn hv hd
 unfold ptrV at *
 go_enter Tryz.func67, Tryz.ntmps67
 go_wp2_with fail
 refine cA0.out.mono ?_
 rintro e w' ⟨rfl, hw⟩
 rw [hw]
 clear hw w' cA0
 go_wp2
 go_loopg [] ((bg - base - 4 * (ws.length : Int)).toNat) (fun k wr => ∃ (acc : List Int) (v1 : Value), RegAt W0 R base fl acc v1 wr ∧ RegTo w wr R v v1 ∧ Ln.gapTo base fl bg ws = Ln.gapTo base fl bg acc ∧ acc.length ≤ 300090000 ∧ (bg - base - 4 * (acc.length : Int)).toNat ≤ k)
 case atStart => exact ⟨ws, v, HR.out, RegTo.refl _ _ _, rfl, by omega, Nat.le_refl _⟩
 case round =>
  obtain ⟨acc, v1, hra, hrt, heg, hal, hgk⟩ := hrel
  obtain ⟨av, cv, rfl⟩ := own_form hra.row
  have HG := hid hra
  have HT1 := hid hrt
  have HEG := hid heg
  clear hra hrt heg HR
  have c0 : wr.cell? ⟨R, 0, none⟩ = some (.int .i64 base) := HG.out.blk.cell 0
  have c1 : wr.cell? ⟨R, 1, none⟩ = some (.int .i64 fl) := HG.out.blk.cell 1
  have c2 : wr.cell? ⟨R, 2, none⟩ = some (.slice av acc.length cv) := HG.out.blk.cell 2
  have w1 : IntKind.i64.wrap (4 * (acc.length : Int)) = 4 * acc.length := IntWalk.i64_in _ ⟨by omega, by omega⟩
  have w2 : IntKind.i64.wrap (base + 4 * (acc.length : Int)) = base + 4 * acc.length := IntWalk.i64_in _ ⟨by omega, by omega⟩
  by_cases hlt : base + 4 * (acc.length : Int) < bg
  ·have EG := hid (show Ln.gapTo base fl bg ws = Ln.gapTo base fl bg (acc ++ [fl]) from HEG.out.trans (gap_more hlt))
   have hb2 : base + 4 * (acc.length : Int) < bg := hlt
   have d1 : decide (base + 4 * (acc.length : Int) < bg) = true := by simpa using hlt
   clear hlt HEG
   go_wp2
   go_quiet (fail)
   have HGq := hid (HG.out.kept (grown_drewN (World.grownBy.refl wr none) nq))
   have HTq := hid (HT1.out.grown (grown_drewN (World.grownBy.refl wr none) nq))
   go_wp2
   clear c0 c1 c2 HG HT1
   generalize wr.drewN nq = wr at *
   have HG := HGq
   have HT1 := HTq
   have c0 : wr.cell? ⟨R, 0, none⟩ = some (.int .i64 base) := HG.out.blk.cell 0
   have c1 : wr.cell? ⟨R, 1, none⟩ = some (.int .i64 fl) := HG.out.blk.cell 1
   have c2 : wr.cell? ⟨R, 2, none⟩ = some (.slice av acc.length cv) := HG.out.blk.cell 2
   clear HGq HTq
   have A7 := grown_drew (World.grownBy_alloc wr (.cells #[.int .i64 fl] 3) none)
   have H7 := hid (HG.out.kept A7)
   have RT := hid (HT1.out.grown A7)
   have hA := hid H7.out.row
   have n2 : (wr.alloc (.cells #[.int .i64 fl] 3)).drew.cell? ⟨R, 2, none⟩ = some (.slice av acc.length cv) := H7.out.blk.cell 2
   have hN : Hid (∀ j u, [Value.int .i64 fl][j]? = some u → (wr.alloc (.cells #[.int .i64 fl] 3)).drew.cell? ((⟨wr.heap.size, 0, none⟩ : Addr).add j) = some u) := World.news_of_block (heap_alloc_new wr (.cells #[.int .i64 fl] 3))
   have hOne : Hid (∀ u ∈ [Value.int .i64 fl], u.oneCell' = true) := by intro u hu; simp at hu; subst hu; rfl
   have h63 : Hid (acc.length + 1 ≤ maxLen) := by show _ ≤ _; unfold maxLen; omega
   have hby : Hid ((acc.length + 1) * 8 ≤ 140737488355328) := by show _ ≤ _; omega
   have hbs : Hid (W0.heap.size ≤ (wr.alloc (.cells #[.int .i64 fl] 3)).drew.heap.size) := H7.out.gr.size
   have SA : Hid ((wr.alloc (.cells #[.int .i64 fl] 3)).drew.cell? ⟨R, 1, none⟩ = some (.int .i64 fl)) := H7.out.blk.cell 1
   have STEP := hid (fun (v' : Value) (w3 : World) (hown' : w3.ownsRow W0.heap.size 3 1 v' (acc.length + 1) (acc.map (Value.int .i64) ++ [.int .i64 fl])) (hg : (wr.alloc (.cells #[.int .i64 fl] 3)).drew.grownBy w3 (Value.ownBlock (.slice av acc.length cv))) (hat : v'.ownBlock = Value.ownBlock (.slice av acc.length cv) ∨ v'.ownBlock = some (wr.alloc (.cells #[.int .i64 fl] 3)).drew.heap.size) => H7.out.put hown' hg hat)
   clear A7 H7 HG HT1 c0
   refine wp_region_held_drew (S := (fun w' => w'.cell? ⟨R, 1, none⟩ = some (.int .i64 fl))) (by kernel_rfl) c1 ?_
   intro hS
   refine wpAnyH_take (i := 0) (v := ?_) rfl (by kernel_rfl) (by kernel_rfl) (by kernel_rfl) (fun _ _ _ h => h) (Or.inl ⟨by kernel_rfl, ?_⟩) hS ?_
   rotate_left
   ·intro w' hw'; have x2 := hw'; go_simp; with_reducible rfl
   refine wpAnyH_take (i := 1) (v := ?_) rfl (by kernel_rfl) (by kernel_rfl) (by kernel_rfl) (fun _ _ _ h => h) (Or.inl ⟨by kernel_rfl, ?_⟩) hS ?_
   rotate_left
   ·intro w' hw'; have x2 := hw'; go_simp; with_reducible rfl
   refine wpAnyH_take (i := 2) (v := ?_) rfl (by kernel_rfl) (by kernel_rfl) (by kernel_rfl) (fun _ _ _ h => h) (Or.inl ⟨by kernel_rfl, ?_⟩) hS ?_
   rotate_left
   ·intro w' hw'; have x2 := hw'; go_simp; with_reducible rfl
   refine wpAnyH_take (i := 3) (v := ?_) rfl (by kernel_rfl) (by kernel_rfl) (by kernel_rfl) (fun _ _ _ h => h) (Or.inl ⟨by kernel_rfl, ?_⟩) hS ?_
   rotate_left
   ·intro w' hw'; have x2 := hw'; go_simp; with_reducible rfl
   refine wpAnyH_take (i := 5) (v := ?_) rfl (by kernel_rfl) (by kernel_rfl) (by kernel_rfl) (fun _ _ _ h => h) (Or.inl ⟨by kernel_rfl, ?_⟩) hS ?_
   rotate_left
   ·intro w' hw'; have x2 := hw'; go_simp; with_reducible rfl
   refine wpAnyH_take (i := 6) (v := ?_) rfl (by kernel_rfl) (by kernel_rfl) (by kernel_rfl) (fun _ _ _ h => h) (Or.inl ⟨by kernel_rfl, ?_⟩) hS ?_
   rotate_left
   ·intro w' hw'; have x2 := hw'; go_simp; with_reducible rfl
   refine wpAnyH_take (i := 7) (v := ?_) rfl (by kernel_rfl) (by kernel_rfl) (by kernel_rfl) (fun _ _ _ h => h) (Or.inl ⟨by kernel_rfl, ?_⟩) hS ?_
   rotate_left
   ·intro w' hw'; have x2 := hw'; go_simp; with_reducible rfl
   refine wpAnyH_take (i := 8) (v := ?_) rfl (by kernel_rfl) (by kernel_rfl) (by kernel_rfl) (fun _ _ _ h => h) (Or.inl ⟨by kernel_rfl, ?_⟩) hS ?_
   rotate_left
   ·intro w' hw'; have x2 := hw'; go_simp; with_reducible rfl
   refine wpAnyH_ready (rs := [4, 9]) (by kernel_rfl) (by simp) ?_
   refine AllReadyH.cons rfl (fun K hK => ?_) (AllReadyH.cons rfl (fun K hK => ?_) AllReadyH.nil)
   ·go_simp
    refine hK.out _ _ hS (fun hS2 => ?_)
    clear hK K
    refine wpAnyH_ready (rs := [9]) (by kernel_rfl) (by simp) ?_
    refine AllReadyH.cons rfl (fun K hK => ?_) AllReadyH.nil
    go_simp
    refine hK.out _ _ SA.out (fun hS3 => ?_)
    clear hK K hS2 hS3
    refine wpAnyH_ready (rs := [10]) (by kernel_rfl) (by simp) ?_
    refine AllReadyH.cons rfl (fun K hK => ?_) AllReadyH.nil
    refine wp_append_own_at _ (.tmp 30) (.tmp 35) 37 rfl W0.heap.size 3 i0 (.int .i64 0) 1 8 Tryz.underlying37 hi hz0 hz1 hz2 rfl (by decide) (.slice av acc.length cv) acc.length (acc.map (Value.int .i64)) (by kernel_rfl) hA.out ⟨wr.heap.size, 0, none⟩ 1 1 [.int .i64 fl] (by kernel_rfl) rfl hN.out hOne.out h63.out hby.out hbs.out ?_
    intro v' w3 hown' hgrow _ hat
    obtain ⟨av', cv', rfl⟩ := own_form hown'
    obtain ⟨⟨t1, t2⟩, t3, t4, t5, t6⟩ := STEP.out _ _ hown' hgrow hat
    have T1 := hid t1
    have T2 := hid t2
    have T3 : Hid ((w3.setCell ⟨R, 2, none⟩ (.slice av' (acc.length + 1) cv')).cell? ⟨R, 1, none⟩ = some (.int .i64 fl)) := t1.blk.cell 1
    refine hK.out _ _ t6 (fun hS4 => ?_)
    clear hK K hown' hgrow t1 t2 t6 hat
    refine wpAnyH_take (i := 11) (v := ?_) rfl (by kernel_rfl) (by kernel_rfl) (by kernel_rfl) (fun _ _ _ h => h) (Or.inl ⟨by kernel_rfl, ?_⟩) hS4 ?_
    rotate_left
    ·intro w' hw'; have x2 := hw'; go_simp; with_reducible rfl
    refine wpAnyH_take (i := 12) (v := ?_) rfl (by kernel_rfl) (by kernel_rfl) (by kernel_rfl) (fun _ _ _ h => h) (Or.inl ⟨by kernel_rfl, ?_⟩) hS4 ?_
    rotate_left
    ·intro w' hw'; have x2 := hw'; go_simp; with_reducible rfl
    refine wpAnyH_ready (rs := [13]) (by kernel_rfl) (by simp) ?_
    refine AllReadyH.cons rfl (fun K hK => ?_) AllReadyH.nil
    go_simp
    refine hK.out _ _ T3.out (fun hS5 => ?_)
    clear hK K
    refine wpAnyH_done (by kernel_rfl) ?_ _
    try simp only [put_mk, List.getElem_toArray, List.getElem_cons_succ, List.getElem_cons_zero, List.setIfInBounds_toArray, List.set_cons_succ, List.set_cons_zero]
    clear hA hN hOne h63 hby hbs c2 n2 t3 t4 t5 hS4 hS5 hS STEP SA T3
    go_wp2
    go_roundg (gk - 1)
    case measure => omega
    case rel => exact ⟨acc ++ [fl], _, T1.out, RT.out.trans T2.out, EG.out, by rw [List.length_append, List.length_singleton]; omega, by rw [List.length_append, List.length_singleton]; omega⟩
   ·go_simp
    refine hK.out _ _ SA.out (fun hS2 => ?_)
    clear hK K
    refine wpAnyH_ready (rs := [4]) (by kernel_rfl) (by simp) ?_
    refine AllReadyH.cons rfl (fun K hK => ?_) AllReadyH.nil
    go_simp
    refine hK.out _ _ SA.out (fun hS3 => ?_)
    clear hK K hS2 hS3
    refine wpAnyH_ready (rs := [10]) (by kernel_rfl) (by simp) ?_
    refine AllReadyH.cons rfl (fun K hK => ?_) AllReadyH.nil
    refine wp_append_own_at _ (.tmp 30) (.tmp 35) 37 rfl W0.heap.size 3 i0 (.int .i64 0) 1 8 Tryz.underlying37 hi hz0 hz1 hz2 rfl (by decide) (.slice av acc.length cv) acc.length (acc.map (Value.int .i64)) (by kernel_rfl) hA.out ⟨wr.heap.size, 0, none⟩ 1 1 [.int .i64 fl] (by kernel_rfl) rfl hN.out hOne.out h63.out hby.out hbs.out ?_
    intro v' w3 hown' hgrow _ hat
    obtain ⟨av', cv', rfl⟩ := own_form hown'
    obtain ⟨⟨t1, t2⟩, t3, t4, t5, t6⟩ := STEP.out _ _ hown' hgrow hat
    have T1 := hid t1
    have T2 := hid t2
    have T3 : Hid ((w3.setCell ⟨R, 2, none⟩ (.slice av' (acc.length + 1) cv')).cell? ⟨R, 1, none⟩ = some (.int .i64 fl)) := t1.blk.cell 1
    refine hK.out _ _ t6 (fun hS4 => ?_)
    clear hK K hown' hgrow t1 t2 t6 hat
    refine wpAnyH_take (i := 11) (v := ?_) rfl (by kernel_rfl) (by kernel_rfl) (by kernel_rfl) (fun _ _ _ h => h) (Or.inl ⟨by kernel_rfl, ?_⟩) hS4 ?_
    rotate_left
    ·intro w' hw'; have x2 := hw'; go_simp; with_reducible rfl
    refine wpAnyH_take (i := 12) (v := ?_) rfl (by kernel_rfl) (by kernel_rfl) (by kernel_rfl) (fun _ _ _ h => h) (Or.inl ⟨by kernel_rfl, ?_⟩) hS4 ?_
    rotate_left
    ·intro w' hw'; have x2 := hw'; go_simp; with_reducible rfl
    refine wpAnyH_ready (rs := [13]) (by kernel_rfl) (by simp) ?_
    refine AllReadyH.cons rfl (fun K hK => ?_) AllReadyH.nil
    go_simp
    refine hK.out _ _ T3.out (fun hS5 => ?_)
    clear hK K
    refine wpAnyH_done (by kernel_rfl) ?_ _
    try simp only [put_mk, List.getElem_toArray, List.getElem_cons_succ, List.getElem_cons_zero, List.setIfInBounds_toArray, List.set_cons_succ, List.set_cons_zero]
    clear hA hN hOne h63 hby hbs c2 n2 t3 t4 t5 hS4 hS5 hS STEP SA T3
    go_wp2
    go_roundg (gk - 1)
    case measure => omega
    case rel => exact ⟨acc ++ [fl], _, T1.out, RT.out.trans T2.out, EG.out, by rw [List.length_append, List.length_singleton]; omega, by rw [List.length_append, List.length_singleton]; omega⟩
  ·have EG := hid (show Ln.gapTo base fl bg ws = acc from HEG.out.trans (gap_done hlt))
   have d1 : decide (base + 4 * (acc.length : Int) < bg) = false := by simpa using hlt
   clear hlt HEG
   go_wp2
   go_quiet (fail)
   have HGq := hid (HG.out.kept (grown_drewN (World.grownBy.refl wr none) nq))
   have HTq := hid (HT1.out.grown (grown_drewN (World.grownBy.refl wr none) nq))
   have kb := CB.out _ HGq.out.gr
   go_wp2_with fail
   refine (cW.out _ HGq.out.gr).mono ?_
   rintro e w' ⟨aw, cw, rfl, ⟨hin, -, -⟩, hw⟩
   rw [hw]
   clear hw w' cW kb c0 c1 c2 HG HT1 w1 w2
   have HI := hid hin
   clear hin
   generalize wr.drewN nq = U at *
   go_wp2
   go_loopw [46] (fun i wr => ∃ (k : Nat) (acc2 : List Int) (v2 : Value), k ≤ xs.length ∧ i = .int .i64 k ∧ RegAt W0 R base fl acc2 v2 wr ∧ RegTo w wr R v v2 ∧ AT = acc2 ++ Ln.addWords ms m sect k (xs.drop k) ∧ acc2.length ≤ 300090000 + k) (fun i _ => xs.length - (intOf i).toNat)
   case atStart => exact ⟨0, acc, _, Nat.zero_le _, rfl, HGq.out, HTq.out, by rw [EA.out, EG.out], by omega⟩
   case round =>
    obtain ⟨k, acc2, v2, hk, rfl, hra, hrt, hat2, hal2⟩ := hrel
    obtain ⟨av2, cv2, rfl⟩ := own_form hra.row
    have HG := hid hra
    have HT1 := hid hrt
    have HA2 := hid hat2
    clear hra hrt hat2 HGq HTq
    by_cases hlt : k < xs.length
    ·have g1 : (k : Int) < (xs.length : Int) := by omega
     obtain ⟨sg, off, rfl, hc⟩ := HI.out (by omega)
     have ck := gcell (hc k hlt) HG.out.gr
     clear hc
     have P2 := hid (HA2.out.trans (by rw [addWords_drop ms m sect xs k hlt]))
     have xr := HW32.out _ (List.getElem_mem hlt)
     have w4 : IntKind.i64.wrap (4 * (k : Int)) = 4 * k := IntWalk.i64_in _ ⟨by omega, by omega⟩
     have w5 : IntKind.i64.wrap (4 * (k : Int) + 4) = 4 * k + 4 := IntWalk.i64_in _ ⟨by omega, by omega⟩
     have cA1 := hid (cA.out (4 * k) wr HG.out.gr (by omega) (by omega))
     have cA2 := hid (cA.out (4 * k + 4) wr HG.out.gr (by omega) (by omega))
     have cL1 := hid (cL.out (4 * k) xs[k] wr HG.out.gr xr.1 xr.2)
     generalize Ln.linked ms m sect (4 * k) xs[k] = y at *
     generalize Ln.address m sect (4 * k) = a1 at *
     generalize Ln.address m sect (4 * k + 4) = a2 at *
     generalize xs[k] = x at *
     go_wp2_with fail
     refine cA1.out.mono ?_
     rintro e w' ⟨rfl, hw⟩
     rw [hw]
     clear hw w' cA1
     go_wp2_with fail
     refine cA2.out.mono ?_
     rintro e w' ⟨rfl, hw⟩
     rw [hw]
     clear hw w' cA2
     by_cases hy : a1 < a2
     ·have d2 : decide (a1 < a2) = true := by simpa using hy
      have P3 := hid (show AT = (acc2 ++ [y]) ++ Ln.addWords ms m sect (k + 1) (xs.drop (k + 1)) by rw [P2.out, if_pos hy]; simp)
      clear hy P2
      go_wp2_with fail
      refine cL1.out.mono ?_
      rintro e W5 ⟨rfl, h5⟩
      have A6 := grown_trans h5 (World.grownBy_alloc W5 (.cells #[.int .i64 y] 3) none)
      have HG5 := hid (HG.out.kept h5)
      have HG6 := hid (HG.out.kept A6)
      have HT6 := hid (HT1.out.grown A6)
      have c2 : W5.cell? ⟨R, 2, none⟩ = some (.slice av2 acc2.length cv2) := HG5.out.blk.cell 2
      clear h5 A6 cL1 HG HT1 ck
      go_wp2_with (at_builtin; refine wpList_append_own_at _ rfl _ _ 37 rfl W0.heap.size 3 i0 (.int .i64 0) 1 8 Tryz.underlying37 hi hz0 hz1 hz2 rfl (by decide) _ _ _ rfl HG6.out.row ⟨W5.heap.size, 0, none⟩ 1 1 [.int .i64 y] rfl rfl (cell_one_new _ _ _) (by intro u hu; simp at hu; subst hu; rfl) (by unfold maxLen; omega) (by omega) HG6.out.gr.size ?_; intro v' w3 hown' hgrow _ hat; obtain ⟨av', cv', rfl⟩ := own_form hown'; obtain ⟨⟨t1, t2⟩, t3, t4, t5, t6⟩ := HG6.out.put hown' hgrow hat; have T1 := hid t1; have T2 := hid (HT6.out.trans t2); clear hown' hgrow hat t1 t2 t3 t6)
      go_roundw
      case rel => exact ⟨k + 1, acc2 ++ [y], _, by omega, by go_num, T1.out, T2.out, P3.out, by rw [List.length_append, List.length_singleton]; omega⟩
      case measure => simp [intOf]; omega
     ·have d2 : decide (a1 < a2) = false := by simpa using hy
      have P3 := hid (show AT = acc2 ++ Ln.addWords ms m sect (k + 1) (xs.drop (k + 1)) by rw [P2.out, if_neg hy])
      clear hy P2
      go_wp2
      go_roundw
      case rel => exact ⟨k + 1, acc2, _, by omega, by go_num, HG.out, HT1.out, P3.out, by omega⟩
      case measure => simp [intOf]; omega
    ·obtain rfl : k = xs.length := by omega
     have g3 : decide ((xs.length : Int) < (xs.length : Int)) = false := by simp
     have P2 := hid (show AT = acc2 by rw [HA2.out, List.drop_length]; simp [Ln.addWords])
     go_wp2
     go_end0
     rw [P2.out]
     exact ⟨rfl, _, HG.out, HT1.out⟩

end Go.Proofs.YtnfgdlkiialnnaaGreatDoor
