/- Walks over the document's answer: Parse. -/
import Derived.Test.YtafjgogdeinpcaaDoorGL
import Derived.Test.YtafjgogdeinpcaaDoorGK
import Derived.Test.YtafjgogdeinpcaaDoorHR5
import Derived.Test.YtafjgogdeinpcaaDoorGE
namespace Go.Proofs.YtafjgogdeinpcaaDoor
open Go.RowKit

theorem cut_lit (s : ByteArray) (p n : Nat) (mp mn : Int) (hp' : mp = (p : Int)) (hn' : mn = (n : Int)) (w : World) (hs : s.size ≤ 1048576) (hp : p ≤ 16777216) (hn : n ≤ 16777216) :
    Calls Tryd.prog 16 #[.string s, .int .i64 mp, .int .i64 mn] w fun e w' => e = .returned (.string (bs (cutL (sl s) p n))) ∧ w' = w := by
  subst hp' hn'; exact cut_any s p n w hs hp hn
theorem numbers_lit (s : ByteArray) (p n : Nat) (mp mn : Int) (hp' : mp = (p : Int)) (hn' : mn = (n : Int)) (w : World) (hs : s.size ≤ 1048576) (hp : p ≤ 8388608) (hn : n ≤ 65535) :
    Calls Tryd.prog 17 #[.string s, .int .i64 mp, .int .i64 mn] w fun e w' => ∃ v, e = .returned v ∧ w'.ownsRow w.heap.size 3 1 v (min n 1201) ((numsAt (sl s) p (min n 1201)).map (Value.int .i64)) ∧ w.grownBy w' none := by
  subst hp' hn'; exact numbers_any s p n w hs hp hn

/-- the borders -/
def alL (l : List UInt8) : Nat → List Int
  | 0 => []
  | k + 1 => alL l k ++ [atL l (10 + k) 1]

/-- while the document's answer builds an object: the object in g, what its lists own -/
structure PSt (w : World) (g : Nat) (cs : Array Value) (rows : List Row) (W : World) : Prop where
  obj : BlkAt W g cs 42
  rows : ∀ r ∈ rows, r.In W (g + 1)
  gr : w.grownBy W none

section
variable {w W W' w3 : World} {g : Nat} {cs cs' : Array Value} {rows : List Row}
theorem PSt.begin (w : World) (cs : Array Value) : PSt w w.heap.size cs [] (w.alloc (.cells cs 42)) :=
  ⟨BlkAt.new w cs 42, (by simp), World.grownBy_alloc w _ none⟩
theorem PSt.store (h : PSt w g cs rows W) (hw : w.heap.size ≤ g) (o : Nat) (v : Value) : PSt w g (cs.setIfInBounds o v) rows (W.setCell ⟨g, o, none⟩ v) :=
  ⟨h.obj.set o v, fun r hr => ownsRow_setCell_below (h.rows r hr) (Nat.lt_succ_self g) v, grown_above h.gr (grown_set W g o v) hw⟩
theorem PSt.row (h : PSt w g cs rows W) (hw : w.heap.size ≤ g) (hB : BlkAt W' g cs' 42) (hg : W.grownBy W' (some g)) (r : Row) (hrow : r.In W' W.heap.size) : PSt w g cs' (r :: rows) W' := by
  refine ⟨hB, ?_, grown_above h.gr hg hw⟩
  intro q hq
  rcases List.mem_cons.1 hq with rfl | hq
  · exact own_base hrow h.obj.lt
  · exact own_kept (h.rows q hq) (Nat.lt_succ_self g) hg
theorem PSt.put (h : PSt w g cs rows W) (hw : w.heap.size ≤ g) (hg : W.grownBy W' none) (r : Row) (hrow : r.In W' W.heap.size) (o : Nat) : PSt w g (cs.setIfInBounds o r.v) (r :: rows) (W'.setCell ⟨g, o, none⟩ r.v) := by
  have hB := h.obj.grown hg (by simp)
  refine PSt.row h hw (hB.set o r.v) (grown_trans (World.grownBy.mk hg.os hg.tape hg.output hg.size (fun i hi _ => hg.block i hi (by simp))) (grown_set W' g o r.v)) r ?_
  exact ownsRow_setCell_below hrow h.obj.lt r.v
theorem app_pre {wS wr : World} {ob : Obj} {row : Option Nat} (hg : g < wS.heap.size) (hB : BlkAt wr g cs 42) (hk : (wr.alloc ob).grownBy w3 row) (hrow : ∀ b, row = some b → wS.heap.size ≤ b) : BlkAt w3 g cs 42 :=
  (hB.grown (World.grownBy_alloc wr ob none) (by simp)).grown hk (fun e => by have := hrow g e.symm; omega)
theorem app_step {wS wr : World} {o : Nat} {e : TypeId} {size : Nat} {v' : Value} {n : Nat} {xs : List Value} {ob : Obj} {row : Option Nat} (hg : g < wS.heap.size) (hB : BlkAt wr g cs 42) (hG : wS.grownBy wr (some g)) (hk : (wr.alloc ob).grownBy w3 row) (hrow : ∀ b, row = some b → wS.heap.size ≤ b) (hown : w3.ownsRow wS.heap.size e size v' n xs) :
    BlkAt (w3.setCell ⟨g, o, none⟩ v') g (cs.setIfInBounds o v') 42 ∧ (w3.setCell ⟨g, o, none⟩ v').ownsRow wS.heap.size e size v' n xs ∧ wS.grownBy (w3.setCell ⟨g, o, none⟩ v') (some g) := by
  have h1 : wr.grownBy (wr.alloc ob) none := World.grownBy_alloc wr ob none
  have h2 : BlkAt w3 g cs 42 := (hB.grown h1 (by simp)).grown hk (fun e => by have := hrow g e.symm; omega)
  exact ⟨h2.set o v', ownsRow_setCell_below hown hg v', grown_trans (grown_own (grown_own hG h1 (by simp)) hk hrow) (grown_set w3 g o v')⟩
end

theorem news1 (W : World) (cs : Array Value) (t : TypeId) : ∀ j u, cs.toList[j]? = some u → (W.alloc (.cells cs t)).cell? ((⟨W.heap.size, 0, none⟩ : Addr).add j) = some u :=
  World.news_of_block (heap_alloc_new W (.cells cs t))

/-- what Parse gives -/
def ParseRet (s : ByteArray) (e : Ending) (w' : World) : Prop :=
  (IsObj (sl s) ∧ ∃ g, e = .returned (.tuple #[.pointer (some ⟨g, 0, none⟩), .bool true]) ∧ ObjAt w' g (rawObj (sl s))) ∨
  (¬ IsObj (sl s) ∧ ∃ v, e = .returned (.tuple #[v, .bool false]))

theorem raw_tame (l : List UInt8) : Tame (rawObj l) := by
  have r2 := atL_range l 2 2
  have r14 := atL_range l 14 1
  have r15 := atL_range l 15 1
  simp only [Int.reducePow] at r2 r14 r15
  refine ⟨⟨?_, ?_, ?_, ?_, ?_, ?_⟩, ?_, ?_⟩
  · simp only [rawObj, numsAt_length]; omega
  · simp only [rawObj, numsAt_length]; omega
  · simp only [rawObj, numsAt_length]; omega
  · simp [rawObj]
  · simp only [rawObj, symsRaw_length]; omega
  · simp only [rawObj, relsRaw_length]; omega
  · have H : ∀ k, ∀ y ∈ (symsRaw l k).1, y.name.length ≤ 255 := by
      intro k
      induction k with
      | zero => intro y hy; simp [symsRaw] at hy
      | succ k ih =>
        intro y hy
        simp only [symsRaw, List.mem_append, List.mem_singleton] at hy
        rcases hy with hy | rfl
        · exact ih y hy
        · have h := atL_range l (symsRaw l k).2 1
          simp only [Int.reducePow] at h
          simp only [symAt, cutL, List.length_take]
          omega
    exact H _
  · have H : ∀ p k, ∀ r ∈ relsRaw l p k, r.off ≤ 9223372036854775807 := by
      intro p k
      induction k with
      | zero => intro y hy; simp [relsRaw] at hy
      | succ k ih =>
        intro y hy
        simp only [relsRaw, List.mem_append, List.mem_singleton] at hy
        rcases hy with hy | rfl
        · exact ih y hy
        · have h := atL_range l (p + 7 * k + 2) 2
          simp only [Int.reducePow] at h
          simp only [relAtL]
          omega
    exact H _ _

set_option maxRecDepth 100000 in
set_option maxHeartbeats 16000000 in
theorem parse_any (s : ByteArray) (w : World) (hs : s.size ≤ 1048576) :
    Calls Tryd.prog 8 #[.string s] w fun e w' => ParseRet s e w' ∧ w.grownBy w' none := by
  obtain ⟨i0, hi, hz0, hz1, hz2⟩ := info_parts Tryd.infoInt
  obtain ⟨i1, hi1, hy0, hy1, hy2⟩ := info_parts Tryd.infoSym
  obtain ⟨i2, hi2, hx0, hx1, hx2⟩ := info_parts Tryd.infoRel
  by_cases hlen : 65536 < s.size
  · have d : decide (65536 < (s.size : Int)) = true := by simp; omega
    have HL := hid (sl_length s)
    go_enter Tryd.func8, Tryd.ntmps8
    go_wp2
    go_ret2
    exact ⟨.inr ⟨fun h => by have := isObj_short h; rw [HL.out] at this; omega, _, rfl⟩, World.grownBy.refl _ _⟩
  have dlen : decide (65536 < (s.size : Int)) = false := by simp; omega
  have q2 := atL_range (sl s) 2 2
  have q4 := atL_range (sl s) 4 2
  have q6 := atL_range (sl s) 6 2
  have q14 := atL_range (sl s) 14 1
  have q15 := atL_range (sl s) 15 1
  simp only [Int.reducePow] at q2 q4 q6 q14 q15
  have RAW := hid (show rawObj (sl s) = ⟨numsAt (sl s) ((symsRaw (sl s) (atL (sl s) 14 1).toNat).2 + 7 * (atL (sl s) 15 1).toNat) (min (atL (sl s) 2 2).toNat 1201),
    numsAt (sl s) ((symsRaw (sl s) (atL (sl s) 14 1).toNat).2 + 7 * (atL (sl s) 15 1).toNat + 4 * (atL (sl s) 2 2).toNat) (min (atL (sl s) 4 2).toNat 1201),
    numsAt (sl s) ((symsRaw (sl s) (atL (sl s) 14 1).toNat).2 + 7 * (atL (sl s) 15 1).toNat + 4 * (atL (sl s) 2 2).toNat + 4 * (atL (sl s) 4 2).toNat) (min (atL (sl s) 6 2).toNat 1201),
    atL (sl s) 8 2, alL (sl s) 4, (symsRaw (sl s) (atL (sl s) 14 1).toNat).1, relsRaw (sl s) (symsRaw (sl s) (atL (sl s) 14 1).toNat).2 (atL (sl s) 15 1).toNat⟩ from rfl)
  have HPS := hid (symsRaw_pos (sl s))
  have a2 := hid (fun W => at_lit s 2 2 2 2 rfl rfl W hs (by omega) (by omega))
  have a4 := hid (fun W => at_lit s 4 2 4 2 rfl rfl W hs (by omega) (by omega))
  have a6 := hid (fun W => at_lit s 6 2 6 2 rfl rfl W hs (by omega) (by omega))
  have a8 := hid (fun W => at_lit s 8 2 8 2 rfl rfl W hs (by omega) (by omega))
  have a14 := hid (fun W => at_lit s 14 1 14 1 rfl rfl W hs (by omega) (by omega))
  have a15 := hid (fun W => at_lit s 15 1 15 1 rfl rfl W hs (by omega) (by omega))
  generalize atL (sl s) 8 2 = bss at *
  obtain ⟨nt, ht⟩ := Int.eq_ofNat_of_zero_le q2.1
  obtain ⟨nf, hf⟩ := Int.eq_ofNat_of_zero_le q4.1
  obtain ⟨nd, hd⟩ := Int.eq_ofNat_of_zero_le q6.1
  obtain ⟨ns, hns⟩ := Int.eq_ofNat_of_zero_le q14.1
  obtain ⟨nr, hnr⟩ := Int.eq_ofNat_of_zero_le q15.1
  rw [ht] at q2
  rw [hf] at q4
  rw [hd] at q6
  rw [hns] at q14
  rw [hnr] at q15
  rw [ht] at a2
  rw [hf] at a4
  rw [hd] at a6
  rw [hns] at a14
  rw [hnr] at a15
  rw [ht, hf, hd, hns, hnr] at RAW
  simp only [Int.toNat_natCast] at RAW
  clear ht hf hd hns hnr
  go_enter Tryd.func8, Tryd.ntmps8
  go_wp2_with fail
  refine Calls.at_world (PSt w w.heap.size #[.slice none 0 0, .slice none 0 0, .slice none 0 0, .int .i64 0, .slice none 0 0, .slice none 0 0, .slice none 0 0] []) (PSt.begin w _) ?_
  generalize hg : w.heap.size = g at *
  have hw0 : w.heap.size ≤ g := by omega
  clear hg
  intro V0 h0
  refine (a8.out V0).mono ?_
  rintro e V ⟨rfl, rfl⟩
  have k := h0.obj.cell 3
  have f := h0.obj.free 3
  have P0 := hid (h0.store hw0 3 (.int .i64 bss))
  clear h0
  simp only [List.setIfInBounds_toArray, List.set_cons_succ, List.set_cons_zero] at P0
  go_wp2
  have hlt0 := P0.out.obj.lt
  generalize World.setCell V ⟨g, 3, none⟩ (.int .i64 bss) = V1 at *
  clear k f V
  go_loopw [5] (fun i wr => ∃ k : Nat, ∃ v : Value, k ≤ 4 ∧ i = .int .i64 k ∧ BlkAt wr g #[.slice none 0 0, .slice none 0 0, .slice none 0 0, .int .i64 bss, v, .slice none 0 0, .slice none 0 0] 42 ∧ wr.ownsRow V1.heap.size 3 1 v k ((alL (sl s) k).map (Value.int .i64)) ∧ V1.grownBy wr (some g)) (fun i _ => 4 - (intOf i).toNat)
  case atStart => exact ⟨0, _, Nat.zero_le _, rfl, P0.out.obj, World.ownsRow_nil _ _ _ _, World.grownBy.refl _ _⟩
  case round =>
    obtain ⟨k, v, hk4, rfl, hB, hown, hgr⟩ := hrel
    obtain ⟨av, cv, rfl⟩ := own_form hown
    have HB := hid hB
    have HG := hid hgr
    have c4 := hB.cell 4
    have f4 := hB.free 4
    have hsz := hgr.size
    clear hB hgr
    by_cases hlt : k < 4
    · have hlt' : (k : Int) < 4 := by omega
      have aK := hid (fun W => at_lit s (10 + k) 1 (10 + (k : Int)) 1 (by omega) rfl W hs (by omega) (by omega))
      have HAL := hid (show alL (sl s) (k + 1) = alL (sl s) k ++ [atL (sl s) (10 + k) 1] from rfl)
      generalize atL (sl s) (10 + k) 1 = x at *
      go_wp2_with fail
      refine (aK.out _).mono ?_
      rintro e V ⟨rfl, rfl⟩
      go_wp2_with (at_builtin; refine wpList_append_own _ rfl _ _ 38 rfl V1.heap.size 3 i0 (.int .i64 0) 1 8 Tryd.underlying38 hi hz0 hz1 hz2 rfl (by decide) _ _ _ rfl (hown.alloc _) ⟨V.heap.size, 0, none⟩ 1 1 [.int .i64 x] rfl rfl (cell_one_new _ _ _) (by intro u hu; simp at hu; subst hu; rfl) (by unfold maxLen; omega) (by omega) (by simp; omega) ?_; intro v' w3 hown' hgrow _; obtain ⟨av', cv', rfl⟩ := own_form hown'; have KB := app_pre hlt0 HB.out hgrow (fun b hb => (hown.lt b hb).1); have c4' := KB.cell 4; have f4' := KB.free 4; have K := hid (app_step (o := 4) hlt0 HB.out HG.out hgrow (fun b hb => (hown.lt b hb).1) hown'); clear hgrow hown' KB)
      simp only [List.setIfInBounds_toArray, List.set_cons_succ, List.set_cons_zero] at K
      go_wp2
      go_roundw
      case rel => exact ⟨k + 1, _, by omega, by go_num, K.out.1, by rw [HAL.out, List.map_append]; exact K.out.2.1, K.out.2.2⟩
      case measure => simp [intOf]; omega
    · obtain rfl : k = 4 := by omega
      have P1 := hid (P0.out.row hw0 HB.out HG.out ⟨3, 1, .slice av 4 cv, 4, (alL (sl s) 4).map (Value.int .i64)⟩ hown)
      obtain ⟨V2, hV2⟩ : ∃ wo : World, wo = wr := ⟨_, rfl⟩
      subst hV2
      clear hown HB HG c4 f4 hsz P0 hlt0
      have hlt0 := P1.out.obj.lt
      go_wp2_with fail
      refine (a14.out _).mono ?_
      rintro e V ⟨rfl, rfl⟩
      go_wp2_with fail
      refine (a15.out _).mono ?_
      rintro e V3 ⟨rfl, rfl⟩
      go_wp2
      go_loopw [9, 10] (fun p i wr => ∃ k : Nat, ∃ v : Value, k ≤ ns ∧ i = .int .i64 k ∧ p = .int .i64 ((symsRaw (sl s) k).2 : Int) ∧ BlkAt wr g #[.slice none 0 0, .slice none 0 0, .slice none 0 0, .int .i64 bss, .slice av 4 cv, v, .slice none 0 0] 42 ∧ wr.ownsRow V3.heap.size 46 4 v k ((symsRaw (sl s) k).1.flatMap symV) ∧ V3.grownBy wr (some g)) (fun _ i _ => ns - (intOf i).toNat)
      case atStart => exact ⟨0, _, Nat.zero_le _, rfl, rfl, P1.out.obj, World.ownsRow_nil _ _ _ _, World.grownBy.refl _ _⟩
      case round =>
        obtain ⟨k, v, hkn, rfl, rfl, hB, hown, hgr⟩ := hrel
        obtain ⟨avs, cvs, rfl⟩ := own_form hown
        have HB := hid hB
        have HG := hid hgr
        have c5 := hB.cell 5
        have f5 := hB.free 5
        have hsz := hgr.size
        have hpos := HPS.out k
        clear hB hgr
        by_cases hlt : k < ns
        · have hlt' : (k : Int) < (ns : Int) := by omega
          have HE := hid (show (symsRaw (sl s) (k + 1)).1 = (symsRaw (sl s) k).1 ++ [symAt (sl s) (symsRaw (sl s) k).2] from rfl)
          have HP := hid (show (symsRaw (sl s) (k + 1)).2 = (symsRaw (sl s) k).2 + 5 + (atL (sl s) (symsRaw (sl s) k).2 1).toNat from rfl)
          generalize (symsRaw (sl s) k).2 = p at *
          have rn := atL_range (sl s) p 1
          simp only [Int.reducePow] at rn
          have b0 := hid (fun W => at_lit s p 1 (p : Int) 1 rfl rfl W hs (by omega) (by omega))
          have HX := hid (show symAt (sl s) p = ⟨cutL (sl s) (p + 1) (atL (sl s) p 1).toNat, atL (sl s) (p + 1 + (atL (sl s) p 1).toNat) 1, atL (sl s) (p + 2 + (atL (sl s) p 1).toNat) 1, atL (sl s) (p + 3 + (atL (sl s) p 1).toNat) 2⟩ from rfl)
          obtain ⟨n, hn⟩ := Int.eq_ofNat_of_zero_le rn.1
          rw [hn] at rn b0 HX HP
          simp only [Int.toNat_natCast] at HX HP
          clear hn
          have b1 := hid (fun W => at_lit s (p + 1 + n) 1 ((p : Int) + 1 + (n : Int)) 1 (by omega) rfl W hs (by omega) (by omega))
          have b2 := hid (fun W => at_lit s (p + 2 + n) 1 ((p : Int) + 2 + (n : Int)) 1 (by omega) rfl W hs (by omega) (by omega))
          have b3 := hid (fun W => at_lit s (p + 3 + n) 2 ((p : Int) + 3 + (n : Int)) 2 (by omega) rfl W hs (by omega) (by omega))
          have b4 := hid (fun W => cut_lit s (p + 1) n ((p : Int) + 1) (n : Int) (by omega) rfl W hs (by omega) (by omega))
          generalize atL (sl s) (p + 1 + n) 1 = y1 at *
          generalize atL (sl s) (p + 2 + n) 1 = y2 at *
          generalize atL (sl s) (p + 3 + n) 2 = y3 at *
          generalize cutL (sl s) (p + 1) n = y0 at *
          go_wp2_with fail
          refine (b0.out _).mono ?_
          rintro e V ⟨rfl, rfl⟩
          go_wp2_with fail
          refine (b1.out _).mono ?_
          rintro e V ⟨rfl, rfl⟩
          go_wp2_with fail
          refine (b2.out _).mono ?_
          rintro e V ⟨rfl, rfl⟩
          go_wp2_with fail
          refine (b3.out _).mono ?_
          rintro e V ⟨rfl, rfl⟩
          go_wp2_with fail
          refine (b4.out _).mono ?_
          rintro e V ⟨rfl, rfl⟩
          go_wp2_with (at_builtin; refine wpList_append_own _ rfl _ _ 39 rfl V3.heap.size 46 i1 (.agg #[.string ⟨#[]⟩, .int .i64 0, .int .i64 0, .int .i64 0]) 4 40 Tryd.underlying39 hi1 hy0 hy1 hy2 rfl (by decide) _ _ _ rfl (hown.alloc _) ⟨V.heap.size, 0, none⟩ 1 1 (symV ⟨y0, y1, y2, y3⟩) rfl rfl (news1 _ _ _) (by intro u hu; simp [symV] at hu; rcases hu with rfl | rfl | rfl | rfl <;> rfl) (by unfold maxLen; omega) (by omega) (by simp; omega) ?_; intro v' w3 hown' hgrow _; obtain ⟨av', cv', rfl⟩ := own_form hown'; have KB := app_pre hlt0 HB.out hgrow (fun b hb => (hown.lt b hb).1); have c5' := KB.cell 5; have f5' := KB.free 5; have K := hid (app_step (o := 5) hlt0 HB.out HG.out hgrow (fun b hb => (hown.lt b hb).1) hown'); clear hgrow hown' KB)
          simp only [List.setIfInBounds_toArray, List.set_cons_succ, List.set_cons_zero] at K
          go_wp2
          go_roundw
          case rel => exact ⟨k + 1, _, by omega, by go_num, by rw [HP.out]; go_num, K.out.1, by rw [HE.out, HX.out, List.flatMap_append]; simpa using K.out.2.1, K.out.2.2⟩
          case measure => simp [intOf]; omega
        · obtain rfl : k = ns := by omega
          have P2 := hid (P1.out.row hw0 HB.out HG.out ⟨46, 4, .slice avs k cvs, k, (symsRaw (sl s) k).1.flatMap symV⟩ hown)
          obtain ⟨V4, hV4⟩ : ∃ wo : World, wo = wr := ⟨_, rfl⟩
          subst hV4
          clear hown HB HG c5 f5 hsz P1 hlt0
          have hlt0 := P2.out.obj.lt
          generalize (symsRaw (sl s) k).2 = ps at *
          go_wp2
          go_loopw [9, 17] (fun p i wr => ∃ j : Nat, ∃ v : Value, j ≤ nr ∧ i = .int .i64 j ∧ p = .int .i64 ((ps + 7 * j : Nat) : Int) ∧ BlkAt wr g #[.slice none 0 0, .slice none 0 0, .slice none 0 0, .int .i64 bss, .slice av 4 cv, .slice avs k cvs, v] 42 ∧ wr.ownsRow V4.heap.size 48 5 v j ((relsRaw (sl s) ps j).flatMap relV) ∧ V4.grownBy wr (some g)) (fun _ i _ => nr - (intOf i).toNat)
          case atStart => exact ⟨0, _, Nat.zero_le _, rfl, rfl, P2.out.obj, World.ownsRow_nil _ _ _ _, World.grownBy.refl _ _⟩
          case round =>
            obtain ⟨j, v, hjn, rfl, rfl, hB, hown, hgr⟩ := hrel
            obtain ⟨avr, cvr, rfl⟩ := own_form hown
            have HB := hid hB
            have HG := hid hgr
            have c6 := hB.cell 6
            have f6 := hB.free 6
            have hsz := hgr.size
            clear hB hgr
            by_cases hlt : j < nr
            · have hlt' : (j : Int) < (nr : Int) := by omega
              have HE := hid (show relsRaw (sl s) ps (j + 1) = relsRaw (sl s) ps j ++ [relAtL (sl s) (ps + 7 * j)] from rfl)
              have HP := hid (show ps + 7 * (j + 1) = ps + 7 * j + 7 from by omega)
              have hpp : ps + 7 * j ≤ 1048576 := by omega
              generalize ps + 7 * j = p at *
              have HX := hid (show relAtL (sl s) p = ⟨atL (sl s) p 1, atL (sl s) (p + 2) 2, atL (sl s) (p + 1) 1, atL (sl s) (p + 4) 1, Lk.sgn (atL (sl s) (p + 5) 2)⟩ from rfl)
              have rn := atL_range (sl s) (p + 5) 2
              simp only [Int.reducePow] at rn
              have b0 := hid (fun W => at_lit s p 1 (p : Int) 1 rfl rfl W hs (by omega) (by omega))
              have b1 := hid (fun W => at_lit s (p + 1) 1 ((p : Int) + 1) 1 (by omega) rfl W hs (by omega) (by omega))
              have b2 := hid (fun W => at_lit s (p + 2) 2 ((p : Int) + 2) 2 (by omega) rfl W hs (by omega) (by omega))
              have b3 := hid (fun W => at_lit s (p + 4) 1 ((p : Int) + 4) 1 (by omega) rfl W hs (by omega) (by omega))
              have b4 := hid (fun W => at_lit s (p + 5) 2 ((p : Int) + 5) 2 (by omega) rfl W hs (by omega) (by omega))
              generalize atL (sl s) p 1 = y0 at *
              generalize atL (sl s) (p + 1) 1 = y1 at *
              generalize atL (sl s) (p + 2) 2 = y2 at *
              generalize atL (sl s) (p + 4) 1 = y3 at *
              generalize atL (sl s) (p + 5) 2 = y4 at *
              go_wp2_with fail
              refine (b0.out _).mono ?_
              rintro e V ⟨rfl, rfl⟩
              go_wp2_with fail
              refine (b1.out _).mono ?_
              rintro e V ⟨rfl, rfl⟩
              go_wp2_with fail
              refine (b2.out _).mono ?_
              rintro e V ⟨rfl, rfl⟩
              go_wp2_with fail
              refine (b3.out _).mono ?_
              rintro e V ⟨rfl, rfl⟩
              go_wp2_with fail
              refine (b4.out _).mono ?_
              rintro e V ⟨rfl, rfl⟩
              rcases (show (y4 - 65536 = Lk.sgn y4 ∧ decide (32767 < y4) = true) ∨ (y4 = Lk.sgn y4 ∧ decide (32767 < y4) = false) from by unfold Lk.sgn; by_cases c : 32767 < y4 <;> simp <;> omega) with ⟨hsg, hdc⟩ | ⟨hsg, hdc⟩
              · have HSG := hid hsg
                clear hsg
                go_wp2_with (at_builtin; refine wpList_append_own _ rfl _ _ 40 rfl V4.heap.size 48 i2 (.agg #[.int .i64 0, .int .i64 0, .int .i64 0, .int .i64 0, .int .i64 0]) 5 40 Tryd.underlying40 hi2 hx0 hx1 hx2 rfl (by decide) _ _ _ rfl (hown.alloc _) ⟨V.heap.size, 0, none⟩ 1 1 (relV ⟨y0, y2, y1, y3, y4 - 65536⟩) rfl rfl (news1 _ _ _) (by intro u hu; simp [relV] at hu; rcases hu with rfl | rfl | rfl | rfl | rfl <;> rfl) (by unfold maxLen; omega) (by omega) (by simp; omega) ?_; intro v' w3 hown' hgrow _; obtain ⟨av', cv', rfl⟩ := own_form hown'; have KB := app_pre hlt0 HB.out hgrow (fun b hb => (hown.lt b hb).1); have c6' := KB.cell 6; have f6' := KB.free 6; have K := hid (app_step (o := 6) hlt0 HB.out HG.out hgrow (fun b hb => (hown.lt b hb).1) hown'); clear hgrow hown' KB)
                simp only [List.setIfInBounds_toArray, List.set_cons_succ, List.set_cons_zero] at K
                go_wp2
                go_roundw
                case rel => exact ⟨j + 1, _, by omega, by go_num, by rw [HP.out]; go_num, K.out.1, by rw [HE.out, HX.out, ← HSG.out, List.flatMap_append]; simpa using K.out.2.1, K.out.2.2⟩
                case measure => simp [intOf]; omega
              · have HSG := hid hsg
                clear hsg
                go_wp2_with (at_builtin; refine wpList_append_own _ rfl _ _ 40 rfl V4.heap.size 48 i2 (.agg #[.int .i64 0, .int .i64 0, .int .i64 0, .int .i64 0, .int .i64 0]) 5 40 Tryd.underlying40 hi2 hx0 hx1 hx2 rfl (by decide) _ _ _ rfl (hown.alloc _) ⟨V.heap.size, 0, none⟩ 1 1 (relV ⟨y0, y2, y1, y3, y4⟩) rfl rfl (news1 _ _ _) (by intro u hu; simp [relV] at hu; rcases hu with rfl | rfl | rfl | rfl | rfl <;> rfl) (by unfold maxLen; omega) (by omega) (by simp; omega) ?_; intro v' w3 hown' hgrow _; obtain ⟨av', cv', rfl⟩ := own_form hown'; have KB := app_pre hlt0 HB.out hgrow (fun b hb => (hown.lt b hb).1); have c6' := KB.cell 6; have f6' := KB.free 6; have K := hid (app_step (o := 6) hlt0 HB.out HG.out hgrow (fun b hb => (hown.lt b hb).1) hown'); clear hgrow hown' KB)
                simp only [List.setIfInBounds_toArray, List.set_cons_succ, List.set_cons_zero] at K
                go_wp2
                go_roundw
                case rel => exact ⟨j + 1, _, by omega, by go_num, by rw [HP.out]; go_num, K.out.1, by rw [HE.out, HX.out, ← HSG.out, List.flatMap_append]; simpa using K.out.2.1, K.out.2.2⟩
                case measure => simp [intOf]; omega
            · obtain rfl : j = nr := by omega
              have P3 := hid (P2.out.row hw0 HB.out HG.out ⟨48, 5, .slice avr j cvr, j, (relsRaw (sl s) ps j).flatMap relV⟩ hown)
              obtain ⟨V5, hV5⟩ : ∃ wo : World, wo = wr := ⟨_, rfl⟩
              subst hV5
              clear hown HB HG c6 f6 hsz P2 hlt0
              have hpe : ps + 7 * j ≤ 1048576 := by omega
              generalize ps + 7 * j = pe at *
              have n1 := hid (fun W => numbers_lit s pe nt (pe : Int) (nt : Int) rfl rfl W hs (by omega) (by omega))
              have n2 := hid (fun W => numbers_lit s (pe + 4 * nt) nf ((pe : Int) + 4 * (nt : Int)) (nf : Int) (by omega) rfl W hs (by omega) (by omega))
              have n3 := hid (fun W => numbers_lit s (pe + 4 * nt + 4 * nf) nd ((pe : Int) + 4 * (nt : Int) + 4 * (nf : Int)) (nd : Int) (by omega) rfl W hs (by omega) (by omega))
              go_wp2_with fail
              refine (a2.out _).mono ?_
              rintro e V ⟨rfl, rfl⟩
              go_wp2_with fail
              refine (a4.out _).mono ?_
              rintro e V ⟨rfl, rfl⟩
              go_wp2_with fail
              refine (a6.out _).mono ?_
              rintro e V ⟨rfl, rfl⟩
              go_wp2_with fail
              refine (n1.out _).mono ?_
              rintro e V6 ⟨vt, rfl, o, q⟩
              obtain ⟨avt, cvt, rfl⟩ := own_form o
              have P4 := hid (P3.out.put hw0 q ⟨3, 1, .slice avt (min nt 1201) cvt, min nt 1201, (numsAt (sl s) pe (min nt 1201)).map (Value.int .i64)⟩ o 0)
              have KB := P3.out.obj.grown q (by simp)
              have kc := KB.cell 0
              have kf := KB.free 0
              clear KB o q P3
              simp only [List.setIfInBounds_toArray, List.set_cons_zero] at P4
              go_wp2_with fail
              refine Calls.at_world (PSt w g #[.slice avt (min nt 1201) cvt, .slice none 0 0, .slice none 0 0, .int .i64 bss, .slice av 4 cv, .slice avs k cvs, .slice avr j cvr] [⟨3, 1, .slice avt (min nt 1201) cvt, min nt 1201, (numsAt (sl s) pe (min nt 1201)).map (Value.int .i64)⟩, ⟨48, 5, .slice avr j cvr, j, (relsRaw (sl s) ps j).flatMap relV⟩, ⟨46, 4, .slice avs k cvs, k, (symsRaw (sl s) k).1.flatMap symV⟩, ⟨3, 1, .slice av 4 cv, 4, (alL (sl s) 4).map (Value.int .i64)⟩]) P4.out ?_
              clear P4 kc kf V6
              intro V7 h7
              refine (n2.out V7).mono ?_
              rintro e V8 ⟨vf, rfl, o, q⟩
              obtain ⟨avf, cvf, rfl⟩ := own_form o
              have P5 := hid (h7.put hw0 q ⟨3, 1, .slice avf (min nf 1201) cvf, min nf 1201, (numsAt (sl s) (pe + 4 * nt) (min nf 1201)).map (Value.int .i64)⟩ o 1)
              have KB := h7.obj.grown q (by simp)
              have kc := KB.cell 1
              have kf := KB.free 1
              clear KB o q h7
              simp only [List.setIfInBounds_toArray, List.set_cons_succ, List.set_cons_zero] at P5
              go_wp2_with fail
              refine Calls.at_world (PSt w g #[.slice avt (min nt 1201) cvt, .slice avf (min nf 1201) cvf, .slice none 0 0, .int .i64 bss, .slice av 4 cv, .slice avs k cvs, .slice avr j cvr] [⟨3, 1, .slice avf (min nf 1201) cvf, min nf 1201, (numsAt (sl s) (pe + 4 * nt) (min nf 1201)).map (Value.int .i64)⟩, ⟨3, 1, .slice avt (min nt 1201) cvt, min nt 1201, (numsAt (sl s) pe (min nt 1201)).map (Value.int .i64)⟩, ⟨48, 5, .slice avr j cvr, j, (relsRaw (sl s) ps j).flatMap relV⟩, ⟨46, 4, .slice avs k cvs, k, (symsRaw (sl s) k).1.flatMap symV⟩, ⟨3, 1, .slice av 4 cv, 4, (alL (sl s) 4).map (Value.int .i64)⟩]) P5.out ?_
              clear P5 kc kf V8
              intro V9 h9
              refine (n3.out V9).mono ?_
              rintro e V10 ⟨vd, rfl, o, q⟩
              obtain ⟨avd, cvd, rfl⟩ := own_form o
              have P6 := hid (h9.put hw0 q ⟨3, 1, .slice avd (min nd 1201) cvd, min nd 1201, (numsAt (sl s) (pe + 4 * nt + 4 * nf) (min nd 1201)).map (Value.int .i64)⟩ o 2)
              have KB := h9.obj.grown q (by simp)
              have kc := KB.cell 2
              have kf := KB.free 2
              clear KB o q h9
              simp only [List.setIfInBounds_toArray, List.set_cons_succ, List.set_cons_zero] at P6
              go_wp2_with fail
              refine Calls.at_world (PSt w g #[.slice avt (min nt 1201) cvt, .slice avf (min nf 1201) cvf, .slice avd (min nd 1201) cvd, .int .i64 bss, .slice av 4 cv, .slice avs k cvs, .slice avr j cvr] [⟨3, 1, .slice avd (min nd 1201) cvd, min nd 1201, (numsAt (sl s) (pe + 4 * nt + 4 * nf) (min nd 1201)).map (Value.int .i64)⟩, ⟨3, 1, .slice avf (min nf 1201) cvf, min nf 1201, (numsAt (sl s) (pe + 4 * nt) (min nf 1201)).map (Value.int .i64)⟩, ⟨3, 1, .slice avt (min nt 1201) cvt, min nt 1201, (numsAt (sl s) pe (min nt 1201)).map (Value.int .i64)⟩, ⟨48, 5, .slice avr j cvr, j, (relsRaw (sl s) ps j).flatMap relV⟩, ⟨46, 4, .slice avs k cvs, k, (symsRaw (sl s) k).1.flatMap symV⟩, ⟨3, 1, .slice av 4 cv, 4, (alL (sl s) 4).map (Value.int .i64)⟩]) P6.out ?_
              clear P6 kc kf V10
              intro V11 h11
              have HOB := hid (show ObjAt V11 g (rawObj (sl s)) from by
                have e1 := numsAt_length (sl s) pe (min nt 1201)
                have e2 := numsAt_length (sl s) (pe + 4 * nt) (min nf 1201)
                have e3 := numsAt_length (sl s) (pe + 4 * nt + 4 * nf) (min nd 1201)
                have e4 : (alL (sl s) 4).length = 4 := rfl
                have e5 := symsRaw_length (sl s) k
                have e6 := relsRaw_length (sl s) ps j
                rw [RAW.out]
                refine ⟨_, _, _, _, _, _, h11.obj, ?_, ?_, ?_, ?_, ?_, ?_⟩
                · simp only [e1]; exact h11.rows ⟨3, 1, .slice avt (min nt 1201) cvt, min nt 1201, (numsAt (sl s) pe (min nt 1201)).map (Value.int .i64)⟩ (by simp)
                · simp only [e2]; exact h11.rows ⟨3, 1, .slice avf (min nf 1201) cvf, min nf 1201, (numsAt (sl s) (pe + 4 * nt) (min nf 1201)).map (Value.int .i64)⟩ (by simp)
                · simp only [e3]; exact h11.rows ⟨3, 1, .slice avd (min nd 1201) cvd, min nd 1201, (numsAt (sl s) (pe + 4 * nt + 4 * nf) (min nd 1201)).map (Value.int .i64)⟩ (by simp)
                · simp only [e4]; exact h11.rows ⟨3, 1, .slice av 4 cv, 4, (alL (sl s) 4).map (Value.int .i64)⟩ (by simp)
                · simp only [e5]; exact h11.rows ⟨46, 4, .slice avs k cvs, k, (symsRaw (sl s) k).1.flatMap symV⟩ (by simp)
                · simp only [e6]; exact h11.rows ⟨48, 5, .slice avr j cvr, j, (relsRaw (sl s) ps j).flatMap relV⟩ (by simp))
              have GR := hid h11.gr
              clear h11 RAW n1 n2 n3 a2 a4 a6 a8 a14 a15 HPS
              have HTM := hid (raw_tame (sl s))
              have HIO := hid (show IsObj (sl s) ↔ Valid (rawObj (sl s)) ∧ Lk.objB (rawObj (sl s)) = sl s from Iff.rfl)
              have HBS := hid (bs_sl s)
              have cI := hid (isObject_any g (rawObj (sl s)) V11 HOB.out HTM.out)
              refine cI.out.mono ?_
              rintro e V12 ⟨t, q⟩
              have GR2 := hid (grown_trans GR.out q)
              have HO2 := hid (HOB.out.kept q)
              rcases t.split with ⟨rfl, pv⟩ | ⟨rfl, pv⟩ <;> clear t q cI
              · go_wp2
                go_ret2
                exact ⟨.inr ⟨fun h => pv.out h.1, _, rfl⟩, GR2.out⟩
              · have cB := hid (bytes_any g (rawObj (sl s)) V12 HO2.out HTM.out.1 pv.out.2.1.1 ⟨pv.out.1.2.2.1, pv.out.1.2.2.2⟩ HTM.out.2.1)
                go_wp2_with fail
                refine cB.out.mono ?_
                rintro e V13 ⟨rfl, q⟩
                have GR3 := hid (grown_trans GR2.out q)
                have HO3 := hid (HO2.out.kept q)
                clear q cB
                have HTL := hid (toList_bs (Lk.objB (rawObj (sl s))))
                have HTS := hid (show s.toList = sl s from ByteArray.toList_eq s)
                by_cases c : Lk.objB (rawObj (sl s)) = sl s
                · have d : ((bs (Lk.objB (rawObj (sl s)))).toList == s.toList) = true := by rw [HTL.out, HTS.out, beq_iff_eq]; exact c
                  have CC := hid c
                  clear c
                  go_wp2
                  go_ret2
                  exact ⟨.inl ⟨⟨pv.out, CC.out⟩, g, rfl, HO3.out⟩, GR3.out⟩
                · have d : ((bs (Lk.objB (rawObj (sl s)))).toList == s.toList) = false := by rw [HTL.out, HTS.out, beq_eq_false_iff_ne]; exact c
                  have CC := hid c
                  clear c
                  go_wp2
                  go_ret2
                  exact ⟨.inr ⟨fun h => CC.out h.2, _, rfl⟩, GR3.out⟩

end Go.Proofs.YtafjgogdeinpcaaDoor
