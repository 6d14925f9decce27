/- Walks over package machine: data as loaded. -/
/- A law: a whole struct stored. -/
/- Walks over package machine: Run. -/
/- Walks over package machine: what an instruction does; orders that are drawn. -/
/- Walks over package machine: what an instruction does; orders that are drawn. -/
import Derived.Test.YtaiplongpjimnaaDoorG08
import Derived.Deep.RegionHeld3
import Derived.Laws.CopyRow
import Derived.Deep.CutRange
namespace Go.Proofs.YtaiplongpjimnaaDoor
open Go.RowKit

set_option maxRecDepth 100000 in
set_option maxHeartbeats 4000000 in
theorem freshData_any (g : Nat) (m : Im.Img) (w : World) (hI : ImgAt w g m) (hT : Im.Tame m) :
    Calls Tryd.prog 23 #[.pointer (some ⟨g, 0, none⟩)] w fun e w' => ∃ v, e = .returned v ∧ w'.ownsRow w.heap.size 3 1 v (m.D.length + m.noughts.toNat) ((m.D ++ List.replicate m.noughts.toNat 0).map (Value.int .i64)) ∧ w.grownBy w' none := by
  obtain ⟨i0, hi, hz0, hz1, hz2⟩ := info_parts Tryd.infoInt
  obtain ⟨a1, t1, a2, t2, ad, cd, hb, -, -, q3⟩ := hI.open
  have HB := hid hb
  have DI := hid (IntsIn.of_own q3)
  have hcap := own_cap q3
  have hl := hT.lens.2.2
  have hn := hT.noughts
  have k6 := hb.cell 6
  simp only [List.getElem?_toArray, List.getElem?_cons_succ, List.getElem?_cons_zero] at k6
  clear hI hT hb q3
  obtain ⟨nb, hnb⟩ := Int.eq_ofNat_of_zero_le hn.1
  have HNB := hid hnb
  rw [hnb]
  simp only [Int.toNat_natCast]
  go_enter Tryd.func23, Tryd.ntmps23
  go_wp2
  clear k6
  go_loopw [3, 12] (fun v i wr => ∃ k : Nat, k ≤ m.D.length ∧ i = .int .i64 k ∧ wr.ownsRow w.heap.size 3 1 v k ((m.D.take k).map (Value.int .i64)) ∧ w.grownBy wr none) (fun _ i _ => m.D.length - (intOf i).toNat)
  case atStart => exact ⟨0, Nat.zero_le _, rfl, World.ownsRow_nil _ _ _ _, World.grownBy.refl _ _⟩
  case round =>
    obtain ⟨k, hk, rfl, hown, hgr⟩ := hrel
    obtain ⟨av, cv, rfl⟩ := own_form hown
    have HG := hid hgr
    have hsz := hgr.size
    by_cases hlt : k < m.D.length
    · obtain ⟨sg, off, rfl, hcells⟩ := DI.out.kept (fun a v e => gcell e hgr) (by omega)
      have ck := hcells k hlt
      clear hcells hgr
      have E := hid (show (m.D.take (k + 1)).map (Value.int .i64) = (m.D.take k).map (Value.int .i64) ++ [.int .i64 m.D[k]] by rw [List.take_succ_eq_append_getElem hlt, List.map_append]; rfl)
      have g1 : (k : Int) < (m.D.length : Int) := by omega
      generalize m.D[k] = x at *
      go_wp2_with (at_builtin; refine wpList_append_own _ rfl _ _ 22 rfl w.heap.size 3 i0 (.int .i64 0) 1 8 Tryd.underlying22 hi hz0 hz1 hz2 rfl (by decide) _ _ _ rfl (hown.alloc _) ⟨wr.heap.size, 0, none⟩ 1 1 [.int .i64 x] rfl rfl (cell_one_new _ _ _) (by intro u hu; simp at hu; subst hu; rfl) (by unfold maxLen; omega) (by omega) (by simp; omega) ?_; intro v' w3 hown' hgrow _; obtain ⟨av', cv', rfl⟩ := own_form hown'; have K := hid hown'; have GK := hid (grown_hi (grown_trans HG.out (World.grownBy_alloc _ _ _)) hgrow (fun b hb => (hown.lt b hb).1)); clear hgrow hown')
      go_wp2
      go_roundw
      case rel => exact ⟨k + 1, by omega, by go_num, by rw [E.out]; exact K.out, GK.out⟩
      case measure => simp [intOf]; omega
    · obtain rfl : k = m.D.length := by omega
      have g0 : decide ((m.D.length : Int) < (m.D.length : Int)) = false := by simp
      rw [List.take_length] at hown
      have HO := hid hown
      clear hown hgr
      obtain ⟨U, hU⟩ : ∃ U : World, U = wr := ⟨_, rfl⟩
      subst hU
      go_wp2
      go_loopw [3, 6] (fun v i wr => ∃ k : Nat, k ≤ nb ∧ i = .int .i64 k ∧ wr.ownsRow w.heap.size 3 1 v (m.D.length + k) ((m.D ++ List.replicate k 0).map (Value.int .i64)) ∧ w.grownBy wr none) (fun _ i _ => nb - (intOf i).toNat)
      case atStart => exact ⟨0, Nat.zero_le _, rfl, by simpa using HO.out, HG.out⟩
      case round =>
        obtain ⟨k, hk2, rfl, hown, hgr⟩ := hrel
        obtain ⟨av2, cv2, rfl⟩ := own_form hown
        have HG2 := hid hgr
        have hsz2 := hgr.size
        have k7 := (HB.out.grown hgr (by simp)).cell 7
        simp only [List.getElem?_toArray, List.getElem?_cons_succ, List.getElem?_cons_zero] at k7
        rw [HNB.out] at k7
        clear hgr
        have hnb2 : nb ≤ 65535 := by have := HNB.out; omega
        by_cases hlt2 : k < nb
        · have g1 : (k : Int) < (nb : Int) := by omega
          have E := hid (show (m.D ++ List.replicate (k + 1) 0).map (Value.int .i64) = (m.D ++ List.replicate k 0).map (Value.int .i64) ++ [.int .i64 0] by simp [List.replicate_succ'])
          go_wp2_with (at_builtin; refine wpList_append_own _ rfl _ _ 22 rfl w.heap.size 3 i0 (.int .i64 0) 1 8 Tryd.underlying22 hi hz0 hz1 hz2 rfl (by decide) _ _ _ rfl (hown.alloc _) ⟨wr.heap.size, 0, none⟩ 1 1 [.int .i64 0] rfl rfl (cell_one_new _ _ _) (by intro u hu; simp at hu; subst hu; rfl) (by unfold maxLen; omega) (by omega) (by simp; omega) ?_; intro v' w3 hown' hgrow _; obtain ⟨av', cv', rfl⟩ := own_form hown'; have K := hid hown'; have GK := hid (grown_hi (grown_trans HG2.out (World.grownBy_alloc _ _ _)) hgrow (fun b hb => (hown.lt b hb).1)); clear hgrow hown')
          go_wp2
          go_roundw
          case rel => exact ⟨k + 1, by omega, by go_num, by rw [E.out]; exact K.out, GK.out⟩
          case measure => simp [intOf]; omega
        · obtain rfl : k = nb := by omega
          have HO2 := hid hown
          clear hown
          have g2 : decide ((k : Int) < (k : Int)) = false := by simp
          go_wp2
          go_ret
          exact ⟨_, rfl, HO2.out, HG2.out⟩

end Go.Proofs.YtaiplongpjimnaaDoor

namespace Go.Proofs.YtaiplongpjimnaaDoor
open Go.RowKit

section
variable {P : Program} (w : World)
theorem run_storeAt (t : TypeId) (b : Nat) (e : TypeId) (cur : Array Value) (V : Value) (i : TypeInfo) (hi : P.info? t = some i) (hsz : V.cells.size = i.size) (hb : w.heap[b]? = some (.cells cur e (0, 0))) (hcur : cur.size = V.cells.size) (h1 : ∀ u ∈ V.cells.toList, u.oneCell' = true) :
    (Instr.storeAt t (.pointer (some ⟨b, 0, none⟩)) V).run P w = .ok () (w.setRow b V.cells) := by
  have hst := run_storeCells_at P b 0 e V.cells.toList 0 cur w hb (by simp; omega) h1
  have e1 : (cur.toList.take (0 + 0) ++ V.cells.toList ++ cur.toList.drop (0 + 0 + V.cells.toList.length)).toArray = V.cells := by
    have : cur.toList.drop V.cells.size = [] := List.drop_eq_nil_of_le (by simp; omega)
    simp [this]
  rw [e1] at hst
  simp [Instr.storeAt, storeVar, Instr.sureAddr, sizeOf, typeInfo, hi, hsz, hst]

theorem wp_store_whole {o : Oper} {a : Act} {K : Act → World → Prop} {Q : Exit → Act → World → Prop} (t : TypeId) (p x : Operand) (ho : o.op = .store t p x) (b : Nat) (e : TypeId) (cur : Array Value) (hp : a.eval p = .pointer (some ⟨b, 0, none⟩)) (V : Value) (hv : a.eval x = V)
    (i : TypeInfo) (hi : P.info? t = some i) (hsz : V.cells.size = i.size) (hb : w.heap[b]? = some (.cells cur e (0, 0))) (hcur : cur.size = V.cells.size) (h1 : ∀ u ∈ V.cells.toList, u.oneCell' = true) (h : K (a.put o.dst undef) (w.setRow b V.cells)) : o.wp P a w K Q := by
  have hr := run_storeAt (P := P) w t b e cur V i hi hsz hb hcur h1
  unfold Oper.wp execOp
  simp only [ho, hp, hv, Sem.run_bind, Sem.run_pure, Result.andThen_ok, hr]
  unfold Oper.upon
  exact h
end

end Go.Proofs.YtaiplongpjimnaaDoor

namespace Go.Proofs.YtaiplongpjimnaaDoor
open Go.RowKit

namespace Mc
def start (m : Im.Img) : St := ⟨List.replicate 32 0, m.D ++ List.replicate m.noughts.toNat 0, m.start, 0, 0, 0, [], 0, 0⟩
/-- a whole run -/
def run (m : Im.Img) (ins : List Int) (fuel : Nat) : St :=
  let s := steps m ins fuel fuel (start m)
  if s.ende = 0 then { s with ende := 7 } else s
end Mc

theorem ImgAt.start {W : World} {g : Nat} {m : Im.Img} (h : ImgAt W g m) : W.cell? ⟨g, 0, none⟩ = some (.int .i64 m.start) := by
  obtain ⟨vt, vf, vd, hb, -⟩ := h
  exact hb.cell 0
def zeroRun : Array Value := #[.pointer none, .slice none 0 0, .int .i64 0, .int .i64 0, .int .i64 0, .int .i64 0, .int .i64 0, .int .i64 0, .int .i64 0, .int .i64 0, .int .i64 0, .int .i64 0, .int .i64 0, .int .i64 0, .int .i64 0, .int .i64 0, .int .i64 0, .int .i64 0, .int .i64 0, .int .i64 0, .int .i64 0, .int .i64 0, .int .i64 0, .int .i64 0, .int .i64 0, .int .i64 0, .int .i64 0, .int .i64 0, .int .i64 0, .int .i64 0, .int .i64 0, .int .i64 0, .int .i64 0, .int .i64 0, .slice none 0 0, .int .i64 0, .int .i64 0, .int .i64 0, .int .i64 0, .slice none 0 0, .int .i64 0, .int .i64 0]
theorem Tryd.infoRun : (Tryd.prog.info? 73).map (fun i => i.size) = some 42 := by kernel_rfl
theorem cells_run (g : Nat) (ai : Option Addr) (n ci : Nat) (m : Im.Img) (av : Option Addr) (k cv : Nat) : (Value.agg (runL g (.slice ai n ci) (Mc.start m) (.slice av k cv) (.slice none 0 0)).toArray).cells = (runL g (.slice ai n ci) (Mc.start m) (.slice av k cv) (.slice none 0 0)).toArray := rfl
theorem start_ok (m : Im.Img) (hT : Im.Tame m) (hD : ∀ i, 0 ≤ m.D.getD i 0 ∧ m.D.getD i 0 < 4294967296) : Mc.Ok (Mc.start m) := by
  have hl := hT.lens
  have hn := hT.noughts
  refine ⟨by simp [Mc.start], fun i => ?_, by simp [Mc.start], by simp [Mc.start]; omega, fun i => ?_, hT.start, by simp [Mc.start], by simp [Mc.start], by simp [Mc.start], by simp [Mc.start]⟩
  · have : (Mc.start m).regs.getD i 0 = 0 := by
      show (List.replicate 32 (0 : Int)).getD i 0 = 0
      rw [List.getD_eq_getElem?_getD, List.getElem?_replicate]
      split <;> rfl
    rw [this]; decide
  · show 0 ≤ (m.D ++ List.replicate m.noughts.toNat 0).getD i 0 ∧ (m.D ++ List.replicate m.noughts.toNat 0).getD i 0 < 4294967296
    rw [List.getD_eq_getElem?_getD]
    by_cases h : i < m.D.length
    · rw [List.getElem?_append_left h, ← List.getD_eq_getElem?_getD]; exact hD i
    · rw [List.getElem?_append_right (by omega), List.getElem?_replicate]
      split <;> decide
theorem runL_one (g : Nat) (ai : Option Addr) (n ci : Nat) (m : Im.Img) (av : Option Addr) (k cv : Nat) : ∀ u ∈ (runL g (.slice ai n ci) (Mc.start m) (.slice av k cv) (.slice none 0 0)).toArray.toList, u.oneCell' = true := by
  intro u hu
  simp only [runL, Mc.start, List.mem_append, List.mem_cons, List.map_replicate, List.mem_replicate, List.not_mem_nil, or_false] at hu
  rcases hu with (rfl | rfl) | (⟨_, rfl⟩ | rfl | rfl | rfl | rfl | rfl | rfl | rfl | rfl) <;> rfl
theorem ImgAt.lt {W : World} {g : Nat} {m : Im.Img} (h : ImgAt W g m) : g < W.heap.size := by
  obtain ⟨vt, vf, vd, hb, -⟩ := h
  exact hb.lt
/-- a run begins -/
theorem RunAt.begin {W0 U : World} {b g : Nat} {ai : Option Addr} {n ci : Nat} {m : Im.Img} {av : Option Addr} {k cv : Nat} {cur : Array Value} (hb : BlkAt U b cur 73) (hlo : W0.heap.size ≤ b) (hg : W0.grownBy U none)
    (hd : U.ownsRow W0.heap.size 3 1 (.slice av k cv) k ((m.D ++ List.replicate m.noughts.toNat 0).map (Value.int .i64))) (hk : k = m.D.length + m.noughts.toNat) (hne : ∀ j, Value.ownBlock (.slice av k cv) = some j → j ≠ b) (hok : Mc.Ok (Mc.start m)) :
    RunAt W0 b g (.slice ai n ci) (Mc.start m) (.slice av k cv) (.slice none 0 0) (U.setRow b (runL g (.slice ai n ci) (Mc.start m) (.slice av k cv) (.slice none 0 0)).toArray) := by
  have gr : U.grownBy (U.setRow b (runL g (.slice ai n ci) (Mc.start m) (.slice av k cv) (.slice none 0 0)).toArray) (some b) :=
    ⟨rfl, rfl, rfl, by simp, fun j _ hj => setRow_other U b j _ (fun e => hj (by simp [e]))⟩
  have hl : (Mc.start m).data.length = k := by rw [hk]; simp [Mc.start]
  refine ⟨setRow_heap U b cur _ 73 _ hb, ?_, World.ownsRow_nil _ _ _ _, ⟨hne, by simp [Value.ownBlock], by simp [Value.ownBlock]⟩, hlo, grown_hi hg gr (by intro j e; simp at e; omega), hok⟩
  rw [hl]
  exact hd.kept gr (by
    cases hv : Value.ownBlock (.slice av k cv) with
    | none => exact .inl rfl
    | some j => right; intro e; exact hne j hv (by simpa using e))
def stepsOf (b : Nat) (W : World) : Nat := match W.cell? ⟨b, 40, none⟩ with
  | some (.int _ i) => i.toNat
  | _ => 0
theorem RunAt.stepsOf {W0 W : World} {b g : Nat} {vin vd vo : Value} {st : Mc.St} (h : RunAt W0 b g vin st vd vo W) : stepsOf b W = st.steps := by
  unfold Proofs.YtaiplongpjimnaaDoor.stepsOf
  rw [h.c.2.2.2.2.2.2.2.2.1]
  simp
theorem set_steps (n v : Int) (st : Mc.St) : (Mc.set n v st).steps = st.steps := by unfold Mc.set; split <;> rfl
theorem call_steps (ins : List Int) (st : Mc.St) : (Mc.call ins st).steps = st.steps := by
  unfold Mc.call
  split
  · rfl
  split
  · split <;> rfl
  split
  · split
    · rfl
    · exact set_steps _ _ _
  · rfl
theorem load_steps (m : Im.Img) (rd a : Int) (st : Mc.St) : (Mc.load m rd a st).steps = st.steps := by
  unfold Mc.load
  split
  · exact set_steps _ _ _
  split
  · exact set_steps _ _ _
  · rfl
theorem doIt_steps (m : Im.Img) (ins : List Int) (op rd rs1 rs2 n : Int) (st : Mc.St) : (Mc.doIt m ins op rd rs1 rs2 n st).steps = st.steps := by
  unfold Mc.doIt
  split
  · rfl
  split
  · exact set_steps _ _ _
  split
  · exact set_steps _ _ _
  split
  · exact set_steps _ _ _
  split
  · exact set_steps _ _ _
  split
  · unfold Mc.branch; split <;> rfl
  split
  · exact load_steps _ _ _ _
  split
  · unfold Mc.store; split <;> rfl
  split
  · exact set_steps _ _ _
  split
  · exact call_steps _ _
  · exact set_steps _ _ _
theorem step_steps (m : Im.Img) (ins : List Int) (st : Mc.St) : (Mc.step m ins st).steps = st.steps + 1 := by
  unfold Mc.step
  split
  · rfl
  · exact doIt_steps _ _ _ _ _ _ _ _
theorem steps_more (m : Im.Img) (ins : List Int) (fuel k : Nat) (st : Mc.St) (h : st.ende = 0 ∧ st.steps < fuel) : Mc.steps m ins fuel (k + 1) st = Mc.steps m ins fuel k (Mc.step m ins st) := by
  simp only [Mc.steps]
  rw [if_pos h]
theorem steps_end (m : Im.Img) (ins : List Int) (fuel k : Nat) (st : Mc.St) (h : ¬ (st.ende = 0 ∧ st.steps < fuel)) : Mc.steps m ins fuel k st = st := by
  cases k with
  | zero => rfl
  | succ k => simp only [Mc.steps]; rw [if_neg h]
/-- what Run gives -/
def RunRet (W0 : World) (s : Mc.St) (e : Ending) (w' : World) : Prop :=
  ∃ vo, e = .returned (.tuple #[.agg #[.int .i64 s.ende, .int .i64 s.code, vo, .int .i64 s.steps, .int .i64 s.read], .int .i64 0]) ∧ w'.ownsRow W0.heap.size 3 1 vo s.out.length (s.out.map (Value.int .i64))
def resC : Array Value := #[.int .i64 0, .int .i64 0, .slice none 0 0, .int .i64 0, .int .i64 0]

/-- the result laid where it is handed out -/
theorem res_fin {w V : World} {r B : Nat} {c0 c1 c2 c3 c4 : Value} {vo : Value} {n : Nat} {xs : List Value} (a0 a1 a2 a3 a4 : Value) (hb : BlkAt V r #[c0, c1, c2, c3, c4] 30) (hr : w.heap.size ≤ r) (hg : w.grownBy V none) (ho : V.ownsRow B 3 1 vo n xs) (hne : ∀ k, vo.ownBlock = some k → k ≠ r) :
    BlkAt (((((V.setCell ⟨r, 0, none⟩ a0).setCell ⟨r, 1, none⟩ a1).setCell ⟨r, 2, none⟩ a2).setCell ⟨r, 3, none⟩ a3).setCell ⟨r, 4, none⟩ a4) r #[a0, a1, a2, a3, a4] 30 ∧
    w.grownBy (((((V.setCell ⟨r, 0, none⟩ a0).setCell ⟨r, 1, none⟩ a1).setCell ⟨r, 2, none⟩ a2).setCell ⟨r, 3, none⟩ a3).setCell ⟨r, 4, none⟩ a4) none ∧
    (((((V.setCell ⟨r, 0, none⟩ a0).setCell ⟨r, 1, none⟩ a1).setCell ⟨r, 2, none⟩ a2).setCell ⟨r, 3, none⟩ a3).setCell ⟨r, 4, none⟩ a4).ownsRow B 3 1 vo n xs := by
  have g : ∀ {U : World} (o : Nat) (v : Value), w.grownBy U none → w.grownBy (U.setCell ⟨r, o, none⟩ v) none := fun {U} o v h => grown_hi h (grown_set U r o v) (by intro k e; simp at e; omega)
  exact ⟨((((hb.set 0 a0).set 1 a1).set 2 a2).set 3 a3).set 4 a4, g _ _ (g _ _ (g _ _ (g _ _ (g _ _ hg)))), own_other (own_other (own_other (own_other (own_other ho hne) hne) hne) hne) hne⟩

set_option maxRecDepth 100000 in
set_option maxHeartbeats 8000000 in
theorem mRun_any (g : Nat) (m : Im.Img) (ai : Option Addr) (ci : Nat) (ins : List Int) (fuel : Nat) (w : World) (hI : ImgAt w g m) (hT : Im.Tame m) (hD : ∀ i, 0 ≤ m.D.getD i 0 ∧ m.D.getD i 0 < 4294967296) (hl : ins.length ≤ 16) (hf : fuel ≤ 65536) (hW : Im.Wordy m) (hin : IntsIn w ai ins) (ht : Tabs w)
    (cD : ∀ (W0 : World) (b : Nat) (st : Mc.St) (vd vo : Value) (op rd rs1 rs2 n : Int) (W : World), DoPre W0 b g ai ci ins st vd vo m rd rs1 rs2 n W → 0 ≤ op ∧ op ≤ 25 →
      Calls Tryd.prog 40 #[.pointer (some ⟨b, 0, none⟩), insV op rd rs1 rs2 n] W fun e W' => e = .returned (.tuple #[]) ∧ DoesR W0 b g (.slice ai ins.length ci) (Mc.doIt m ins op rd rs1 rs2 n st) W') :
    Calls Tryd.prog 16 #[.pointer (some ⟨g, 0, none⟩), .slice ai ins.length ci, .int .i64 fuel] w fun e w' => RunRet w (Mc.run m ins fuel) e w' ∧ w.grownBy w' none := by
  have d1 : decide ((16 : Int) < (ins.length : Int)) = false := by simp; omega
  have d2 : decide ((fuel : Int) < 0) = false := by simp
  have d3 : decide ((65536 : Int) < (fuel : Int)) = false := by simp; omega
  have I0 := hid (hI.kept (World.grownBy_alloc w (.cells resC 30) none))
  have R0 := hid (BlkAt.new w resC 30)
  have HW0 := hid (show w.heap.size < (w.alloc (.cells resC 30)).heap.size by rw [show (w.alloc (.cells resC 30)).heap.size = w.heap.size + 1 from Array.size_push _]; omega)
  have G0 := hid (World.grownBy_alloc w (.cells resC 30) none)
  have N0 := hid (hin.kept (fun a v e => gcell e (World.grownBy_alloc w (.cells resC 30) none)))
  have T0 := hid (ht.grown (World.grownBy_alloc w (.cells resC 30) none))
  have CD := hid cD
  have HT := hid hT
  have HW := hid hW
  have cF := hid (fun V hV => freshData_any g m V hV hT)
  have OK := hid (start_ok m hT hD)
  obtain ⟨iR, hiR, hsR⟩ : ∃ i, Tryd.prog.info? 73 = some i ∧ i.size = 42 := by
    have h := Tryd.infoRun
    cases hh : Tryd.prog.info? 73 with
    | none => rw [hh] at h; cases h
    | some i => rw [hh] at h; simp at h; exact ⟨i, rfl, h⟩
  clear hI hin ht cD
  go_enter Tryd.func16, Tryd.ntmps16
  go_upto_region 5 with fail
  unfold resC at I0 R0 G0 N0 T0 HW0
  generalize w.alloc (.cells #[.int .i64 0, .int .i64 0, .slice none 0 0, .int .i64 0, .int .i64 0] 30) = W0 at *
  have s0 := I0.out.start
  have I1 := hid (I0.out.kept (grown_drewN (World.grownBy.refl W0 none) 1))
  go_cut [8] from 20 to 28 (fun v wx => ∃ b vd, v = .pointer (some ⟨b, 0, none⟩) ∧ RunAt W0 b g (.slice ai ins.length ci) (Mc.start m) vd (.slice none 0 0) wx)
  case first =>
    refine wp_region_held_drew (S := (fun w' => w'.cell? ⟨g, 0, none⟩ = some (.int .i64 m.start))) (by kernel_rfl) s0 ?_
    intro hS
    refine wpAnyH_take (i := 0) (v := ?_) rfl (by kernel_rfl) (by kernel_rfl) (by kernel_rfl) (fun _ _ _ h => h) (Or.inl ⟨by kernel_rfl, ?_⟩) hS ?_
    rotate_left
    · intro w' hw'; go_simp; with_reducible rfl
    refine wpAnyH_take (i := 1) (v := ?_) rfl (by kernel_rfl) (by kernel_rfl) (by kernel_rfl) (fun _ _ _ h => h) (Or.inl ⟨by kernel_rfl, ?_⟩) hS ?_
    rotate_left
    · intro w' hw'; go_simp; with_reducible rfl
    refine wpAnyH_take (i := 2) (v := ?_) rfl (by kernel_rfl) (by kernel_rfl) (by kernel_rfl) (fun _ _ _ h => h) (Or.inl ⟨by kernel_rfl, ?_⟩) hS ?_
    rotate_left
    · intro w' hw'; go_simp; with_reducible rfl
    refine wpAnyH_take (i := 4) (v := ?_) rfl (by kernel_rfl) (by kernel_rfl) (by kernel_rfl) (fun _ _ _ h => h) (Or.inl ⟨by kernel_rfl, ?_⟩) hS ?_
    rotate_left
    · intro w' hw'; go_simp; with_reducible rfl
    refine wpAnyH_take (i := 5) (v := ?_) rfl (by kernel_rfl) (by kernel_rfl) (by kernel_rfl) (fun _ _ _ h => h) (Or.inl ⟨by kernel_rfl, ?_⟩) hS ?_
    rotate_left
    · intro w' hw'; go_simp; with_reducible rfl
    refine wpAnyH_take (i := 6) (v := ?_) rfl (by kernel_rfl) (by kernel_rfl) (by kernel_rfl) (fun _ _ _ h => h) (Or.inl ⟨by kernel_rfl, ?_⟩) hS ?_
    rotate_left
    · intro w' hw'; go_simp; with_reducible rfl
    refine wpAnyH_take (i := 7) (v := ?_) rfl (by kernel_rfl) (by kernel_rfl) (by kernel_rfl) (fun _ _ _ h => h) (Or.inl ⟨by kernel_rfl, ?_⟩) hS ?_
    rotate_left
    · intro w' hw'; go_simp; with_reducible rfl
    refine wpAnyH_ready (rs := [3, 9]) (by kernel_rfl) (by simp) ?_
    refine AllReadyH.cons rfl (fun K hK => ?_) (AllReadyH.cons rfl (fun K hK => ?_) AllReadyH.nil)
    · go_simp
      refine (cF.out _ I1.out).mono ?_
      rintro e w1 ⟨v, rfl, hv, hg⟩
      obtain ⟨av, cv, rfl⟩ := own_form hv
      have z0 := (I1.out.kept hg).start
      refine hK.out _ _ z0 (fun hS2 => ?_)
      clear hK K
      refine wpAnyH_take (i := 8) (v := ?_) rfl (by kernel_rfl) (by kernel_rfl) (by kernel_rfl) (fun _ _ _ h => h) (Or.inl ⟨by kernel_rfl, ?_⟩) hS2 ?_
      rotate_left
      · intro w' hw'; go_simp; with_reducible rfl
      refine wpAnyH_ready (rs := [9]) (by kernel_rfl) (by simp) ?_
      refine AllReadyH.cons rfl (fun K hK => ?_) AllReadyH.nil
      go_simp
      refine hK.out _ _ (gcell z0 (World.grownBy_alloc _ _ none)) (fun hS3 => ?_)
      clear hK K
      refine wpAnyH_ready (rs := [10]) (by kernel_rfl) (by simp) ?_
      refine AllReadyH.cons rfl (fun K hK => ?_) AllReadyH.nil
      rw [if_pos (by kernel_rfl)]
      have BU := hid (BlkAt.new w1 zeroRun 73)
      have hvl := hv.lt
      have gU := hid (grown_trans (grown_trans (grown_drewN (World.grownBy.refl W0 none) 1) hg) (World.grownBy_alloc w1 (.cells zeroRun 73) none))
      have hsz1 := hg.size
      have hd1 := hid (own_base (hv.alloc (.cells zeroRun 73)) (show W0.heap.size ≤ (W0.drewN 1).heap.size from Nat.le_refl _))
      have RB := hid (RunAt.begin (g := g) (ai := ai) (n := ins.length) (ci := ci) BU.out (by simpa using hsz1) gU.out hd1.out rfl (fun j e => by have := (hvl j e).2; omega) OK.out)
      refine wp_store_whole _ 73 (.tmp 8) (.tmp 28) rfl w1.heap.size 73 zeroRun (by kernel_rfl) (.agg (runL g (.slice ai ins.length ci) (Mc.start m) (.slice av (m.D.length + m.noughts.toNat) cv) (.slice none 0 0)).toArray) (by kernel_rfl) iR hiR (by rw [cells_run, hsR]; rfl) BU.out (by rw [cells_run]; rfl) (by rw [cells_run]; exact runL_one g ai ins.length ci m av _ cv) ?_
      rw [cells_run]
      refine hK.out _ _ ?_ (fun hS4 => ?_)
      · exact (World.cell?_of_block (setRow_other _ _ g _ (by have := I0.out.lt; simp at hsz1; omega))).trans (gcell z0 (World.grownBy_alloc w1 (.cells zeroRun 73) none))
      clear hK K
      refine wpAnyH_done (by kernel_rfl) ?_ _
      try simp only [Act.put, List.getElem_toArray, List.getElem_cons_succ, List.getElem_cons_zero]
      go_wp2_with fail
      go_meet
      exact ⟨_, _, rfl, RB.out⟩
    · go_simp
      have hS1 := gcell s0 (grown_drewN (World.grownBy_alloc W0 (.cells zeroRun 73) none) 1)
      refine hK.out _ _ hS1 (fun hS2 => ?_)
      clear hK K
      refine wpAnyH_ready (rs := [3]) (by kernel_rfl) (by simp) ?_
      refine AllReadyH.cons rfl (fun K hK => ?_) AllReadyH.nil
      go_simp
      have I2 := hid (I0.out.kept (grown_drewN (World.grownBy_alloc W0 (.cells zeroRun 73) none) 1))
      refine (cF.out _ I2.out).mono ?_
      rintro e w1 ⟨v, rfl, hv, hg⟩
      obtain ⟨av, cv, rfl⟩ := own_form hv
      have z0 := (I2.out.kept hg).start
      refine hK.out _ _ z0 (fun hS3 => ?_)
      clear hK K
      refine wpAnyH_take (i := 8) (v := ?_) rfl (by kernel_rfl) (by kernel_rfl) (by kernel_rfl) (fun _ _ _ h => h) (Or.inl ⟨by kernel_rfl, ?_⟩) hS3 ?_
      rotate_left
      · intro w' hw'; go_simp; with_reducible rfl
      refine wpAnyH_ready (rs := [10]) (by kernel_rfl) (by simp) ?_
      refine AllReadyH.cons rfl (fun K hK => ?_) AllReadyH.nil
      rw [if_pos (by kernel_rfl)]
      have BU := hid (((BlkAt.new W0 zeroRun 73).drewN 1).grown hg (by simp))
      have hvl := hv.lt
      have gU := hid (grown_trans (grown_drewN (World.grownBy_alloc W0 (.cells zeroRun 73) none) 1) hg)
      have hsz1 : ((W0.alloc (.cells zeroRun 73)).drewN 1).heap.size = W0.heap.size + 1 := Array.size_push _
      have hd1 := hid (own_base hv (show W0.heap.size ≤ ((W0.alloc (.cells zeroRun 73)).drewN 1).heap.size by omega))
      have RB := hid (RunAt.begin (g := g) (ai := ai) (n := ins.length) (ci := ci) BU.out (Nat.le_refl _) gU.out hd1.out rfl (fun j e => by have := (hvl j e).1; omega) OK.out)
      refine wp_store_whole _ 73 (.tmp 8) (.tmp 28) rfl W0.heap.size 73 zeroRun (by kernel_rfl) (.agg (runL g (.slice ai ins.length ci) (Mc.start m) (.slice av (m.D.length + m.noughts.toNat) cv) (.slice none 0 0)).toArray) (by kernel_rfl) iR hiR (by rw [cells_run, hsR]; rfl) BU.out (by rw [cells_run]; rfl) (by rw [cells_run]; exact runL_one g ai ins.length ci m av _ cv) ?_
      rw [cells_run]
      refine hK.out _ _ ?_ (fun hS4 => ?_)
      · exact (World.cell?_of_block (setRow_other _ _ g _ (by have := I0.out.lt; omega))).trans z0
      clear hK K
      refine wpAnyH_done (by kernel_rfl) ?_ _
      try simp only [Act.put, List.getElem_toArray, List.getElem_cons_succ, List.getElem_cons_zero]
      go_wp2_with fail
      go_meet
      exact ⟨_, _, rfl, RB.out⟩
  case rest =>
  obtain ⟨b, vd0, rfl, hr⟩ := hcut
  have H0 := hid hr
  clear hr cF
  go_wp2
  go_loopw [] (fun wr => ∃ (st : Mc.St) (vd vo : Value) (k : Nat), RunAt W0 b g (.slice ai ins.length ci) st vd vo wr ∧ Mc.steps m ins fuel fuel (Mc.start m) = Mc.steps m ins fuel k st ∧ fuel ≤ st.steps + k ∧ st.steps ≤ fuel) (fun wr => fuel - stepsOf b wr)
  case atStart => exact ⟨Mc.start m, vd0, _, fuel, H0.out, rfl, by omega, Nat.zero_le _⟩
  case round =>
    obtain ⟨st, vd, vo, k, hr, he, hk, hs⟩ := hrel
    have H := hid hr
    have HE := hid he
    clear hr he H0
    have c37 := H.out.c.2.2.2.2.2.1
    have c40 := H.out.c.2.2.2.2.2.2.2.2.1
    by_cases e0 : st.ende = 0
    · have q0 : (st.ende == 0) = true := by simpa using e0
      by_cases hlt : st.steps < fuel
      · have q1 : decide ((st.steps : Int) < (fuel : Int)) = true := by simp; omega
        obtain ⟨k', rfl⟩ : ∃ k', k = k' + 1 := ⟨k - 1, by omega⟩
        have M := hid (steps_more m ins fuel k' st ⟨e0, hlt⟩)
        have SS := hid (step_steps m ins st)
        have PO := hid H.out.stepsOf
        go_wp2_with fail
        refine (mStep_any W0 b g ai ci ins st vd vo m wr H.out I0.out HT.out HW.out N0.out hl T0.out (by omega) (fun st op rd rs1 rs2 n W => CD.out W0 b st vd vo op rd rs1 rs2 n W)).mono ?_
        rintro e V ⟨rfl, vd', vo', h2⟩
        have H2 := hid h2
        clear h2
        go_wp2
        go_roundw
        case rel => exact ⟨Mc.step m ins st, vd', vo', k', H2.out, by rw [HE.out, M.out], by rw [SS.out]; omega, by rw [SS.out]; omega⟩
        case measure => rw [PO.out, H2.out.stepsOf, SS.out]; omega
      · have q1 : decide ((st.steps : Int) < (fuel : Int)) = false := by simp; omega
        have RU := hid (show Mc.run m ins fuel = { st with ende := 7 } by unfold Mc.run; dsimp only; rw [HE.out, steps_end m ins fuel k st (fun c => hlt c.2)]; rw [if_pos e0])
        obtain ⟨ao, co, hvo⟩ := own_form H.out.out
        subst hvo
        have RBk := hid (R0.out.grown H.out.gr (by simp))
        have hw0 : w.heap.size < W0.heap.size := HW0.out
        have hbw : b ≠ w.heap.size := by have := H.out.lo; omega
        have hwb : w.heap.size ≠ b := fun e => hbw e.symm
        have x0 := RBk.out.cell 0
        have x1 := RBk.out.cell 1
        have x2 := RBk.out.cell 2
        have x3 := RBk.out.cell 3
        have x4 := RBk.out.cell 4
        simp only [List.getElem?_toArray, List.getElem?_cons_succ, List.getElem?_cons_zero] at x0 x1 x2 x3 x4
        have y0 := RBk.out.free 0
        have y1 := RBk.out.free 1
        have y2 := RBk.out.free 2
        have y3 := RBk.out.free 3
        have y4 := RBk.out.free 4
        have c38 := H.out.c.2.2.2.2.2.2.1
        have c39 := H.out.c.2.2.2.2.2.2.2.1
        have c41 := H.out.c.2.2.2.2.2.2.2.2.2
        have f37 := H.out.free 37
        go_wp2
        have HF := hid (H.out.putEnd 7)
        have RF := res_fin (w := w) (.int .i64 7) (.int .i64 st.code) (.slice ao st.out.length co) (.int .i64 st.steps) (.int .i64 st.read) (RBk.out.grown (grown_set wr b 37 (.int .i64 7)) (by simp; omega)) (Nat.le_refl _) (grown_trans G0.out HF.out.gr) HF.out.out (fun j e => by have := (HF.out.out.lt j e).1; omega)
        have h0 := RF.1.cell 0
        have h1 := RF.1.cell 1
        have h2 := RF.1.cell 2
        have h3 := RF.1.cell 3
        have h4 := RF.1.cell 4
        simp only [List.getElem?_toArray, List.getElem?_cons_succ, List.getElem?_cons_zero] at h0 h1 h2 h3 h4
        refine bodyPost_ret (v := .tuple #[.agg #[.int .i64 7, .int .i64 st.code, .slice ao st.out.length co, .int .i64 st.steps, .int .i64 st.read], .int .i64 0]) ?_ rfl ⟨⟨.slice ao st.out.length co, by rw [RU.out], by rw [RU.out]; exact own_base RF.2.2 (Nat.le_of_lt hw0)⟩, RF.2.1⟩
        clear RF HF x0 x1 x2 x3 x4 y0 y1 y2 y3 y4 c37 c38 c39 c40 c41 f37
        generalize World.setCell _ _ _ = WF at *
        simp [results, Tryd.results16, go_sem, h0, h1, h2, h3, h4]
    · have q0 : (st.ende == 0) = false := by simpa using e0
      have RU := hid (show Mc.run m ins fuel = st by unfold Mc.run; dsimp only; rw [HE.out, steps_end m ins fuel k st (fun c => e0 c.1)]; rw [if_neg e0])
      obtain ⟨ao, co, hvo⟩ := own_form H.out.out
      subst hvo
      have RBk := hid (R0.out.grown H.out.gr (by simp))
      have hw0 : w.heap.size < W0.heap.size := HW0.out
      have hbw : b ≠ w.heap.size := by have := H.out.lo; omega
      have hwb : w.heap.size ≠ b := fun e => hbw e.symm
      have x0 := RBk.out.cell 0
      have x1 := RBk.out.cell 1
      have x2 := RBk.out.cell 2
      have x3 := RBk.out.cell 3
      have x4 := RBk.out.cell 4
      simp only [List.getElem?_toArray, List.getElem?_cons_succ, List.getElem?_cons_zero] at x0 x1 x2 x3 x4
      have y0 := RBk.out.free 0
      have y1 := RBk.out.free 1
      have y2 := RBk.out.free 2
      have y3 := RBk.out.free 3
      have y4 := RBk.out.free 4
      have c38 := H.out.c.2.2.2.2.2.2.1
      have c39 := H.out.c.2.2.2.2.2.2.2.1
      have c41 := H.out.c.2.2.2.2.2.2.2.2.2
      have f37 := H.out.free 37
      go_wp2
      have HF := hid H.out
      have RF := res_fin (w := w) (.int .i64 st.ende) (.int .i64 st.code) (.slice ao st.out.length co) (.int .i64 st.steps) (.int .i64 st.read) (RBk.out) (Nat.le_refl _) (grown_trans G0.out HF.out.gr) HF.out.out (fun j e => by have := (HF.out.out.lt j e).1; omega)
      have h0 := RF.1.cell 0
      have h1 := RF.1.cell 1
      have h2 := RF.1.cell 2
      have h3 := RF.1.cell 3
      have h4 := RF.1.cell 4
      simp only [List.getElem?_toArray, List.getElem?_cons_succ, List.getElem?_cons_zero] at h0 h1 h2 h3 h4
      refine bodyPost_ret (v := .tuple #[.agg #[.int .i64 st.ende, .int .i64 st.code, .slice ao st.out.length co, .int .i64 st.steps, .int .i64 st.read], .int .i64 0]) ?_ rfl ⟨⟨.slice ao st.out.length co, by rw [RU.out], by rw [RU.out]; exact own_base RF.2.2 (Nat.le_of_lt hw0)⟩, RF.2.1⟩
      clear RF HF x0 x1 x2 x3 x4 y0 y1 y2 y3 y4 c37 c38 c39 c40 c41 f37
      generalize World.setCell _ _ _ = WF at *
      simp [results, Tryd.results16, go_sem, h0, h1, h2, h3, h4]

end Go.Proofs.YtaiplongpjimnaaDoor

namespace Go.Proofs.YtaiplongpjimnaaDoor
open Go.RowKit

set_option maxRecDepth 100000 in
set_option maxHeartbeats 8000000 in
theorem do_auipc (W0 : World) (b g : Nat) (ai : Option Addr) (ci : Nat) (ins : List Int) (st : Mc.St) (vd vo : Value) (m : Im.Img) (op rd rs1 rs2 n : Int) (W : World) (hpre : DoPre W0 b g ai ci ins st vd vo m rd rs1 rs2 n W) (hop : op = 2) :
    Calls Tryd.prog 40 #[.pointer (some ⟨b, 0, none⟩), insV op rd rs1 rs2 n] W fun e W' => e = .returned (.tuple #[]) ∧ DoesR W0 b g (.slice ai ins.length ci) (Mc.doIt m ins op rd rs1 rs2 n st) W' := by
  obtain ⟨h, hI, hT, hin, hl, d0, s1, s2, hn⟩ := hpre
  have HA := hid (h.grown (World.grownBy_alloc W (.cells #[.int .i64 op, .int .i64 rd, .int .i64 rs1, .int .i64 rs2, .int .i64 n] 86) none))
  have NE := hid (show W.heap.size ≠ b from fun e => by have := h.blk.lt; omega)
  have IC := hid (insC W (.int .i64 op) (.int .i64 rd) (.int .i64 rs1) (.int .i64 rs2) (.int .i64 n))
  have r1 := hid (fun W hW => register_any' W0 b g (.slice ai ins.length ci) st vd vo rs1 W hW s1.1 s1.2)
  have r2 := hid (fun W hW => register_any' W0 b g (.slice ai ins.length ci) st vd vo rs2 W hW s2.1 s2.2)
  have q1 := reg_range h.ok rs1
  have q2 := reg_range h.ok rs2
  have hp := h.ok.pc
  obtain ⟨X, hX⟩ : ∃ X, X = Mc.doIt m ins op rd rs1 rs2 n st := ⟨_, rfl⟩
  rw [← hX]
  have RX := hid hX
  clear hX
  unfold insV
  subst hop
  replace RX := hid (show X = Mc.set rd (n * 4096 + st.pc) st from RX.out)
  have x : IntKind.i64.wrap (n * 4096) = n * 4096 := IntWalk.i64_in _ ⟨by omega, by omega⟩
  have y : IntKind.i64.wrap (n * 4096 + st.pc) = n * 4096 + st.pc := IntWalk.i64_in _ ⟨by omega, by omega⟩
  have cS := hid (fun W hW => mSet_any W0 b g (.slice ai ins.length ci) st vd vo rd (n * 4096 + st.pc) W hW d0.1 d0.2)
  clear h hI hT hin
  go_enter Tryd.func40, Tryd.ntmps40
  go_wp2_with fail
  generalize W.alloc (.cells #[.int .i64 2, .int .i64 rd, .int .i64 rs1, .int .i64 rs2, .int .i64 n] 86) = V at *
  generalize W.heap.size = ib at *
  obtain ⟨i0, i1, i2, i3, i4⟩ := IC.out
  refine (r1.out _ HA.out).mono ?_
  rintro e V1 ⟨rfl, hV⟩
  subst hV
  go_wp2_with fail
  refine (r2.out _ HA.out).mono ?_
  rintro e V1 ⟨rfl, hV⟩
  subst hV
  have HD := hid (HA.out.grown (grown_drewN (World.grownBy.refl _ none) 1))
  have c35 := HA.out.c.2.2.2.1
  go_wp2
  go_region_with (first | (go_at_call 52; refine (cS.out _ HD.out).mono ?_; rintro e w' ⟨rfl, h2⟩))
  all_goals
    have H2 := hid h2
    clear h2
    go_wp2
    go_end0
    rw [RX.out]
    exact ⟨rfl, _, _, H2.out⟩

set_option maxRecDepth 100000 in
set_option maxHeartbeats 8000000 in
theorem do_jal (W0 : World) (b g : Nat) (ai : Option Addr) (ci : Nat) (ins : List Int) (st : Mc.St) (vd vo : Value) (m : Im.Img) (op rd rs1 rs2 n : Int) (W : World) (hpre : DoPre W0 b g ai ci ins st vd vo m rd rs1 rs2 n W) (hop : op = 3) :
    Calls Tryd.prog 40 #[.pointer (some ⟨b, 0, none⟩), insV op rd rs1 rs2 n] W fun e W' => e = .returned (.tuple #[]) ∧ DoesR W0 b g (.slice ai ins.length ci) (Mc.doIt m ins op rd rs1 rs2 n st) W' := by
  obtain ⟨h, hI, hT, hin, hl, d0, s1, s2, hn⟩ := hpre
  have HA := hid (h.grown (World.grownBy_alloc W (.cells #[.int .i64 op, .int .i64 rd, .int .i64 rs1, .int .i64 rs2, .int .i64 n] 86) none))
  have NE := hid (show W.heap.size ≠ b from fun e => by have := h.blk.lt; omega)
  have IC := hid (insC W (.int .i64 op) (.int .i64 rd) (.int .i64 rs1) (.int .i64 rs2) (.int .i64 n))
  have r1 := hid (fun W hW => register_any' W0 b g (.slice ai ins.length ci) st vd vo rs1 W hW s1.1 s1.2)
  have r2 := hid (fun W hW => register_any' W0 b g (.slice ai ins.length ci) st vd vo rs2 W hW s2.1 s2.2)
  have q1 := reg_range h.ok rs1
  have q2 := reg_range h.ok rs2
  have hp := h.ok.pc
  obtain ⟨X, hX⟩ : ∃ X, X = Mc.doIt m ins op rd rs1 rs2 n st := ⟨_, rfl⟩
  rw [← hX]
  have RX := hid hX
  clear hX
  unfold insV
  subst hop
  replace RX := hid (show X = Mc.jump rd (st.pc + n) st from RX.out)
  have y : IntKind.i64.wrap (st.pc + n) = st.pc + n := IntWalk.i64_in _ ⟨by omega, by omega⟩
  have cJ := hid (fun W hW => jump_any W0 b g (.slice ai ins.length ci) st vd vo rd (st.pc + n) W hW d0.1 d0.2)
  clear h hI hT hin
  go_enter Tryd.func40, Tryd.ntmps40
  go_wp2_with fail
  generalize W.alloc (.cells #[.int .i64 3, .int .i64 rd, .int .i64 rs1, .int .i64 rs2, .int .i64 n] 86) = V at *
  generalize W.heap.size = ib at *
  obtain ⟨i0, i1, i2, i3, i4⟩ := IC.out
  refine (r1.out _ HA.out).mono ?_
  rintro e V1 ⟨rfl, hV⟩
  subst hV
  go_wp2_with fail
  refine (r2.out _ HA.out).mono ?_
  rintro e V1 ⟨rfl, hV⟩
  subst hV
  have HD := hid (HA.out.grown (grown_drewN (World.grownBy.refl _ none) 1))
  have c35 := HA.out.c.2.2.2.1
  go_wp2
  go_region_with (first | (go_at_call 53; refine (cJ.out _ HD.out).mono ?_; rintro e w' ⟨rfl, h2⟩))
  all_goals
    have H2 := hid h2
    clear h2
    go_wp2
    go_end0
    rw [RX.out]
    exact ⟨rfl, _, _, H2.out⟩

set_option maxRecDepth 100000 in
set_option maxHeartbeats 8000000 in
theorem do_lw (W0 : World) (b g : Nat) (ai : Option Addr) (ci : Nat) (ins : List Int) (st : Mc.St) (vd vo : Value) (m : Im.Img) (op rd rs1 rs2 n : Int) (W : World) (hpre : DoPre W0 b g ai ci ins st vd vo m rd rs1 rs2 n W) (hop : op = 11) :
    Calls Tryd.prog 40 #[.pointer (some ⟨b, 0, none⟩), insV op rd rs1 rs2 n] W fun e W' => e = .returned (.tuple #[]) ∧ DoesR W0 b g (.slice ai ins.length ci) (Mc.doIt m ins op rd rs1 rs2 n st) W' := by
  obtain ⟨h, hI, hT, hin, hl, d0, s1, s2, hn⟩ := hpre
  have HA := hid (h.grown (World.grownBy_alloc W (.cells #[.int .i64 op, .int .i64 rd, .int .i64 rs1, .int .i64 rs2, .int .i64 n] 86) none))
  have NE := hid (show W.heap.size ≠ b from fun e => by have := h.blk.lt; omega)
  have IC := hid (insC W (.int .i64 op) (.int .i64 rd) (.int .i64 rs1) (.int .i64 rs2) (.int .i64 n))
  have r1 := hid (fun W hW => register_any' W0 b g (.slice ai ins.length ci) st vd vo rs1 W hW s1.1 s1.2)
  have r2 := hid (fun W hW => register_any' W0 b g (.slice ai ins.length ci) st vd vo rs2 W hW s2.1 s2.2)
  have q1 := reg_range h.ok rs1
  have q2 := reg_range h.ok rs2
  have hp := h.ok.pc
  obtain ⟨X, hX⟩ : ∃ X, X = Mc.doIt m ins op rd rs1 rs2 n st := ⟨_, rfl⟩
  rw [← hX]
  have RX := hid hX
  clear hX
  unfold insV
  subst hop
  replace RX := hid (show X = Mc.load m rd (Mc.wd (Mc.reg st rs1 + n)) st from RX.out)
  generalize Mc.reg st rs1 = a at *
  have x : IntKind.i64.wrap (a + n) = a + n := IntWalk.i64_in _ ⟨by omega, by omega⟩
  have cW := hid (fun W => mWord_any (a + n) W)
  have wr := Mc.wd_range (a + n)
  have cL := hid (fun W hW => mLoad_any W0 b g (.slice ai ins.length ci) st vd vo m rd (Mc.wd (a + n)) W hW hI hT wr.1 wr.2 d0.1 d0.2)
  clear h hI hT hin
  go_enter Tryd.func40, Tryd.ntmps40
  go_wp2_with fail
  generalize W.alloc (.cells #[.int .i64 11, .int .i64 rd, .int .i64 rs1, .int .i64 rs2, .int .i64 n] 86) = V at *
  generalize W.heap.size = ib at *
  obtain ⟨i0, i1, i2, i3, i4⟩ := IC.out
  refine (r1.out _ HA.out).mono ?_
  rintro e V1 ⟨rfl, hV⟩
  subst hV
  go_wp2_with fail
  refine (r2.out _ HA.out).mono ?_
  rintro e V1 ⟨rfl, hV⟩
  subst hV
  have HD := hid (HA.out.grown (grown_drewN (World.grownBy.refl _ none) 1))
  have c35 := HA.out.c.2.2.2.1
  go_wp2
  go_region_with (first | (go_at_call 38; refine (cW.out _).mono ?_; rintro e w' ⟨rfl, rfl⟩) | (go_at_call 56; refine (cL.out _ HD.out).mono ?_; rintro e w' ⟨rfl, h2⟩))
  all_goals
    have H2 := hid h2
    clear h2
    go_wp2
    go_end0
    rw [RX.out]
    exact ⟨rfl, H2.out⟩

end Go.Proofs.YtaiplongpjimnaaDoor

namespace Go.Proofs.YtaiplongpjimnaaDoor
open Go.RowKit

set_option maxRecDepth 100000 in
set_option maxHeartbeats 8000000 in
theorem do_br5 (W0 : World) (b g : Nat) (ai : Option Addr) (ci : Nat) (ins : List Int) (st : Mc.St) (vd vo : Value) (m : Im.Img) (op rd rs1 rs2 n : Int) (W : World) (hpre : DoPre W0 b g ai ci ins st vd vo m rd rs1 rs2 n W) (hop : op = 5) :
    Calls Tryd.prog 40 #[.pointer (some ⟨b, 0, none⟩), insV op rd rs1 rs2 n] W fun e W' => e = .returned (.tuple #[]) ∧ DoesR W0 b g (.slice ai ins.length ci) (Mc.doIt m ins op rd rs1 rs2 n st) W' := by
  obtain ⟨h, hI, hT, hin, hl, d0, s1, s2, hn⟩ := hpre
  have HA := hid (h.grown (World.grownBy_alloc W (.cells #[.int .i64 op, .int .i64 rd, .int .i64 rs1, .int .i64 rs2, .int .i64 n] 86) none))
  have NE := hid (show W.heap.size ≠ b from fun e => by have := h.blk.lt; omega)
  have IC := hid (insC W (.int .i64 op) (.int .i64 rd) (.int .i64 rs1) (.int .i64 rs2) (.int .i64 n))
  have r1 := hid (fun W hW => register_any' W0 b g (.slice ai ins.length ci) st vd vo rs1 W hW s1.1 s1.2)
  have r2 := hid (fun W hW => register_any' W0 b g (.slice ai ins.length ci) st vd vo rs2 W hW s2.1 s2.2)
  have q1 := reg_range h.ok rs1
  have q2 := reg_range h.ok rs2
  have hp := h.ok.pc
  obtain ⟨X, hX⟩ : ∃ X, X = Mc.doIt m ins op rd rs1 rs2 n st := ⟨_, rfl⟩
  rw [← hX]
  have RX := hid hX
  clear hX
  unfold insV
  subst hop
  replace RX := hid (show X = Mc.branch (Mc.holds 5 (Mc.reg st rs1) (Mc.reg st rs2)) n st from RX.out)
  generalize Mc.reg st rs1 = a at *
  generalize Mc.reg st rs2 = bb at *
  have cH := hid (fun W => holds_any 5 a bb W q1.1 q1.2 q2.1 q2.2 (by omega))
  have cB := hid (fun t W hW => branch_any' W0 b g (.slice ai ins.length ci) st vd vo t n W hW (by omega) (by omega))
  clear h hI hT hin
  go_enter Tryd.func40, Tryd.ntmps40
  go_wp2_with fail
  generalize W.alloc (.cells #[.int .i64 5, .int .i64 rd, .int .i64 rs1, .int .i64 rs2, .int .i64 n] 86) = V at *
  generalize W.heap.size = ib at *
  obtain ⟨i0, i1, i2, i3, i4⟩ := IC.out
  refine (r1.out _ HA.out).mono ?_
  rintro e V1 ⟨rfl, hV⟩
  subst hV
  go_wp2_with fail
  refine (r2.out _ HA.out).mono ?_
  rintro e V1 ⟨rfl, hV⟩
  subst hV
  have HD := hid (HA.out.grown (grown_drewN (World.grownBy.refl _ none) 1))
  have c35 := HA.out.c.2.2.2.1
  go_wp2
  go_region_with (first | (go_at_call 55; refine (cH.out _).mono ?_; rintro e w' ⟨rfl, rfl⟩) | (go_at_call 54; refine (cB.out _ _ HD.out).mono ?_; rintro e w' ⟨rfl, h2⟩))
  all_goals
    have H2 := hid h2
    clear h2
    go_wp2
    go_end0
    rw [RX.out]
    exact ⟨rfl, _, _, H2.out⟩

set_option maxRecDepth 100000 in
set_option maxHeartbeats 8000000 in
theorem do_br6 (W0 : World) (b g : Nat) (ai : Option Addr) (ci : Nat) (ins : List Int) (st : Mc.St) (vd vo : Value) (m : Im.Img) (op rd rs1 rs2 n : Int) (W : World) (hpre : DoPre W0 b g ai ci ins st vd vo m rd rs1 rs2 n W) (hop : op = 6) :
    Calls Tryd.prog 40 #[.pointer (some ⟨b, 0, none⟩), insV op rd rs1 rs2 n] W fun e W' => e = .returned (.tuple #[]) ∧ DoesR W0 b g (.slice ai ins.length ci) (Mc.doIt m ins op rd rs1 rs2 n st) W' := by
  obtain ⟨h, hI, hT, hin, hl, d0, s1, s2, hn⟩ := hpre
  have HA := hid (h.grown (World.grownBy_alloc W (.cells #[.int .i64 op, .int .i64 rd, .int .i64 rs1, .int .i64 rs2, .int .i64 n] 86) none))
  have NE := hid (show W.heap.size ≠ b from fun e => by have := h.blk.lt; omega)
  have IC := hid (insC W (.int .i64 op) (.int .i64 rd) (.int .i64 rs1) (.int .i64 rs2) (.int .i64 n))
  have r1 := hid (fun W hW => register_any' W0 b g (.slice ai ins.length ci) st vd vo rs1 W hW s1.1 s1.2)
  have r2 := hid (fun W hW => register_any' W0 b g (.slice ai ins.length ci) st vd vo rs2 W hW s2.1 s2.2)
  have q1 := reg_range h.ok rs1
  have q2 := reg_range h.ok rs2
  have hp := h.ok.pc
  obtain ⟨X, hX⟩ : ∃ X, X = Mc.doIt m ins op rd rs1 rs2 n st := ⟨_, rfl⟩
  rw [← hX]
  have RX := hid hX
  clear hX
  unfold insV
  subst hop
  replace RX := hid (show X = Mc.branch (Mc.holds 6 (Mc.reg st rs1) (Mc.reg st rs2)) n st from RX.out)
  generalize Mc.reg st rs1 = a at *
  generalize Mc.reg st rs2 = bb at *
  have cH := hid (fun W => holds_any 6 a bb W q1.1 q1.2 q2.1 q2.2 (by omega))
  have cB := hid (fun t W hW => branch_any' W0 b g (.slice ai ins.length ci) st vd vo t n W hW (by omega) (by omega))
  clear h hI hT hin
  go_enter Tryd.func40, Tryd.ntmps40
  go_wp2_with fail
  generalize W.alloc (.cells #[.int .i64 6, .int .i64 rd, .int .i64 rs1, .int .i64 rs2, .int .i64 n] 86) = V at *
  generalize W.heap.size = ib at *
  obtain ⟨i0, i1, i2, i3, i4⟩ := IC.out
  refine (r1.out _ HA.out).mono ?_
  rintro e V1 ⟨rfl, hV⟩
  subst hV
  go_wp2_with fail
  refine (r2.out _ HA.out).mono ?_
  rintro e V1 ⟨rfl, hV⟩
  subst hV
  have HD := hid (HA.out.grown (grown_drewN (World.grownBy.refl _ none) 1))
  have c35 := HA.out.c.2.2.2.1
  go_wp2
  go_region_with (first | (go_at_call 55; refine (cH.out _).mono ?_; rintro e w' ⟨rfl, rfl⟩) | (go_at_call 54; refine (cB.out _ _ HD.out).mono ?_; rintro e w' ⟨rfl, h2⟩))
  all_goals
    have H2 := hid h2
    clear h2
    go_wp2
    go_end0
    rw [RX.out]
    exact ⟨rfl, _, _, H2.out⟩

set_option maxRecDepth 100000 in
set_option maxHeartbeats 8000000 in
theorem do_br7 (W0 : World) (b g : Nat) (ai : Option Addr) (ci : Nat) (ins : List Int) (st : Mc.St) (vd vo : Value) (m : Im.Img) (op rd rs1 rs2 n : Int) (W : World) (hpre : DoPre W0 b g ai ci ins st vd vo m rd rs1 rs2 n W) (hop : op = 7) :
    Calls Tryd.prog 40 #[.pointer (some ⟨b, 0, none⟩), insV op rd rs1 rs2 n] W fun e W' => e = .returned (.tuple #[]) ∧ DoesR W0 b g (.slice ai ins.length ci) (Mc.doIt m ins op rd rs1 rs2 n st) W' := by
  obtain ⟨h, hI, hT, hin, hl, d0, s1, s2, hn⟩ := hpre
  have HA := hid (h.grown (World.grownBy_alloc W (.cells #[.int .i64 op, .int .i64 rd, .int .i64 rs1, .int .i64 rs2, .int .i64 n] 86) none))
  have NE := hid (show W.heap.size ≠ b from fun e => by have := h.blk.lt; omega)
  have IC := hid (insC W (.int .i64 op) (.int .i64 rd) (.int .i64 rs1) (.int .i64 rs2) (.int .i64 n))
  have r1 := hid (fun W hW => register_any' W0 b g (.slice ai ins.length ci) st vd vo rs1 W hW s1.1 s1.2)
  have r2 := hid (fun W hW => register_any' W0 b g (.slice ai ins.length ci) st vd vo rs2 W hW s2.1 s2.2)
  have q1 := reg_range h.ok rs1
  have q2 := reg_range h.ok rs2
  have hp := h.ok.pc
  obtain ⟨X, hX⟩ : ∃ X, X = Mc.doIt m ins op rd rs1 rs2 n st := ⟨_, rfl⟩
  rw [← hX]
  have RX := hid hX
  clear hX
  unfold insV
  subst hop
  replace RX := hid (show X = Mc.branch (Mc.holds 7 (Mc.reg st rs1) (Mc.reg st rs2)) n st from RX.out)
  generalize Mc.reg st rs1 = a at *
  generalize Mc.reg st rs2 = bb at *
  have cH := hid (fun W => holds_any 7 a bb W q1.1 q1.2 q2.1 q2.2 (by omega))
  have cB := hid (fun t W hW => branch_any' W0 b g (.slice ai ins.length ci) st vd vo t n W hW (by omega) (by omega))
  clear h hI hT hin
  go_enter Tryd.func40, Tryd.ntmps40
  go_wp2_with fail
  generalize W.alloc (.cells #[.int .i64 7, .int .i64 rd, .int .i64 rs1, .int .i64 rs2, .int .i64 n] 86) = V at *
  generalize W.heap.size = ib at *
  obtain ⟨i0, i1, i2, i3, i4⟩ := IC.out
  refine (r1.out _ HA.out).mono ?_
  rintro e V1 ⟨rfl, hV⟩
  subst hV
  go_wp2_with fail
  refine (r2.out _ HA.out).mono ?_
  rintro e V1 ⟨rfl, hV⟩
  subst hV
  have HD := hid (HA.out.grown (grown_drewN (World.grownBy.refl _ none) 1))
  have c35 := HA.out.c.2.2.2.1
  go_wp2
  go_region_with (first | (go_at_call 55; refine (cH.out _).mono ?_; rintro e w' ⟨rfl, rfl⟩) | (go_at_call 54; refine (cB.out _ _ HD.out).mono ?_; rintro e w' ⟨rfl, h2⟩))
  all_goals
    have H2 := hid h2
    clear h2
    go_wp2
    go_end0
    rw [RX.out]
    exact ⟨rfl, _, _, H2.out⟩

set_option maxRecDepth 100000 in
set_option maxHeartbeats 8000000 in
theorem do_br8 (W0 : World) (b g : Nat) (ai : Option Addr) (ci : Nat) (ins : List Int) (st : Mc.St) (vd vo : Value) (m : Im.Img) (op rd rs1 rs2 n : Int) (W : World) (hpre : DoPre W0 b g ai ci ins st vd vo m rd rs1 rs2 n W) (hop : op = 8) :
    Calls Tryd.prog 40 #[.pointer (some ⟨b, 0, none⟩), insV op rd rs1 rs2 n] W fun e W' => e = .returned (.tuple #[]) ∧ DoesR W0 b g (.slice ai ins.length ci) (Mc.doIt m ins op rd rs1 rs2 n st) W' := by
  obtain ⟨h, hI, hT, hin, hl, d0, s1, s2, hn⟩ := hpre
  have HA := hid (h.grown (World.grownBy_alloc W (.cells #[.int .i64 op, .int .i64 rd, .int .i64 rs1, .int .i64 rs2, .int .i64 n] 86) none))
  have NE := hid (show W.heap.size ≠ b from fun e => by have := h.blk.lt; omega)
  have IC := hid (insC W (.int .i64 op) (.int .i64 rd) (.int .i64 rs1) (.int .i64 rs2) (.int .i64 n))
  have r1 := hid (fun W hW => register_any' W0 b g (.slice ai ins.length ci) st vd vo rs1 W hW s1.1 s1.2)
  have r2 := hid (fun W hW => register_any' W0 b g (.slice ai ins.length ci) st vd vo rs2 W hW s2.1 s2.2)
  have q1 := reg_range h.ok rs1
  have q2 := reg_range h.ok rs2
  have hp := h.ok.pc
  obtain ⟨X, hX⟩ : ∃ X, X = Mc.doIt m ins op rd rs1 rs2 n st := ⟨_, rfl⟩
  rw [← hX]
  have RX := hid hX
  clear hX
  unfold insV
  subst hop
  replace RX := hid (show X = Mc.branch (Mc.holds 8 (Mc.reg st rs1) (Mc.reg st rs2)) n st from RX.out)
  generalize Mc.reg st rs1 = a at *
  generalize Mc.reg st rs2 = bb at *
  have cH := hid (fun W => holds_any 8 a bb W q1.1 q1.2 q2.1 q2.2 (by omega))
  have cB := hid (fun t W hW => branch_any' W0 b g (.slice ai ins.length ci) st vd vo t n W hW (by omega) (by omega))
  clear h hI hT hin
  go_enter Tryd.func40, Tryd.ntmps40
  go_wp2_with fail
  generalize W.alloc (.cells #[.int .i64 8, .int .i64 rd, .int .i64 rs1, .int .i64 rs2, .int .i64 n] 86) = V at *
  generalize W.heap.size = ib at *
  obtain ⟨i0, i1, i2, i3, i4⟩ := IC.out
  refine (r1.out _ HA.out).mono ?_
  rintro e V1 ⟨rfl, hV⟩
  subst hV
  go_wp2_with fail
  refine (r2.out _ HA.out).mono ?_
  rintro e V1 ⟨rfl, hV⟩
  subst hV
  have HD := hid (HA.out.grown (grown_drewN (World.grownBy.refl _ none) 1))
  have c35 := HA.out.c.2.2.2.1
  go_wp2
  go_region_with (first | (go_at_call 55; refine (cH.out _).mono ?_; rintro e w' ⟨rfl, rfl⟩) | (go_at_call 54; refine (cB.out _ _ HD.out).mono ?_; rintro e w' ⟨rfl, h2⟩))
  all_goals
    have H2 := hid h2
    clear h2
    go_wp2
    go_end0
    rw [RX.out]
    exact ⟨rfl, _, _, H2.out⟩

set_option maxRecDepth 100000 in
set_option maxHeartbeats 8000000 in
theorem do_br9 (W0 : World) (b g : Nat) (ai : Option Addr) (ci : Nat) (ins : List Int) (st : Mc.St) (vd vo : Value) (m : Im.Img) (op rd rs1 rs2 n : Int) (W : World) (hpre : DoPre W0 b g ai ci ins st vd vo m rd rs1 rs2 n W) (hop : op = 9) :
    Calls Tryd.prog 40 #[.pointer (some ⟨b, 0, none⟩), insV op rd rs1 rs2 n] W fun e W' => e = .returned (.tuple #[]) ∧ DoesR W0 b g (.slice ai ins.length ci) (Mc.doIt m ins op rd rs1 rs2 n st) W' := by
  obtain ⟨h, hI, hT, hin, hl, d0, s1, s2, hn⟩ := hpre
  have HA := hid (h.grown (World.grownBy_alloc W (.cells #[.int .i64 op, .int .i64 rd, .int .i64 rs1, .int .i64 rs2, .int .i64 n] 86) none))
  have NE := hid (show W.heap.size ≠ b from fun e => by have := h.blk.lt; omega)
  have IC := hid (insC W (.int .i64 op) (.int .i64 rd) (.int .i64 rs1) (.int .i64 rs2) (.int .i64 n))
  have r1 := hid (fun W hW => register_any' W0 b g (.slice ai ins.length ci) st vd vo rs1 W hW s1.1 s1.2)
  have r2 := hid (fun W hW => register_any' W0 b g (.slice ai ins.length ci) st vd vo rs2 W hW s2.1 s2.2)
  have q1 := reg_range h.ok rs1
  have q2 := reg_range h.ok rs2
  have hp := h.ok.pc
  obtain ⟨X, hX⟩ : ∃ X, X = Mc.doIt m ins op rd rs1 rs2 n st := ⟨_, rfl⟩
  rw [← hX]
  have RX := hid hX
  clear hX
  unfold insV
  subst hop
  replace RX := hid (show X = Mc.branch (Mc.holds 9 (Mc.reg st rs1) (Mc.reg st rs2)) n st from RX.out)
  generalize Mc.reg st rs1 = a at *
  generalize Mc.reg st rs2 = bb at *
  have cH := hid (fun W => holds_any 9 a bb W q1.1 q1.2 q2.1 q2.2 (by omega))
  have cB := hid (fun t W hW => branch_any' W0 b g (.slice ai ins.length ci) st vd vo t n W hW (by omega) (by omega))
  clear h hI hT hin
  go_enter Tryd.func40, Tryd.ntmps40
  go_wp2_with fail
  generalize W.alloc (.cells #[.int .i64 9, .int .i64 rd, .int .i64 rs1, .int .i64 rs2, .int .i64 n] 86) = V at *
  generalize W.heap.size = ib at *
  obtain ⟨i0, i1, i2, i3, i4⟩ := IC.out
  refine (r1.out _ HA.out).mono ?_
  rintro e V1 ⟨rfl, hV⟩
  subst hV
  go_wp2_with fail
  refine (r2.out _ HA.out).mono ?_
  rintro e V1 ⟨rfl, hV⟩
  subst hV
  have HD := hid (HA.out.grown (grown_drewN (World.grownBy.refl _ none) 1))
  have c35 := HA.out.c.2.2.2.1
  go_wp2
  go_region_with (first | (go_at_call 55; refine (cH.out _).mono ?_; rintro e w' ⟨rfl, rfl⟩) | (go_at_call 54; refine (cB.out _ _ HD.out).mono ?_; rintro e w' ⟨rfl, h2⟩))
  all_goals
    have H2 := hid h2
    clear h2
    go_wp2
    go_end0
    rw [RX.out]
    exact ⟨rfl, _, _, H2.out⟩

set_option maxRecDepth 100000 in
set_option maxHeartbeats 8000000 in
theorem do_br10 (W0 : World) (b g : Nat) (ai : Option Addr) (ci : Nat) (ins : List Int) (st : Mc.St) (vd vo : Value) (m : Im.Img) (op rd rs1 rs2 n : Int) (W : World) (hpre : DoPre W0 b g ai ci ins st vd vo m rd rs1 rs2 n W) (hop : op = 10) :
    Calls Tryd.prog 40 #[.pointer (some ⟨b, 0, none⟩), insV op rd rs1 rs2 n] W fun e W' => e = .returned (.tuple #[]) ∧ DoesR W0 b g (.slice ai ins.length ci) (Mc.doIt m ins op rd rs1 rs2 n st) W' := by
  obtain ⟨h, hI, hT, hin, hl, d0, s1, s2, hn⟩ := hpre
  have HA := hid (h.grown (World.grownBy_alloc W (.cells #[.int .i64 op, .int .i64 rd, .int .i64 rs1, .int .i64 rs2, .int .i64 n] 86) none))
  have NE := hid (show W.heap.size ≠ b from fun e => by have := h.blk.lt; omega)
  have IC := hid (insC W (.int .i64 op) (.int .i64 rd) (.int .i64 rs1) (.int .i64 rs2) (.int .i64 n))
  have r1 := hid (fun W hW => register_any' W0 b g (.slice ai ins.length ci) st vd vo rs1 W hW s1.1 s1.2)
  have r2 := hid (fun W hW => register_any' W0 b g (.slice ai ins.length ci) st vd vo rs2 W hW s2.1 s2.2)
  have q1 := reg_range h.ok rs1
  have q2 := reg_range h.ok rs2
  have hp := h.ok.pc
  obtain ⟨X, hX⟩ : ∃ X, X = Mc.doIt m ins op rd rs1 rs2 n st := ⟨_, rfl⟩
  rw [← hX]
  have RX := hid hX
  clear hX
  unfold insV
  subst hop
  replace RX := hid (show X = Mc.branch (Mc.holds 10 (Mc.reg st rs1) (Mc.reg st rs2)) n st from RX.out)
  generalize Mc.reg st rs1 = a at *
  generalize Mc.reg st rs2 = bb at *
  have cH := hid (fun W => holds_any 10 a bb W q1.1 q1.2 q2.1 q2.2 (by omega))
  have cB := hid (fun t W hW => branch_any' W0 b g (.slice ai ins.length ci) st vd vo t n W hW (by omega) (by omega))
  clear h hI hT hin
  go_enter Tryd.func40, Tryd.ntmps40
  go_wp2_with fail
  generalize W.alloc (.cells #[.int .i64 10, .int .i64 rd, .int .i64 rs1, .int .i64 rs2, .int .i64 n] 86) = V at *
  generalize W.heap.size = ib at *
  obtain ⟨i0, i1, i2, i3, i4⟩ := IC.out
  refine (r1.out _ HA.out).mono ?_
  rintro e V1 ⟨rfl, hV⟩
  subst hV
  go_wp2_with fail
  refine (r2.out _ HA.out).mono ?_
  rintro e V1 ⟨rfl, hV⟩
  subst hV
  have HD := hid (HA.out.grown (grown_drewN (World.grownBy.refl _ none) 1))
  have c35 := HA.out.c.2.2.2.1
  go_wp2
  go_region_with (first | (go_at_call 55; refine (cH.out _).mono ?_; rintro e w' ⟨rfl, rfl⟩) | (go_at_call 54; refine (cB.out _ _ HD.out).mono ?_; rintro e w' ⟨rfl, h2⟩))
  all_goals
    have H2 := hid h2
    clear h2
    go_wp2
    go_end0
    rw [RX.out]
    exact ⟨rfl, _, _, H2.out⟩

end Go.Proofs.YtaiplongpjimnaaDoor
