/- Walks over the document's machine: a run. -/
/- Walks: Run of a machine. -/
/- Walks over the law: runs. -/
/- Walks over package image: regionsFit. -/
/- Walks over package image: valid, Read; Load. -/
import Derived.Test.YtaiplongpjimnaaDoorG13
import Derived.Laws.AppendOwnNone
import Derived.Deep.CutRange
import Derived.Test.YtaiplongpjimnaaDoorG10
import Derived.Test.YtaiplongpjimnaaDoorG03
import Derived.Test.YtaiplongpjimnaaDoorG02
import Derived.Deep.RegionWith
namespace Go.Proofs.YtaiplongpjimnaaDoor
open Go.RowKit

theorem RImgAt.start {W : World} {g : Nat} {m : Im.Img} (h : RImgAt W g m) : W.cell? ⟨g, 0, none⟩ = some (.int .i64 m.start) := by
  obtain ⟨vt, vf, vd, hb, -⟩ := h
  exact hb.cell 0

def zero32 : Array Value := #[.int .i64 0, .int .i64 0, .int .i64 0, .int .i64 0, .int .i64 0, .int .i64 0, .int .i64 0, .int .i64 0, .int .i64 0, .int .i64 0, .int .i64 0, .int .i64 0, .int .i64 0, .int .i64 0, .int .i64 0, .int .i64 0, .int .i64 0, .int .i64 0, .int .i64 0, .int .i64 0, .int .i64 0, .int .i64 0, .int .i64 0, .int .i64 0, .int .i64 0, .int .i64 0, .int .i64 0, .int .i64 0, .int .i64 0, .int .i64 0, .int .i64 0, .int .i64 0]
theorem mk32 (w : World) : (Instr.makeSlice 22 (.int .i64 32) (.int .i64 32)).run Tryd.prog w = .ok (.slice (some ⟨w.heap.size, 0, none⟩) 32 32) (w.alloc (.cells zero32 3)) := by kernel_rfl
theorem own32 (w : World) (B : Nat) (hB : B ≤ w.heap.size) : (w.alloc (.cells zero32 3)).ownsRow B 3 1 (.slice (some ⟨w.heap.size, 0, none⟩) 32 32) 32 ((List.replicate 32 0).map (Value.int .i64)) :=
  ⟨rfl, .inr ⟨w.heap.size, 32, zero32, rfl, hB, BlkAt.new w zero32 3, by decide, by decide, rfl, rfl⟩⟩

/-- append(s, xs...) where xs is a row that lies somewhere -/
theorem wp_append_row {P : Program} (w : World) {o : Oper} {a : Act} {K : Act → World → Prop} {Q : Exit → Act → World → Prop} (s x : Operand) (t : TypeId)
    (ho : o.op = .call { callee := .builtin .append, args := #[s, x], argTypes := #[t, t] })
    (base : Nat) (i : TypeInfo) (ht : P.underlying t = some (.slice 3)) (hi : P.info? 3 = some i) (hz : i.zero = some (.int .i64 0))
    (hsize : i.size = 1) (hby : i.bytes = 8)
    (v : Value) (n : Nat) (xs : List Value) (hs : a.eval s = v) (hown : w.ownsRow base 3 1 v n xs)
    (vx : Value) (B : Nat) (ws : List Int) (hx : a.eval x = vx) (hw : w.ownsRow B 3 1 vx ws.length (ws.map (Value.int .i64)))
    (h63 : n + ws.length ≤ 1048576) (hbase : base ≤ w.heap.size)
    (h : ∀ v' w', w'.ownsRow base 3 1 v' (n + ws.length) (xs ++ ws.map (Value.int .i64)) → w.grownBy w' v.ownBlock → (v'.ownBlock = v.ownBlock ∨ v'.ownBlock = some w.heap.size) → K (a.put o.dst v') w') : o.wp P a w K Q := by
  rcases hw.2 with ⟨h1, h2⟩ | ⟨g', cap', cur, hv, hb, hg, h3, h4, h5, h6⟩
  · have hw0 : ws = [] := by have := hw.1; rw [h2] at this; exact List.length_eq_zero_iff.1 h2
    subst hw0
    have hrun := run_append_owned_none (P := P) (w := w) base t o.type 3 i 1 ht hi v n xs hown
    have hx' : a.eval x = .slice none 0 0 := by rw [hx]; exact h1
    have h' := h v w (by simpa using hown) ⟨rfl, rfl, rfl, Nat.le_refl _, fun _ _ _ => rfl⟩ (.inl rfl)
    unfold Oper.wp
    simp [execOp, ho, resolve, invoke, builtin, hs, hx', hrun, Result.andThen]
    exact h'
  · have hnews : ∀ j u, (ws.map (Value.int .i64))[j]? = some u → w.cell? ((⟨g', 0, none⟩ : Addr).add j) = some u := by
      intro j u hu
      have e : (⟨g', 0, none⟩ : Addr).add j = ⟨g', j, none⟩ := by
        unfold Addr.add
        by_cases h0 : j = 0
        · subst h0; simp
        · simp [h0]
      rw [e, (show BlkAt w g' cur 3 from hg).cell j]
      have hj : j < ws.length := by
        have := (List.getElem?_eq_some_iff.1 hu).1
        simpa using this
      rw [← h6, List.getElem?_take] at hu
      simpa [hj] using hu
    obtain ⟨v', w', hr, k2, k3, -, k5⟩ := run_append_own_at (P := P) w base t o.type 3 i (.int .i64 0) 1 8 ht hi hz hsize hby rfl (by decide) v n xs hown ⟨g', 0, none⟩ ws.length cap' (ws.map (Value.int .i64)) (by simp) hnews (by intro u hu; simp at hu; obtain ⟨y, _, rfl⟩ := hu; rfl) (by unfold maxLen; omega) (by omega) hbase
    have hx' : a.eval x = .slice (some ⟨g', 0, none⟩) ws.length cap' := by rw [hx]; exact hv
    unfold Oper.wp execOp
    simp only [ho, resolve, invoke, builtin, Sem.run_bind, Sem.run_pure, Result.andThen_ok, List.map_toArray, List.map_cons, List.map_nil, hs, hx', hr]
    exact h v' w' k2 k3 k5

section
variable {W0 U w3 : World} {b g : Nat} {vin vr v' : Value} {st : Mc.St} {l : List Int}
/-- the data laid beside an empty machine -/
theorem StAt.putMem (h : StAt W0 b g vin { st with data := [] } vr (.slice none 0 0) (.slice none 0 0) U) (hok : Mc.Ok { st with data := l }) (ho : st.out = []) (hown : w3.ownsRow W0.heap.size 3 1 v' l.length (l.map (Value.int .i64))) (hg : U.grownBy w3 none) (hb : v'.ownBlock = none ∨ v'.ownBlock = some U.heap.size) :
    StAt W0 b g vin { st with data := l } vr v' (.slice none 0 0) (w3.setCell ⟨b, 3, none⟩ v') := by
  have hlt := h.blk.lt
  have hv : ∀ k, v'.ownBlock = some k → k = U.heap.size := fun k e => by
    rcases hb with hb | hb
    · rw [e] at hb; cases hb
    · rw [e] at hb; simpa using hb
  have hr := h.regs.kept hg (by cases hv : vr.ownBlock <;> simp)
  refine ⟨?_, own_other hr (fun k e => (h.apr k e).1), own_other hown (fun k e => by have := hv k e; omega), ?_, fun k e => ⟨(h.apr k e).1, fun c => ?_, by simp [Value.ownBlock]⟩, fun k e => ⟨by have := hv k e; omega, by simp [Value.ownBlock]⟩, fun k e => by simp [Value.ownBlock] at e, h.lo, ?_, hok⟩
  · have := (h.blk.grown hg (by simp)).set 3 v'
    rw [List.setIfInBounds_toArray] at this
    exact this
  · show World.ownsRow _ _ _ _ _ st.out.length (st.out.map _)
    rw [ho]
    exact World.ownsRow_nil _ _ _ _
  · have := hv k c
    have := (h.regs.lt k e).2
    omega
  · exact grown_hi (grown_trans h.gr hg) (grown_set w3 b 3 v') (by intro k e; simp at e; have := h.lo; omega)
end
theorem start_at (W0 : World) (g : Nat) (vin : Value) (m : Im.Img) (hok : Mc.Ok { Mc.start m with data := [] }) :
    StAt W0 (W0.heap.size + 1) g vin { Mc.start m with data := [] } (.slice (some ⟨W0.heap.size, 0, none⟩) 32 32) (.slice none 0 0) (.slice none 0 0) ((W0.alloc (.cells zero32 3)).alloc (.cells #[.pointer (some ⟨g, 0, none⟩), .slice (some ⟨W0.heap.size, 0, none⟩) 32 32, .int .i64 m.start, .slice none 0 0, vin, .int .i64 0, .int .i64 0, .slice none 0 0, .int .i64 0, .int .i64 0] 57)) := by
  have hsz : (W0.alloc (.cells zero32 3)).heap.size = W0.heap.size + 1 := Array.size_push _
  refine ⟨?_, (own32 W0 W0.heap.size (Nat.le_refl _)).alloc _, World.ownsRow_nil _ _ _ _, World.ownsRow_nil _ _ _ _, fun k e => ?_, fun k e => by simp [Value.ownBlock] at e, fun k e => by simp [Value.ownBlock] at e, by omega, grown_trans (World.grownBy_alloc _ _ none) (World.grownBy_alloc _ _ none), hok⟩
  · have := BlkAt.new (W0.alloc (.cells zero32 3)) (stL g vin { Mc.start m with data := [] } (.slice (some ⟨W0.heap.size, 0, none⟩) 32 32) (.slice none 0 0) (.slice none 0 0)).toArray 57
    rw [hsz] at this
    exact this
  · simp [Value.ownBlock] at e
    subst e
    exact ⟨by omega, by simp [Value.ownBlock], by simp [Value.ownBlock]⟩
def stepsIn (b : Nat) (W : World) : Nat := match W.cell? ⟨b, 8, none⟩ with
  | some (.int .i64 n) => n.toNat
  | _ => 0
theorem StAt.stepsIn {W0 W : World} {b g : Nat} {vin vr vd vo : Value} {st : Mc.St} (h : StAt W0 b g vin st vr vd vo W) : Proofs.YtaiplongpjimnaaDoor.stepsIn b W = st.steps := by
  unfold Proofs.YtaiplongpjimnaaDoor.stepsIn
  rw [h.cells 8]
  simp [stL]

/-- the same in all that is told -/
def SR (a b : Mc.St) : Prop := a.ende = b.ende ∧ a.code = b.code ∧ a.out = b.out ∧ a.steps = b.steps ∧ a.read = b.read
theorem SR.of {s t : Mc.St} (h : Mc.Same s t) (hs : s.steps = t.steps) : SR t s := ⟨h.ende.symm, h.code.symm, h.out.symm, hs.symm, h.read.symm⟩
theorem SR.trans {a b c : Mc.St} (h : SR a b) (k : SR b c) : SR a c := ⟨h.1.trans k.1, h.2.1.trans k.2.1, h.2.2.1.trans k.2.2.1, h.2.2.2.1.trans k.2.2.2.1, h.2.2.2.2.trans k.2.2.2.2⟩

set_option maxRecDepth 100000 in
set_option maxHeartbeats 8000000 in
theorem rRun_any (g : Nat) (m : Im.Img) (ai : Option Addr) (ci : Nat) (ins : List Int) (fuel : Nat) (w : World) (hI : RImgAt w g m) (hT : Im.Tame m) (hD : ∀ i, 0 ≤ m.D.getD i 0 ∧ m.D.getD i 0 < 4294967296) (hl : ins.length ≤ 16) (hf : fuel ≤ 65536) (hW : Im.Wordy m) (hin : IntsIn w ai ins) :
    Calls Tryd.prog 10 #[.pointer (some ⟨g, 0, none⟩), .slice ai ins.length ci, .int .i64 fuel] w fun e w' => RunRet w (Mc.run m ins fuel) e w' ∧ w.grownBy w' none := by
  have d1 : decide ((16 : Int) < (ins.length : Int)) = false := by simp; omega
  have d2 : decide ((fuel : Int) < 0) = false := by simp
  have d3 : decide ((65536 : Int) < (fuel : Int)) = false := by simp; omega
  have I0 := hid (hI.kept (World.grownBy_alloc w (.cells resC 30) none))
  have R0 := hid (BlkAt.new w resC 30)
  have HW0 := hid (show w.heap.size < (w.alloc (.cells resC 30)).heap.size by rw [show (w.alloc (.cells resC 30)).heap.size = w.heap.size + 1 from Array.size_push _]; omega)
  have G0 := hid (World.grownBy_alloc w (.cells resC 30) none)
  have N0 := hid (hin.kept (fun a v e => gcell e (World.grownBy_alloc w (.cells resC 30) none)))
  have HT := hid hT
  have HW := hid hW
  have OK := hid (start_ok m hT hD)
  clear hI hin
  go_enter Tryd.func10, Tryd.ntmps10
  go_upto_region 5 with fail
  unfold resC at I0 R0 G0 N0 HW0
  generalize w.alloc (.cells #[.int .i64 0, .int .i64 0, .slice none 0 0, .int .i64 0, .int .i64 0] 30) = W0 at *
  have s0 := I0.out.start
  refine wp_region_held_drew (S := (fun w' => w'.cell? ⟨g, 0, none⟩ = some (.int .i64 m.start))) (by kernel_rfl) s0 ?_
  intro hS
  refine wpAnyH_take (i := 0) (v := ?_) rfl (by kernel_rfl) (by kernel_rfl) (by kernel_rfl) (fun _ _ _ h => h) (Or.inl ⟨by kernel_rfl, ?_⟩) hS ?_
  rotate_left
  · intro w' hw'; go_simp; with_reducible rfl
  refine wpAnyH_take (i := 2) (v := ?_) rfl (by kernel_rfl) (by kernel_rfl) (by kernel_rfl) (fun _ _ _ h => h) (Or.inl ⟨by kernel_rfl, ?_⟩) hS ?_
  rotate_left
  · intro w' hw'; go_simp; with_reducible rfl
  refine wpAnyH_take (i := 3) (v := ?_) rfl (by kernel_rfl) (by kernel_rfl) (by kernel_rfl) (fun _ _ _ h => h) (Or.inl ⟨by kernel_rfl, ?_⟩) hS ?_
  rotate_left
  · intro w' hw'; go_simp; with_reducible rfl
  refine wpAnyH_take (i := 4) (v := ?_) rfl (by kernel_rfl) (by kernel_rfl) (by kernel_rfl) (fun _ _ _ h => h) (Or.inl ⟨by kernel_rfl, ?_⟩) hS ?_
  rotate_left
  · intro w' hw'; go_simp; with_reducible rfl
  refine wpAnyH_take (i := 5) (v := ?_) rfl (by kernel_rfl) (by kernel_rfl) (by kernel_rfl) (fun _ _ _ h => h) (Or.inl ⟨by kernel_rfl, ?_⟩) hS ?_
  rotate_left
  · intro w' hw'; go_simp; with_reducible rfl
  refine wpAnyH_take (i := 6) (v := ?_) rfl (by kernel_rfl) (by kernel_rfl) (by kernel_rfl) (fun _ _ _ h => h) (Or.inl ⟨by kernel_rfl, ?_⟩) hS ?_
  rotate_left
  · intro w' hw'; go_simp; with_reducible rfl
  refine wpAnyH_ready (rs := [1]) (by kernel_rfl) (by simp) ?_
  refine AllReadyH.cons rfl (fun K hK => ?_) AllReadyH.nil
  go_simp
  have hmk := mk32 W0.drew
  rw [show Sem.run Tryd.prog (Instr.makeSlice 22 (.int .i64 32) (.int .i64 32)) W0.drew = _ from hmk]
  go_simp
  have z0 := gcell s0 (grown_trans (grown_drewN (World.grownBy.refl W0 none) 1) (World.grownBy_alloc W0.drew (.cells zero32 3) none))
  refine hK.out _ _ z0 (fun hS2 => ?_)
  clear hK K
  refine wpAnyH_take (i := 7) (v := ?_) rfl (by kernel_rfl) (by kernel_rfl) (by kernel_rfl) (fun _ _ _ h => h) (Or.inl ⟨by kernel_rfl, ?_⟩) hS2 ?_
  rotate_left
  · intro w' hw'; go_simp; with_reducible rfl
  refine wpAnyH_ready (rs := [8]) (by kernel_rfl) (by simp) ?_
  refine AllReadyH.cons rfl (fun K hK => ?_) AllReadyH.nil
  go_simp
  have OK0 : Mc.Ok { Mc.start m with data := [] } := ⟨OK.out.regs, OK.out.words, OK.out.zero, by simp, fun i => by simp, OK.out.pc, OK.out.next, OK.out.out, OK.out.steps, OK.out.read⟩
  have HS : Hid (StAt W0 (W0.heap.size + 1) g (.slice ai ins.length ci) { Mc.start m with data := [] } (.slice (some ⟨W0.heap.size, 0, none⟩) 32 32) (.slice none 0 0) (.slice none 0 0) (((W0.alloc (.cells zero32 3)).alloc (.cells #[.pointer (some ⟨g, 0, none⟩), .slice (some ⟨W0.heap.size, 0, none⟩) 32 32, .int .i64 m.start, .slice none 0 0, .slice ai ins.length ci, .int .i64 0, .int .i64 0, .slice none 0 0, .int .i64 0, .int .i64 0] 57)).drew)) := (start_at W0 g (.slice ai ins.length ci) m OK0).grown (grown_drewN (World.grownBy.refl _ none) 1)
  clear OK0
  refine hK.out _ _ (I0.out.kept HS.out.gr).start (fun hS3 => ?_)
  clear hK K
  refine wpAnyH_take (i := 9) (v := ?_) rfl (by kernel_rfl) (by kernel_rfl) (by kernel_rfl) (fun _ _ _ h => h) (Or.inl ⟨by kernel_rfl, ?_⟩) hS3 ?_
  rotate_left
  · intro w' hw'; go_simp; with_reducible rfl
  refine wpAnyH_done (by kernel_rfl) ?_ _
  try simp only [Act.put, List.getElem_toArray, List.getElem_cons_succ, List.getElem_cons_zero]
  clear hS3 hS2 hS z0 hmk s0
  generalize ((W0.alloc (.cells zero32 3)).alloc (.cells #[.pointer (some ⟨g, 0, none⟩), .slice (some ⟨W0.heap.size, 0, none⟩) 32 32, .int .i64 m.start, .slice none 0 0, .slice ai ins.length ci, .int .i64 0, .int .i64 0, .slice none 0 0, .int .i64 0, .int .i64 0] 57)).drew = U at *
  generalize hbb : W0.heap.size + 1 = b at *
  have HBB := hid hbb
  clear hbb
  obtain ⟨i0, hi, hz0, hz1, hz2⟩ := info_parts Tryd.infoInt
  obtain ⟨vt, vf, vD, hB, -, -, q3⟩ := I0.out.kept HS.out.gr
  have k6 := hB.cell 6
  simp only [List.getElem?_toArray, List.getElem?_cons_succ, List.getElem?_cons_zero] at k6
  have HB := hid hB
  have c3 : U.cell? ⟨b, 3, none⟩ = some (.slice none 0 0) := HS.out.cells 3
  have f3 := HS.out.free 3
  obtain ⟨aD, cD, rfl⟩ := own_form q3
  have Q3 := hid q3
  have hlD := HT.out.lens.2.2
  have hnD := HT.out.noughts
  have hsD : (m.D ++ List.replicate m.noughts.toNat (0 : Int)).length = m.D.length + m.noughts.toNat := by simp
  have HSD := hid hsD
  clear q3 hB hsD
  go_wp2
  refine wp_region_held_drew (S := (fun w' => w'.cell? ⟨g, 6, none⟩ = some (.slice aD (m.D.length + m.noughts.toNat) cD))) (by kernel_rfl) k6 ?_
  intro hS
  refine wpAnyH_take (i := 0) (v := ?_) rfl (by kernel_rfl) (by kernel_rfl) (by kernel_rfl) (fun _ _ _ h => h) (Or.inl ⟨by kernel_rfl, ?_⟩) hS ?_
  rotate_left
  · intro w' hw'; go_simp; with_reducible rfl
  refine wpAnyH_take (i := 1) (v := ?_) rfl (by kernel_rfl) (by kernel_rfl) (by kernel_rfl) (fun _ _ _ h => h) (Or.inl ⟨by kernel_rfl, ?_⟩) hS ?_
  rotate_left
  · intro w' hw'; go_simp; with_reducible rfl
  refine wpAnyH_take (i := 2) (v := ?_) rfl (by kernel_rfl) (by kernel_rfl) (by kernel_rfl) (fun _ _ _ h => h) (Or.inl ⟨by kernel_rfl, ?_⟩) hS ?_
  rotate_left
  · intro w' hw'; go_simp; with_reducible rfl
  refine wpAnyH_take (i := 3) (v := ?_) rfl (by kernel_rfl) (by kernel_rfl) (by kernel_rfl) (fun _ _ _ h => h) (Or.inl ⟨by kernel_rfl, ?_⟩) hS ?_
  rotate_left
  · intro w' hw'; go_simp; with_reducible rfl
  refine wpAnyH_take (i := 5) (v := ?_) rfl (by kernel_rfl) (by kernel_rfl) (by kernel_rfl) (fun _ _ _ h => h) (Or.inl ⟨by kernel_rfl, ?_⟩) hS ?_
  rotate_left
  · intro w' hw'; go_simp; with_reducible rfl
  refine wpAnyH_take (i := 6) (v := ?_) rfl (by kernel_rfl) (by kernel_rfl) (by kernel_rfl) (fun _ _ _ h => h) (Or.inl ⟨by kernel_rfl, ?_⟩) hS ?_
  rotate_left
  · intro w' hw'; go_simp; with_reducible rfl
  refine wpAnyH_take (i := 7) (v := ?_) rfl (by kernel_rfl) (by kernel_rfl) (by kernel_rfl) (fun _ _ _ h => h) (Or.inl ⟨by kernel_rfl, ?_⟩) hS ?_
  rotate_left
  · intro w' hw'; go_simp; with_reducible rfl
  refine wpAnyH_take (i := 8) (v := ?_) rfl (by kernel_rfl) (by kernel_rfl) (by kernel_rfl) (fun _ _ _ h => h) (Or.inl ⟨by kernel_rfl, ?_⟩) hS ?_
  rotate_left
  · intro w' hw'; go_simp; with_reducible rfl
  refine wpAnyH_ready (rs := [4]) (by kernel_rfl) (by simp) ?_
  refine AllReadyH.cons rfl (fun K hK => ?_) AllReadyH.nil
  go_simp
  refine hK.out _ _ k6 (fun hS2 => ?_)
  clear hK K
  refine wpAnyH_ready (rs := [9]) (by kernel_rfl) (by simp) ?_
  refine AllReadyH.cons rfl (fun K hK => ?_) AllReadyH.nil
  rw [if_pos (by kernel_rfl)]
  refine wp_append_row _ (.tmp 33) (.tmp 37) 22 rfl W0.heap.size i0 Tryd.underlying22 hi hz0 hz1 hz2 (.slice none 0 0) 0 [] (by kernel_rfl) (World.ownsRow_nil _ _ _ _) (.slice aD (m.D.length + m.noughts.toNat) cD) 0 (m.D ++ List.replicate m.noughts.toNat 0) (by kernel_rfl) (by rw [HSD.out]; exact Q3.out) (by rw [HSD.out]; omega) HS.out.gr.size ?_
  intro v' w3 hown' hgrow hat
  have gd : U.grownBy w3 none := ⟨hgrow.os, hgrow.tape, hgrow.output, hgrow.size, hgrow.block⟩
  have hat2 : v'.ownBlock = none ∨ v'.ownBlock = some U.heap.size := hat
  rw [Nat.zero_add, List.nil_append] at hown'
  have F : Hid (StAt W0 b g (.slice ai ins.length ci) (Mc.start m) (.slice (some ⟨W0.heap.size, 0, none⟩) 32 32) v' (.slice none 0 0) (w3.setCell ⟨b, 3, none⟩ v')) := HS.out.putMem OK.out rfl hown' gd hat2
  obtain ⟨av', cv', hvv⟩ := own_form hown'
  subst hvv
  rw [HSD.out] at F
  have n6 := gcell k6 gd
  have n3 := gcell c3 gd
  have m3 := (HS.out.blk.grown gd (by simp)).free 3
  have hgb : g ≠ b := by have h1 := HB.out; have h2 := HS.out.blk; intro e; rw [e] at h1; have := h1.symm.trans h2; simp at this
  clear hown' hgrow hat hat2 gd HB
  refine hK.out _ _ n6 (fun hS4 => ?_)
  clear hK K
  refine wpAnyH_take (i := 10) (v := ?_) rfl (by kernel_rfl) (by kernel_rfl) (by kernel_rfl) (fun _ _ _ h => h) (Or.inl ⟨by kernel_rfl, ?_⟩) hS4 ?_
  rotate_left
  · intro w' hw'; go_simp; with_reducible rfl
  refine wpAnyH_take (i := 11) (v := ?_) rfl (by kernel_rfl) (by kernel_rfl) (by kernel_rfl) (fun _ _ _ h => h) (Or.inl ⟨by kernel_rfl, ?_⟩) hS4 ?_
  rotate_left
  · intro w' hw'; go_simp; with_reducible rfl
  refine wpAnyH_ready (rs := [12]) (by kernel_rfl) (by simp) ?_
  refine AllReadyH.cons rfl (fun K hK => ?_) AllReadyH.nil
  go_simp
  refine hK.out _ _ ?_ (fun hS5 => ?_)
  · exact (World.cell?_of_block (Below.heap_setCell w3 ⟨b, 3, none⟩ _ g (by simp; omega))).trans n6
  clear hK K
  refine wpAnyH_done (by kernel_rfl) ?_ _
  try simp only [Act.put, List.getElem_toArray, List.getElem_cons_succ, List.getElem_cons_zero]
  clear hS5 hS4 hS2 hS n6 n3 m3 k6 c3 f3 HS Q3
  generalize World.setCell _ _ _ = U2 at *
  go_wp2
  go_loopw [] (fun wr => ∃ (st : Mc.St) (vr vd vo : Value) (k : Nat), StAt W0 b g (.slice ai ins.length ci) st vr vd vo wr ∧ SR (Mc.steps m ins fuel fuel (Mc.start m)) (Mc.steps m ins fuel k st) ∧ fuel ≤ st.steps + k ∧ st.steps ≤ fuel) (fun wr => fuel - stepsIn b wr)
  case atStart => exact ⟨Mc.start m, _, _, _, fuel, F.out, ⟨rfl, rfl, rfl, rfl, rfl⟩, by omega, Nat.zero_le _⟩
  case round =>
    obtain ⟨st, vr, vd, vo, k, hr, he, hk, hs⟩ := hrel
    have H := hid hr
    have HE := hid he
    clear hr he F
    have c5 : wr.cell? ⟨b, 5, none⟩ = some (.int .i64 st.ende) := H.out.cells 5
    have c8 : wr.cell? ⟨b, 8, none⟩ = some (.int .i64 st.steps) := H.out.cells 8
    by_cases e0 : st.ende = 0
    · have q0 : (st.ende == 0) = true := by simpa using e0
      by_cases hlt : st.steps < fuel
      · have q1 : decide ((st.steps : Int) < (fuel : Int)) = true := by simp; omega
        obtain ⟨k', rfl⟩ : ∃ k', k = k' + 1 := ⟨k - 1, by omega⟩
        have M := hid (steps_more m ins fuel k' st ⟨e0, hlt⟩)
        have SS := hid (step_steps m ins st)
        have PO := hid H.out.stepsIn
        go_wp2_with fail
        refine (rTick_any W0 b g ai ci ins st vr vd vo m wr H.out I0.out HT.out HW.out N0.out hl).mono ?_
        rintro e V ⟨rfl, s2, vr2, vd2, vo2, h2, h3, h4⟩
        have H2 := hid h2
        have H3 := hid h3
        have d8 : V.cell? ⟨b, 8, none⟩ = some (.int .i64 s2.steps) := H2.out.cells 8
        rw [h4] at d8
        have f8 := H2.out.free 8
        have H4 := hid h4
        clear h2 h3 h4 c5 c8
        go_wp2
        have FS := hid (H2.out.putSteps (st.steps + 1) (by omega))
        have SE := hid (show SR (Mc.steps m ins fuel fuel (Mc.start m)) (Mc.steps m ins fuel k' { s2 with steps := st.steps + 1 }) by
          have q := HE.out
          rw [M.out] at q
          obtain ⟨a, c⟩ := Mc.same_steps m ins fuel k' { s2 with steps := st.steps + 1 } (Mc.step m ins st) ⟨H3.out.regs, H3.out.data, H3.out.ende, H3.out.code, H3.out.out, H3.out.read, H3.out.pc⟩ SS.out.symm
          exact q.trans (SR.of a c))
        go_roundw
        case rel => exact ⟨{ s2 with steps := st.steps + 1 }, vr2, vd2, vo2, k', FS.out, SE.out, by show fuel ≤ st.steps + 1 + k'; omega, by show st.steps + 1 ≤ fuel; omega⟩
        case measure => rw [PO.out, show ((st.steps : Int) + 1) = ((st.steps + 1 : Nat) : Int) from by simp, FS.out.stepsIn]; show fuel - (st.steps + 1) < fuel - st.steps; omega
      · have q1 : decide ((st.steps : Int) < (fuel : Int)) = false := by simp; omega
        have RU := hid (show SR (Mc.run m ins fuel) { st with ende := 7 } by
          have q := HE.out
          rw [steps_end m ins fuel k st (fun c => hlt c.2)] at q
          unfold Mc.run
          dsimp only
          rw [if_pos (q.1.trans e0)]
          exact ⟨rfl, q.2⟩)
        obtain ⟨ao, co, hvo⟩ := own_form H.out.out
        subst hvo
        have RBk := hid (R0.out.grown H.out.gr (by simp))
        have hw0 : w.heap.size < W0.heap.size := HW0.out
        have hbw : b ≠ w.heap.size := by have := H.out.lo; omega
        have hwb : w.heap.size ≠ b := fun e => hbw e.symm
        have x0 := RBk.out.cell 0
        have x1 := RBk.out.cell 1
        have x2 := RBk.out.cell 2
        have x3 := RBk.out.cell 3
        have x4 := RBk.out.cell 4
        simp only [List.getElem?_toArray, List.getElem?_cons_succ, List.getElem?_cons_zero] at x0 x1 x2 x3 x4
        have y0 := RBk.out.free 0
        have y1 := RBk.out.free 1
        have y2 := RBk.out.free 2
        have y3 := RBk.out.free 3
        have y4 := RBk.out.free 4
        have c6 : wr.cell? ⟨b, 6, none⟩ = some (.int .i64 st.code) := H.out.cells 6
        have c7 : wr.cell? ⟨b, 7, none⟩ = some (.slice ao st.out.length co) := H.out.cells 7
        have c9 : wr.cell? ⟨b, 9, none⟩ = some (.int .i64 st.read) := H.out.cells 9
        have f5 := H.out.free 5
        go_wp2
        have HF := hid (H.out.putEnd 7)
        have RF := res_fin (w := w) (.int .i64 7) (.int .i64 st.code) (.slice ao st.out.length co) (.int .i64 st.steps) (.int .i64 st.read) (RBk.out.grown (grown_set wr b 5 (.int .i64 7)) (by simp; omega)) (Nat.le_refl _) (grown_trans G0.out HF.out.gr) HF.out.out (fun j e => by have := (HF.out.out.lt j e).1; omega)
        have h0 := RF.1.cell 0
        have h1 := RF.1.cell 1
        have h2 := RF.1.cell 2
        have h3 := RF.1.cell 3
        have h4 := RF.1.cell 4
        simp only [List.getElem?_toArray, List.getElem?_cons_succ, List.getElem?_cons_zero] at h0 h1 h2 h3 h4
        refine bodyPost_ret (v := .tuple #[.agg #[.int .i64 7, .int .i64 st.code, .slice ao st.out.length co, .int .i64 st.steps, .int .i64 st.read], .int .i64 0]) ?_ rfl ⟨⟨.slice ao st.out.length co, by rw [RU.out.1, RU.out.2.1, RU.out.2.2.2.1, RU.out.2.2.2.2], by rw [RU.out.2.2.1]; exact own_base RF.2.2 (Nat.le_of_lt hw0)⟩, RF.2.1⟩
        clear RF HF x0 x1 x2 x3 x4 y0 y1 y2 y3 y4 c5 c6 c7 c8 c9 f5
        generalize World.setCell _ _ _ = WF at *
        simp [results, Tryd.results10, go_sem, h0, h1, h2, h3, h4]
    · have q0 : (st.ende == 0) = false := by simpa using e0
      have RU := hid (show SR (Mc.run m ins fuel) st by
          have q := HE.out
          rw [steps_end m ins fuel k st (fun c => e0 c.1)] at q
          unfold Mc.run
          dsimp only
          rw [if_neg (fun c => e0 (q.1.symm.trans c))]
          exact q)
      obtain ⟨ao, co, hvo⟩ := own_form H.out.out
      subst hvo
      have RBk := hid (R0.out.grown H.out.gr (by simp))
      have hw0 : w.heap.size < W0.heap.size := HW0.out
      have hbw : b ≠ w.heap.size := by have := H.out.lo; omega
      have hwb : w.heap.size ≠ b := fun e => hbw e.symm
      have x0 := RBk.out.cell 0
      have x1 := RBk.out.cell 1
      have x2 := RBk.out.cell 2
      have x3 := RBk.out.cell 3
      have x4 := RBk.out.cell 4
      simp only [List.getElem?_toArray, List.getElem?_cons_succ, List.getElem?_cons_zero] at x0 x1 x2 x3 x4
      have y0 := RBk.out.free 0
      have y1 := RBk.out.free 1
      have y2 := RBk.out.free 2
      have y3 := RBk.out.free 3
      have y4 := RBk.out.free 4
      have c6 : wr.cell? ⟨b, 6, none⟩ = some (.int .i64 st.code) := H.out.cells 6
      have c7 : wr.cell? ⟨b, 7, none⟩ = some (.slice ao st.out.length co) := H.out.cells 7
      have c9 : wr.cell? ⟨b, 9, none⟩ = some (.int .i64 st.read) := H.out.cells 9
      have f5 := H.out.free 5
      go_wp2
      have HF := hid H.out
      have RF := res_fin (w := w) (.int .i64 st.ende) (.int .i64 st.code) (.slice ao st.out.length co) (.int .i64 st.steps) (.int .i64 st.read) RBk.out (Nat.le_refl _) (grown_trans G0.out HF.out.gr) HF.out.out (fun j e => by have := (HF.out.out.lt j e).1; omega)
      have h0 := RF.1.cell 0
      have h1 := RF.1.cell 1
      have h2 := RF.1.cell 2
      have h3 := RF.1.cell 3
      have h4 := RF.1.cell 4
      simp only [List.getElem?_toArray, List.getElem?_cons_succ, List.getElem?_cons_zero] at h0 h1 h2 h3 h4
      refine bodyPost_ret (v := .tuple #[.agg #[.int .i64 st.ende, .int .i64 st.code, .slice ao st.out.length co, .int .i64 st.steps, .int .i64 st.read], .int .i64 0]) ?_ rfl ⟨⟨.slice ao st.out.length co, by rw [RU.out.1, RU.out.2.1, RU.out.2.2.2.1, RU.out.2.2.2.2], by rw [RU.out.2.2.1]; exact own_base RF.2.2 (Nat.le_of_lt hw0)⟩, RF.2.1⟩
      clear RF HF x0 x1 x2 x3 x4 y0 y1 y2 y3 y4 c5 c6 c7 c8 c9 f5
      generalize World.setCell _ _ _ = WF at *
      simp [results, Tryd.results10, go_sem, h0, h1, h2, h3, h4]

end Go.Proofs.YtaiplongpjimnaaDoor

namespace Go.Proofs.YtaiplongpjimnaaDoor
open Go.RowKit

set_option maxRecDepth 100000 in
set_option maxHeartbeats 4000000 in
theorem linkRun_told (x g : Nat) (m : Im.Img) (ai : Option Addr) (ci : Nat) (ins : List Int) (fuel : Int) (w : World) (hx : w.cell? ⟨x, 0, none⟩ = some (.pointer (some ⟨g, 0, none⟩))) (hI : ImgAt w g m) (hT : Im.Tame m) (hD : ∀ i, 0 ≤ m.D.getD i 0 ∧ m.D.getD i 0 < 4294967296) (hW : Im.Wordy m) (hin : IntsIn w ai ins) (ht : Tabs w) :
    Calls Tryd.prog 9 #[.pointer (some ⟨x, 0, none⟩), .slice ai ins.length ci, .int .i64 fuel] w fun e w' => RunTold w m ins fuel e w' ∧ w.grownBy w' none := by
  have G0 := hid (World.grownBy_alloc w (.cells resC 30) none)
  have R0 := hid (BlkAt.new w resC 30)
  have hsz : (w.alloc (.cells resC 30)).heap.size = w.heap.size + 1 := Array.size_push _
  have SZ := hid hsz
  have c0 := gcell hx G0.out
  have cR := hid (mRun_told g m ai ci ins fuel (w.alloc (.cells resC 30)) (hI.kept G0.out) hT hD hW (hin.kept (fun a v e => gcell e G0.out)) (ht.grown G0.out))
  unfold resC at G0 R0 c0 cR SZ
  clear hx hI hin ht hsz
  go_enter Tryd.func9, Tryd.ntmps9
  go_wp2_with fail
  refine cR.out.mono ?_
  rintro e V ⟨ht, hg⟩
  have G1 := hid (grown_trans G0.out hg)
  have RV := hid (R0.out.grown hg (by simp))
  have x0 := RV.out.cell 0
  have x1 := RV.out.cell 1
  have x2 := RV.out.cell 2
  have x3 := RV.out.cell 3
  have x4 := RV.out.cell 4
  simp only [List.getElem?_toArray, List.getElem?_cons_succ, List.getElem?_cons_zero] at x0 x1 x2 x3 x4
  have y0 := RV.out.free 0
  have y1 := RV.out.free 1
  have y2 := RV.out.free 2
  have y3 := RV.out.free 3
  have y4 := RV.out.free 4
  clear hg cR c0
  rcases ht with ⟨h1, rfl⟩ | ⟨h1, h2, rfl⟩ | ⟨h1, h2, h3, vo, rfl, ho⟩
  · have H1 := hid h1
    clear h1
    unfold resZ
    go_wp2
    have RF := res_fin (w := w) (.int .i64 0) (.int .i64 0) (.slice none 0 0) (.int .i64 0) (.int .i64 0) RV.out (Nat.le_refl _) G1.out (World.ownsRow_nil V 0 3 1) (by simp [Value.ownBlock])
    have h0 := RF.1.cell 0
    have h1 := RF.1.cell 1
    have h2 := RF.1.cell 2
    have h3 := RF.1.cell 3
    have h4 := RF.1.cell 4
    simp only [List.getElem?_toArray, List.getElem?_cons_succ, List.getElem?_cons_zero] at h0 h1 h2 h3 h4
    refine bodyPost_ret (v := .tuple #[resZ, .int .i64 40]) ?_ rfl ⟨.inl ⟨H1.out, rfl⟩, RF.2.1⟩
    clear RF x0 x1 x2 x3 x4 y0 y1 y2 y3 y4
    generalize World.setCell _ _ _ = WF at *
    simp [results, Tryd.results9, go_sem, resZ, h0, h1, h2, h3, h4]
  · have H1 := hid h1
    have H2 := hid h2
    clear h1 h2
    unfold resZ
    go_wp2
    have RF := res_fin (w := w) (.int .i64 0) (.int .i64 0) (.slice none 0 0) (.int .i64 0) (.int .i64 0) RV.out (Nat.le_refl _) G1.out (World.ownsRow_nil V 0 3 1) (by simp [Value.ownBlock])
    have h0 := RF.1.cell 0
    have h1 := RF.1.cell 1
    have h2 := RF.1.cell 2
    have h3 := RF.1.cell 3
    have h4 := RF.1.cell 4
    simp only [List.getElem?_toArray, List.getElem?_cons_succ, List.getElem?_cons_zero] at h0 h1 h2 h3 h4
    refine bodyPost_ret (v := .tuple #[resZ, .int .i64 41]) ?_ rfl ⟨.inr (.inl ⟨H1.out, H2.out, rfl⟩), RF.2.1⟩
    clear RF x0 x1 x2 x3 x4 y0 y1 y2 y3 y4
    generalize World.setCell _ _ _ = WF at *
    simp [results, Tryd.results9, go_sem, resZ, h0, h1, h2, h3, h4]
  · have H1 := hid (And.intro h1 (And.intro h2 h3))
    clear h1 h2 h3
    obtain ⟨ao, co, rfl⟩ := own_form ho
    have HO := hid ho
    clear ho
    go_wp2
    have RF := res_fin (w := w) (.int .i64 (Mc.run m ins fuel.toNat).ende) (.int .i64 (Mc.run m ins fuel.toNat).code) (.slice ao (Mc.run m ins fuel.toNat).out.length co) (.int .i64 (Mc.run m ins fuel.toNat).steps) (.int .i64 (Mc.run m ins fuel.toNat).read) RV.out (Nat.le_refl _) G1.out HO.out (fun j e => by have := (HO.out.lt j e).1; have := SZ.out; omega)
    have h0 := RF.1.cell 0
    have h1 := RF.1.cell 1
    have h2 := RF.1.cell 2
    have h3 := RF.1.cell 3
    have h4 := RF.1.cell 4
    simp only [List.getElem?_toArray, List.getElem?_cons_succ, List.getElem?_cons_zero] at h0 h1 h2 h3 h4
    refine bodyPost_ret (v := .tuple #[.agg #[.int .i64 (Mc.run m ins fuel.toNat).ende, .int .i64 (Mc.run m ins fuel.toNat).code, .slice ao (Mc.run m ins fuel.toNat).out.length co, .int .i64 (Mc.run m ins fuel.toNat).steps, .int .i64 (Mc.run m ins fuel.toNat).read], .int .i64 0]) ?_ rfl ⟨.inr (.inr ⟨H1.out.1, H1.out.2.1, H1.out.2.2, _, rfl, own_base RF.2.2 (Nat.le_trans (Nat.le_succ _) (Nat.le_of_eq SZ.out.symm))⟩), RF.2.1⟩
    clear RF x0 x1 x2 x3 x4 y0 y1 y2 y3 y4
    generalize World.setCell _ _ _ = WF at *
    simp [results, Tryd.results9, go_sem, h0, h1, h2, h3, h4]

end Go.Proofs.YtaiplongpjimnaaDoor

namespace Go.Proofs.YtaiplongpjimnaaDoor
open Go.RowKit

theorem cell_drewM (w : World) (n : Nat) (a : Addr) : (w.drewN n).cell? a = w.cell? a := by
  induction n generalizing w with
  | zero => rfl
  | succ n ih => exact ih w.drew

set_option maxHeartbeats 2000000 in
theorem sameRun_yes (ao bo : Option Addr) (ca cb : Nat) (xs : List Int) (w : World) (h1 : IntsIn w ao xs) (h2 : IntsIn w bo xs) (hn : xs.length ≤ 1048576) :
    Calls Tryd.prog 6 #[.slice ao xs.length ca, .slice bo xs.length cb] w fun e w' => e = .returned (.bool true) ∧ ∃ n, w' = w.drewN n := by
  have H1 := hid h1
  have H2 := hid h2
  clear h1 h2
  go_enter Tryd.func6, Tryd.ntmps6
  go_wp2
  go_loopw [5] (fun i wr => ∃ k : Nat, k ≤ xs.length ∧ i = .int .i64 k ∧ ∃ n, wr = w.drewN n) (fun i _ => xs.length - (intOf i).toNat)
  case atStart => exact ⟨0, Nat.zero_le _, rfl, 0, rfl⟩
  case round =>
    obtain ⟨k, hk, rfl, n, rfl⟩ := hrel
    by_cases hlt : k < xs.length
    · have hlt' : (k : Int) < (xs.length : Int) := by omega
      obtain ⟨g1, o1, he1, hc1⟩ := H1.out (by omega)
      obtain ⟨g2, o2, he2, hc2⟩ := H2.out (by omega)
      subst he1 he2
      have k1 := hc1 k hlt
      have k2 := hc2 k hlt
      rw [← cell_drewM w n] at k1 k2
      clear hc1 hc2
      have HD := hid (fun m => World.drewN_drewN w n m)
      generalize w.drewN n = V at *
      generalize xs[k] = x at *
      go_wp2
      go_quiet (fail)
      go_wp2
      go_roundw
      case rel => exact ⟨k + 1, by omega, by go_num, _, HD.out _⟩
      case measure => simp [intOf]; omega
    · go_wp2
      go_ret
      exact ⟨rfl, n, rfl⟩

set_option maxRecDepth 100000 in
set_option maxHeartbeats 2000000 in
theorem rRun_in (g : Nat) (ai : Option Addr) (n ci : Nat) (fuel : Int) (w : World) (hl : 16 < n) :
    Calls Tryd.prog 10 #[.pointer (some ⟨g, 0, none⟩), .slice ai n ci, .int .i64 fuel] w fun e w' => e = .returned (.tuple #[resZ, .int .i64 40]) ∧ w.grownBy w' none := by
  have d1 : decide ((16 : Int) < (n : Int)) = true := by simp; omega
  go_enter Tryd.func10, Tryd.ntmps10
  go_wp2
  refine bodyPost_ret (v := .tuple #[resZ, .int .i64 40]) ?_ rfl ⟨rfl, World.grownBy_alloc w (.cells resC 30) none⟩
  simp [results, Tryd.results10, go_sem, resZ]

set_option maxRecDepth 100000 in
set_option maxHeartbeats 2000000 in
theorem rRun_fuel (g : Nat) (ai : Option Addr) (n ci : Nat) (fuel : Int) (w : World) (hl : n ≤ 16) (hf : fuel < 0 ∨ 65536 < fuel) :
    Calls Tryd.prog 10 #[.pointer (some ⟨g, 0, none⟩), .slice ai n ci, .int .i64 fuel] w fun e w' => e = .returned (.tuple #[resZ, .int .i64 41]) ∧ w.grownBy w' none := by
  have d1 : decide ((16 : Int) < (n : Int)) = false := by simp; omega
  by_cases h0 : fuel < 0
  · have d2 : decide (fuel < 0) = true := by simpa using h0
    clear hf h0
    go_enter Tryd.func10, Tryd.ntmps10
    go_wp2
    refine bodyPost_ret (v := .tuple #[resZ, .int .i64 41]) ?_ rfl ⟨rfl, World.grownBy_alloc w (.cells resC 30) none⟩
    simp [results, Tryd.results10, go_sem, resZ]
  · have d2 : decide (fuel < 0) = false := by simpa using h0
    have d3 : decide ((65536 : Int) < fuel) = true := by simp; omega
    clear hf h0
    go_enter Tryd.func10, Tryd.ntmps10
    go_wp2
    refine bodyPost_ret (v := .tuple #[resZ, .int .i64 41]) ?_ rfl ⟨rfl, World.grownBy_alloc w (.cells resC 30) none⟩
    simp [results, Tryd.results10, go_sem, resZ]

theorem rRun_told (g : Nat) (m : Im.Img) (ai : Option Addr) (ci : Nat) (ins : List Int) (fuel : Int) (w : World) (hI : RImgAt w g m) (hT : Im.Tame m) (hD : ∀ i, 0 ≤ m.D.getD i 0 ∧ m.D.getD i 0 < 4294967296) (hW : Im.Wordy m) (hin : IntsIn w ai ins) :
    Calls Tryd.prog 10 #[.pointer (some ⟨g, 0, none⟩), .slice ai ins.length ci, .int .i64 fuel] w fun e w' => RunTold w m ins fuel e w' ∧ w.grownBy w' none := by
  by_cases hl : 16 < ins.length
  · exact (rRun_in g ai ins.length ci fuel w hl).mono fun e w' k => ⟨.inl ⟨hl, k.1⟩, k.2⟩
  by_cases hf : fuel < 0 ∨ 65536 < fuel
  · exact (rRun_fuel g ai ins.length ci fuel w (by omega) hf).mono fun e w' k => ⟨.inr (.inl ⟨by omega, hf, k.1⟩), k.2⟩
  · obtain ⟨k, rfl⟩ := Int.eq_ofNat_of_zero_le (show 0 ≤ fuel by omega)
    exact (rRun_any g m ai ci ins k w hI hT hD (by omega) (by omega) hW hin).mono fun e w' q => ⟨.inr (.inr ⟨by omega, by omega, by omega, q.1⟩), q.2⟩

theorem words_getD (l : List UInt8) (p n i : Nat) : 0 ≤ (Im.words l p n).getD i 0 ∧ (Im.words l p n).getD i 0 < 4294967296 := by
  rw [List.getD_eq_getElem?_getD]
  by_cases h : i < (Im.words l p n).length
  · rw [List.getElem?_eq_getElem h]
    have hm : (Im.words l p n)[i] ∈ (List.range n).map (fun i => atL l (p + 4 * i) 4) := List.getElem_mem h
    obtain ⟨j, -, hj⟩ := List.mem_map.1 hm
    rw [Option.getD_some, ← hj]
    exact four_range l _
  · rw [List.getElem?_eq_none (by omega)]
    decide
theorem imgOf_words (l : List UInt8) : Im.Wordy (Im.imgOf l) ∧ ∀ i, 0 ≤ (Im.imgOf l).D.getD i 0 ∧ (Im.imgOf l).D.getD i 0 < 4294967296 :=
  ⟨⟨fun i => words_getD _ _ _ i, fun i => words_getD _ _ _ i⟩, fun i => words_getD _ _ _ i⟩

namespace Mc
/-- what is told of a run, whatever is handed in -/
def toldE (ins : List Int) (fuel : Int) : Int := if 16 < ins.length then 40 else if fuel < 0 ∨ 65536 < fuel then 41 else 0
def toldS (m : Im.Img) (ins : List Int) (fuel : Int) : St := if 16 < ins.length ∨ fuel < 0 ∨ 65536 < fuel then ⟨[], [], 0, 0, 0, 0, [], 0, 0⟩ else run m ins fuel.toNat
end Mc
def Told5 (W0 : World) (s : Mc.St) (er : Int) (e : Ending) (w' : World) : Prop :=
  ∃ ao co, e = .returned (.tuple #[.agg #[.int .i64 s.ende, .int .i64 s.code, .slice ao s.out.length co, .int .i64 s.steps, .int .i64 s.read], .int .i64 er]) ∧ w'.ownsRow W0.heap.size 3 1 (.slice ao s.out.length co) s.out.length (s.out.map (Value.int .i64))
theorem RunTold.five {W0 : World} {m : Im.Img} {ins : List Int} {fuel : Int} {e : Ending} {w' : World} (h : RunTold W0 m ins fuel e w') : Told5 W0 (Mc.toldS m ins fuel) (Mc.toldE ins fuel) e w' := by
  rcases h with ⟨h1, rfl⟩ | ⟨h1, h2, rfl⟩ | ⟨h1, h2, h3, vo, rfl, ho⟩
  · unfold Mc.toldS Mc.toldE
    rw [if_pos (.inl h1), if_pos h1]
    exact ⟨none, 0, rfl, World.ownsRow_nil _ _ _ _⟩
  · unfold Mc.toldS Mc.toldE
    rw [if_pos (.inr h2), if_neg (by omega), if_pos h2]
    exact ⟨none, 0, rfl, World.ownsRow_nil _ _ _ _⟩
  · unfold Mc.toldS Mc.toldE
    rw [if_neg (by omega), if_neg (by omega), if_neg (by omega)]
    obtain ⟨ao, co, rfl⟩ := own_form ho
    exact ⟨ao, co, rfl, ho⟩

set_option maxRecDepth 100000 in
set_option maxHeartbeats 8000000 in
theorem ran_any (x g rg : Nat) (m : Im.Img) (ai ao : Option Addr) (ci co : Nat) (ins : List Int) (fuel : Int) (w : World) (hx : w.cell? ⟨x, 0, none⟩ = some (.pointer (some ⟨g, 0, none⟩))) (hI : ImgAt w g m) (hR : RImgAt w rg m) (hT : Im.Tame m) (hD : ∀ i, 0 ≤ m.D.getD i 0 ∧ m.D.getD i 0 < 4294967296) (hW : Im.Wordy m) (hin : IntsIn w ai ins) (hown : IntsIn w ao ins) (ht : Tabs w) (hol : (Mc.toldS m ins fuel).out.length ≤ 1048576) :
    Calls Tryd.prog 5 #[.agg #[.pointer (some ⟨x, 0, none⟩), .pointer (some ⟨rg, 0, none⟩)], .slice ao ins.length co, .slice ai ins.length ci, .int .i64 fuel] w fun e w' => (∃ (z1 z2 : Int) (zo : Option Addr) (zn zc : Nat) (z3 z4 : Int), e = .returned (.tuple #[.agg #[.int .i64 z1, .int .i64 z2, .slice zo zn zc, .int .i64 z3, .int .i64 z4], .bool true])) ∧ w.grownBy w' none := by
  have cR := hid (fun W (hg : w.grownBy W none) => (linkRun_told x g m ao co ins fuel W (gcell hx hg) (hI.kept hg) hT hD hW (hown.kept (fun a v e => gcell e hg)) (ht.grown hg)).mono fun e w' k => And.intro k.1.five k.2)
  have cQ := hid (fun W (hg : w.grownBy W none) => (rRun_told rg m ai ci ins fuel W (hR.kept hg) hT hD hW (hin.kept (fun a v e => gcell e hg))).mono fun e w' k => And.intro k.1.five k.2)
  clear hx hI hR hin hown ht hT hD hW
  generalize Mc.toldS m ins fuel = S at *
  generalize Mc.toldE ins fuel = er at *
  have G1 := hid (grown_trans (World.grownBy_alloc w (.cells #[.pointer (some ⟨x, 0, none⟩), .pointer (some ⟨rg, 0, none⟩)] 26) none) (World.grownBy_alloc _ (.cells #[.int .i64 0, .int .i64 0, .slice none 0 0, .int .i64 0, .int .i64 0] 30) none))
  have hs1 : (w.alloc (.cells #[.pointer (some ⟨x, 0, none⟩), .pointer (some ⟨rg, 0, none⟩)] 26)).heap.size = w.heap.size + 1 := Array.size_push _
  have BC := hid ((BlkAt.new w #[.pointer (some ⟨x, 0, none⟩), .pointer (some ⟨rg, 0, none⟩)] 26).grown (World.grownBy_alloc _ (.cells #[.int .i64 0, .int .i64 0, .slice none 0 0, .int .i64 0, .int .i64 0] 30) none) (by simp))
  have BR := hid (BlkAt.new (w.alloc (.cells #[.pointer (some ⟨x, 0, none⟩), .pointer (some ⟨rg, 0, none⟩)] 26)) #[.int .i64 0, .int .i64 0, .slice none 0 0, .int .i64 0, .int .i64 0] 30)
  rw [hs1] at BR
  clear hs1
  go_enter Tryd.func5, Tryd.ntmps5
  go_wp2_with fail
  refine (cR.out _ G1.out).mono ?_
  rintro e V ⟨⟨a1, k1, rfl, o1⟩, hg⟩
  have G2 := hid (grown_trans G1.out hg)
  have BC2 := hid (BC.out.grown hg (by simp))
  have BR2 := hid (BR.out.grown hg (by simp))
  have O1 := hid (IntsIn.of_own o1)
  clear hg G1 BC BR cR o1
  have n0 := BC2.out.cell 1
  simp only [List.getElem?_toArray, List.getElem?_cons_succ, List.getElem?_cons_zero] at n0
  have hlt := BC2.out.lt
  go_wp2_with fail
  have A1 := hid (World.grownBy_alloc V (.cells #[.int .i64 S.ende, .int .i64 S.code, .slice a1 S.out.length k1, .int .i64 S.steps, .int .i64 S.read] 30) none)
  have B1 := hid (BlkAt.new V #[.int .i64 S.ende, .int .i64 S.code, .slice a1 S.out.length k1, .int .i64 S.steps, .int .i64 S.read] 30)
  refine (cQ.out _ (grown_trans G2.out A1.out)).mono ?_
  rintro e U ⟨⟨a2, k2, rfl, o2⟩, hg⟩
  have A2 := hid (World.grownBy_alloc U (.cells #[.int .i64 S.ende, .int .i64 S.code, .slice a2 S.out.length k2, .int .i64 S.steps, .int .i64 S.read] 30) none)
  have HG := hid (grown_trans A1.out (grown_trans hg A2.out))
  have G4 := hid (grown_trans G2.out HG.out)
  have B2 := hid (BlkAt.new U #[.int .i64 S.ende, .int .i64 S.code, .slice a2 S.out.length k2, .int .i64 S.steps, .int .i64 S.read] 30)
  have B1' := hid (B1.out.grown (grown_trans hg A2.out) (by simp))
  have BR4 := hid (BR2.out.grown HG.out (by simp))
  have O1' := hid (O1.out.kept (fun a v e => gcell e HG.out))
  have O2' := hid ((IntsIn.of_own o2).kept (fun a v e => gcell e A2.out))
  have x2 := (B1.out.grown hg (by simp)).cell 2
  have hlt1 := (B1.out.grown hg (by simp)).lt
  have hltR := BR2.out.lt
  simp only [List.getElem?_toArray, List.getElem?_cons_succ, List.getElem?_cons_zero] at x2
  have cS := hid (fun W h1 h2 => sameRun_yes a1 a2 k1 k2 S.out W h1 h2 hol)
  clear hg G2 BC2 BR2 O1 o2 cQ A1 A2 B1 HG n0 hlt
  generalize V.heap.size = R1 at *
  go_wp2_with fail
  refine (cS.out _ O1'.out O2'.out).mono ?_
  rintro e U3 ⟨rfl, n3, hU3⟩
  have G5 : Hid (w.grownBy U3 none) := by rw [hU3]; exact grown_drewN G4.out n3
  have C1 : Hid (BlkAt U3 R1 #[.int .i64 S.ende, .int .i64 S.code, .slice a1 S.out.length k1, .int .i64 S.steps, .int .i64 S.read] 30) := by rw [hU3]; exact B1'.out.drewN n3
  have C2 : Hid (BlkAt U3 U.heap.size #[.int .i64 S.ende, .int .i64 S.code, .slice a2 S.out.length k2, .int .i64 S.steps, .int .i64 S.read] 30) := by rw [hU3]; exact B2.out.drewN n3
  have CR : Hid (BlkAt U3 (w.heap.size + 1) #[.int .i64 0, .int .i64 0, .slice none 0 0, .int .i64 0, .int .i64 0] 30) := by rw [hU3]; exact BR4.out.drewN n3
  clear hU3 G4 B1' B2 BR4 O1' O2' cS x2
  generalize U.heap.size = R2 at *
  have x0 := C1.out.cell 0
  have x1 := C1.out.cell 1
  have x2 := C1.out.cell 2
  have x3 := C1.out.cell 3
  have x4 := C1.out.cell 4
  have y0 := C2.out.cell 0
  have y1 := C2.out.cell 1
  have y3 := C2.out.cell 3
  have y4 := C2.out.cell 4
  have z0 := CR.out.cell 0
  have z1 := CR.out.cell 1
  have z2 := CR.out.cell 2
  have z3 := CR.out.cell 3
  have z4 := CR.out.cell 4
  have f0 := CR.out.free 0
  have f1 := CR.out.free 1
  have f2 := CR.out.free 2
  have f3 := CR.out.free 3
  have f4 := CR.out.free 4
  simp only [List.getElem?_toArray, List.getElem?_cons_succ, List.getElem?_cons_zero] at x0 x1 x2 x3 x4 y0 y1 y3 y4 z0 z1 z2 z3 z4
  go_wp2
  have hne1 : w.heap.size + 1 ≠ R1 := by omega
  have hne2 : w.heap.size + 1 ≠ R2 := by omega
  go_region_held3 (fun w' => w'.cell? ⟨R1, 0, none⟩ = some (.int .i64 S.ende) ∧ w'.cell? ⟨R1, 1, none⟩ = some (.int .i64 S.code) ∧ w'.cell? ⟨R1, 2, none⟩ = some (.slice a1 S.out.length k1) ∧ w'.cell? ⟨R1, 3, none⟩ = some (.int .i64 S.steps) ∧ w'.cell? ⟨R1, 4, none⟩ = some (.int .i64 S.read) ∧ w'.cell? ⟨R2, 0, none⟩ = some (.int .i64 S.ende) ∧ w'.cell? ⟨R2, 1, none⟩ = some (.int .i64 S.code) ∧ w'.cell? ⟨R2, 3, none⟩ = some (.int .i64 S.steps) ∧ w'.cell? ⟨R2, 4, none⟩ = some (.int .i64 S.read))
    (go_keep)
    (fail)
  go_wp2
  have RF := res_fin (w := w) (.int .i64 S.ende) (.int .i64 S.code) (.slice a1 S.out.length k1) (.int .i64 S.steps) (.int .i64 S.read) CR.out (by omega) G5.out (World.ownsRow_nil U3 0 3 1) (by simp [Value.ownBlock])
  have h0 := (BlkAt.drew RF.1).cell 0
  have h1 := (BlkAt.drew RF.1).cell 1
  have h2 := (BlkAt.drew RF.1).cell 2
  have h3 := (BlkAt.drew RF.1).cell 3
  have h4 := (BlkAt.drew RF.1).cell 4
  simp only [List.getElem?_toArray, List.getElem?_cons_succ, List.getElem?_cons_zero] at h0 h1 h2 h3 h4
  refine bodyPost_ret (v := .tuple #[.agg #[.int .i64 S.ende, .int .i64 S.code, .slice a1 S.out.length k1, .int .i64 S.steps, .int .i64 S.read], .bool true]) ?_ rfl ⟨⟨_, _, _, _, _, _, _, rfl⟩, grown_drew RF.2.1⟩
  clear RF x0 x1 x2 x3 x4 y0 y1 y3 y4 z0 z1 z2 z3 z4 f0 f1 f2 f3 f4 C1 C2 CR
  generalize World.drew _ = WF at *
  simp [results, Tryd.results5, go_sem, h0, h1, h2, h3, h4]

end Go.Proofs.YtaiplongpjimnaaDoor

namespace Go.Proofs.YtaiplongpjimnaaDoor
open Go.RowKit

namespace Im
def endT (m : Img) : Int := m.text + 4 * (m.T.length : Int)
def endF (m : Img) : Int := m.far + 4 * (m.F.length : Int)
def endD (m : Img) : Int := m.data + 4 * ((m.D.length : Int) + m.noughts)
def Fits (m : Img) : Prop := (endT m ≤ 1073741824 ∧ endF m ≤ 1073741824 ∧ endD m ≤ 1073741824) ∧ (¬ Meet m.text (endT m) m.far (endF m) ∧ ¬ Meet m.text (endT m) m.data (endD m) ∧ ¬ Meet m.far (endF m) m.data (endD m))
end Im

def regC (a b : Int) : Array Value := #[.int .i64 a, .int .i64 b]
theorem two_regions (w : World) (a b : Int) : BlkAt ((w.alloc (.cells (regC a b) 98)).alloc (.cells (regC a b) 98)).drew w.heap.size (regC a b) 98 ∧
    BlkAt ((w.alloc (.cells (regC a b) 98)).alloc (.cells (regC a b) 98)).drew (w.heap.size + 1) (regC a b) 98 ∧ w.grownBy ((w.alloc (.cells (regC a b) 98)).alloc (.cells (regC a b) 98)).drew none := by
  have b1 := BlkAt.new w (regC a b) 98
  have b2 := BlkAt.new (w.alloc (.cells (regC a b) 98)) (regC a b) 98
  rw [show (w.alloc (.cells (regC a b) 98)).heap.size = w.heap.size + 1 from Array.size_push _] at b2
  exact ⟨(b1.grown (World.grownBy_alloc _ _ none) (by simp)).drewN 1, b2.drewN 1, grown_drew (grown_trans (World.grownBy_alloc _ _ none) (World.grownBy_alloc _ _ none))⟩

set_option maxHeartbeats 8000000 in
theorem regionsFit_any (g : Nat) (m : Im.Img) (w : World) (h : ImgAt w g m) (ht : Im.Tame m) :
    Calls Tryd.prog 36 #[.pointer (some ⟨g, 0, none⟩)] w fun e w' => Tells e (Im.Fits m) ∧ w.grownBy w' none := by
  obtain ⟨at_, ct, af, cf, ad, cd, hb, q1, q2, q3⟩ := h.open
  have HB := hid hb
  have hl := ht.lens
  have hn := ht.noughts
  have r1 := ht.text
  have r2 := ht.far
  have r3 := ht.data
  have cT := hid (fun W => regionOf_any m.text m.T.length W ht.text.1 ht.text.2 (by omega) (by omega))
  have cF := hid (fun W => regionOf_any m.far m.F.length W ht.far.1 ht.far.2 (by omega) (by omega))
  have cD := hid (fun W => regionOf_any m.data (m.D.length + m.noughts) W ht.data.1 ht.data.2 (by omega) (by omega))
  have F0 := hid (show Im.Fits m ↔ (Im.endT m ≤ 1073741824 ∧ Im.endF m ≤ 1073741824 ∧ Im.endD m ≤ 1073741824) ∧ (¬ Im.Meet m.text (Im.endT m) m.far (Im.endF m) ∧ ¬ Im.Meet m.text (Im.endT m) m.data (Im.endD m) ∧ ¬ Im.Meet m.far (Im.endF m) m.data (Im.endD m)) from Iff.rfl)
  generalize Im.Fits m = Q at *
  have ww : IntKind.i64.wrap ((m.D.length : Int) + m.noughts) = (m.D.length : Int) + m.noughts := IntWalk.i64_in _ ⟨by omega, by omega⟩
  clear h ht hb q1 q2 q3
  have k1 := HB.out.cell 1
  have k4 := HB.out.cell 4
  simp only [List.getElem?_toArray, List.getElem?_cons_succ, List.getElem?_cons_zero] at k1 k4
  have hlt := HB.out.lt
  have hne : g ≠ w.heap.size := by omega
  go_enter Tryd.func36, Tryd.ntmps36
  go_upto_region 1 with fail
  go_cut [3] from 6 to 16 (fun v wx => ∃ r, v = .pointer (some ⟨r, 0, none⟩) ∧ BlkAt wx r (regC m.text (Im.endT m)) 98 ∧ w.grownBy wx none)
  case first =>
    go_region_with (go_at_call 46; refine (cT.out _).mono ?_; rintro e w' ⟨rfl, rfl⟩)
    all_goals (go_wp2_with fail; go_meet; first | exact ⟨w.heap.size, rfl, (two_regions w m.text (Im.endT m)).1, (two_regions w m.text (Im.endT m)).2.2⟩ | exact ⟨w.heap.size + 1, rfl, (two_regions w m.text (Im.endT m)).2.1, (two_regions w m.text (Im.endT m)).2.2⟩)
  case rest =>
  obtain ⟨ra, rfl, b1, g1⟩ := hcut
  clear k1 k4 hlt hne cT
  generalize wc = W1 at *
  have HB1 := hid (HB.out.grown g1 (by simp))
  have P1 := hid b1
  have G1 := hid g1
  clear b1 g1 HB
  have k2 := HB1.out.cell 2
  have k5 := HB1.out.cell 5
  simp only [List.getElem?_toArray, List.getElem?_cons_succ, List.getElem?_cons_zero] at k2 k5
  have hlt := HB1.out.lt
  have hne : g ≠ W1.heap.size := by omega
  go_upto_region 2 with fail
  go_cut [4] from 17 to 27 (fun v wx => ∃ r, v = .pointer (some ⟨r, 0, none⟩) ∧ BlkAt wx r (regC m.far (Im.endF m)) 98 ∧ W1.grownBy wx none)
  case first =>
    go_region_with (go_at_call 46; refine (cF.out _).mono ?_; rintro e w' ⟨rfl, rfl⟩)
    all_goals (go_wp2_with fail; go_meet; first | exact ⟨W1.heap.size, rfl, (two_regions W1 m.far (Im.endF m)).1, (two_regions W1 m.far (Im.endF m)).2.2⟩ | exact ⟨W1.heap.size + 1, rfl, (two_regions W1 m.far (Im.endF m)).2.1, (two_regions W1 m.far (Im.endF m)).2.2⟩)
  case rest =>
  obtain ⟨rb, rfl, b1, g1⟩ := hcut
  clear k2 k5 hlt hne cF
  generalize wc = W2 at *
  have HB2 := hid (HB1.out.grown g1 (by simp))
  have P1' := hid (P1.out.grown g1 (by simp))
  have P2 := hid b1
  have G2 := hid (grown_trans G1.out g1)
  clear b1 g1 HB1 P1 G1
  have k3 := HB2.out.cell 3
  have k6 := HB2.out.cell 6
  have k7 := HB2.out.cell 7
  simp only [List.getElem?_toArray, List.getElem?_cons_succ, List.getElem?_cons_zero] at k3 k6 k7
  have hlt := HB2.out.lt
  have hne : g ≠ W2.heap.size := by omega
  go_upto_region 3 with fail
  go_cut [5] from 28 to 43 (fun v wx => ∃ r, v = .pointer (some ⟨r, 0, none⟩) ∧ BlkAt wx r (regC m.data (Im.endD m)) 98 ∧ W2.grownBy wx none)
  case first =>
    go_region_with (go_at_call 46; refine (cD.out _).mono ?_; rintro e w' ⟨rfl, rfl⟩)
    all_goals (go_wp2_with fail; go_meet; first | exact ⟨W2.heap.size, rfl, (two_regions W2 m.data (Im.endD m)).1, (two_regions W2 m.data (Im.endD m)).2.2⟩ | exact ⟨W2.heap.size + 1, rfl, (two_regions W2 m.data (Im.endD m)).2.1, (two_regions W2 m.data (Im.endD m)).2.2⟩)
  case rest =>
  obtain ⟨rc, rfl, b1, g1⟩ := hcut
  clear k3 k6 k7 hlt hne cD
  generalize wc = W3 at *
  have B1 := hid (P1'.out.grown g1 (by simp))
  have B2 := hid (P2.out.grown g1 (by simp))
  have B3 := hid b1
  have G := hid (grown_trans G2.out g1)
  clear b1 g1 HB2 P1' P2 G2
  generalize Im.endT m = eT at *
  generalize Im.endF m = eF at *
  generalize Im.endD m = eD at *
  have a0 := B1.out.cell 0
  have a1 := B1.out.cell 1
  have c0 := B2.out.cell 0
  have c1 := B2.out.cell 1
  have d0 := B3.out.cell 0
  have d1 := B3.out.cell 1
  simp only [regC, List.getElem?_toArray, List.getElem?_cons_succ, List.getElem?_cons_zero] at a0 a1 c0 c1 d0 d1
  by_cases z1 : 1073741824 < eT
  · have e1 : decide (1073741824 < eT) = true := by simpa using z1
    have N := hid (show ¬ Q from fun q => by have := (F0.out.1 q).1.1; omega)
    clear z1
    go_wp2
    go_ret
    exact ⟨Tells.no N.out, G.out⟩
  · have e1 : decide (1073741824 < eT) = false := by simpa using z1
    by_cases z2 : 1073741824 < eF
    · have e2 : decide (1073741824 < eF) = true := by simpa using z2
      have N := hid (show ¬ Q from fun q => by have := (F0.out.1 q).1.2.1; omega)
      clear z1 z2
      go_wp2
      go_ret
      exact ⟨Tells.no N.out, G.out⟩
    · have e2 : decide (1073741824 < eF) = false := by simpa using z2
      by_cases z3 : 1073741824 < eD
      · have e3 : decide (1073741824 < eD) = true := by simpa using z3
        have N := hid (show ¬ Q from fun q => by have := (F0.out.1 q).1.2.2; omega)
        clear z1 z2 z3
        go_wp2
        go_ret
        exact ⟨Tells.no N.out, G.out⟩
      · have e3 : decide (1073741824 < eD) = false := by simpa using z3
        have LE := hid (show eT ≤ 1073741824 ∧ eF ≤ 1073741824 ∧ eD ≤ 1073741824 by omega)
        clear z1 z2 z3
        go_wp2_with fail
        refine (meet_any m.text eT m.far eF W3).mono ?_
        rintro e V1 ⟨t1, h1⟩
        have G1 := hid (grown_trans G.out h1)
        replace a0 := gcell a0 h1
        replace a1 := gcell a1 h1
        replace c0 := gcell c0 h1
        replace c1 := gcell c1 h1
        replace d0 := gcell d0 h1
        replace d1 := gcell d1 h1
        rcases t1.split with ⟨rfl, p1⟩ | ⟨rfl, p1⟩ <;> clear t1 h1
        · go_wp2_with fail
          refine (meet_any m.text eT m.data eD V1).mono ?_
          rintro e V2 ⟨t2, h2⟩
          have G2 := hid (grown_trans G1.out h2)
          replace a0 := gcell a0 h2
          replace a1 := gcell a1 h2
          replace c0 := gcell c0 h2
          replace c1 := gcell c1 h2
          replace d0 := gcell d0 h2
          replace d1 := gcell d1 h2
          rcases t2.split with ⟨rfl, p2⟩ | ⟨rfl, p2⟩ <;> clear t2 h2
          · go_wp2_with fail
            refine (meet_any m.far eF m.data eD V2).mono ?_
            rintro e V3 ⟨t3, h3⟩
            have G3 := hid (grown_trans G2.out h3)
            rcases t3.split with ⟨rfl, p3⟩ | ⟨rfl, p3⟩ <;> clear t3 h3
            · go_wp2
              go_ret
              exact ⟨Tells.yes (F0.out.2 ⟨LE.out, p1.out, p2.out, p3.out⟩), G3.out⟩
            · go_wp2
              go_ret
              exact ⟨Tells.no fun q => (F0.out.1 q).2.2.2 p3.out, G3.out⟩
          · go_wp2
            go_ret
            exact ⟨Tells.no fun q => (F0.out.1 q).2.2.1 p2.out, G2.out⟩
        · go_wp2
          go_ret
          exact ⟨Tells.no fun q => (F0.out.1 q).2.1 p1.out, G1.out⟩

end Go.Proofs.YtaiplongpjimnaaDoor

namespace Go.Proofs.YtaiplongpjimnaaDoor
open Go.RowKit

theorem imgOk_iff (m : Im.Img) : Im.ImgOk m ↔ (Im.Base m.text ∧ Im.Base m.far ∧ Im.Base m.data) ∧ Im.Fits m ∧ (Im.code m m.start).isSome = true := by
  rw [Im.code_iff]
  unfold Im.ImgOk Im.Fits Im.endT Im.endF Im.endD
  constructor
  · rintro ⟨a, b, c, d⟩; exact ⟨a, ⟨b, c⟩, d⟩
  · rintro ⟨a, ⟨b, c⟩, d⟩; exact ⟨a, b, c, d⟩

set_option maxHeartbeats 4000000 in
theorem imgValid_any (g : Nat) (m : Im.Img) (w : World) (h : ImgAt w g m) (ht : Im.Tame m) :
    Calls Tryd.prog 21 #[.pointer (some ⟨g, 0, none⟩)] w fun e w' => Tells e (Im.ImgOk m) ∧ w.grownBy w' none := by
  have H := hid h
  have HT := hid ht
  obtain ⟨at_, ct, af, cf, ad, cd, hb, -, -, -⟩ := h.open
  have k0 := hb.cell 0
  have k1 := hb.cell 1
  have k2 := hb.cell 2
  have k3 := hb.cell 3
  simp only [List.getElem?_toArray, List.getElem?_cons_succ, List.getElem?_cons_zero] at k0 k1 k2 k3
  have c1 := hid (fun W => isBase_any m.text W ht.text.1 ht.text.2)
  have c2 := hid (fun W => isBase_any m.far W ht.far.1 ht.far.2)
  have c3 := hid (fun W => isBase_any m.data W ht.data.1 ht.data.2)
  have Q0 := hid (imgOk_iff m)
  generalize Im.ImgOk m = Q at *
  clear h ht hb
  go_enter Tryd.func21, Tryd.ntmps21
  go_wp2_with fail
  refine (c1.out w).mono ?_
  rintro e V ⟨t, rfl⟩
  rcases t.split with ⟨rfl, p1⟩ | ⟨rfl, p1⟩ <;> clear t c1
  · go_wp2
    go_ret
    exact ⟨Tells.no fun q => p1.out (Q0.out.1 q).1.1, World.grownBy.refl _ _⟩
  go_wp2_with fail
  refine (c2.out _).mono ?_
  rintro e V ⟨t, rfl⟩
  rcases t.split with ⟨rfl, p2⟩ | ⟨rfl, p2⟩ <;> clear t c2
  · go_wp2
    go_ret
    exact ⟨Tells.no fun q => p2.out (Q0.out.1 q).1.2.1, World.grownBy.refl _ _⟩
  go_wp2_with fail
  refine (c3.out _).mono ?_
  rintro e V ⟨t, rfl⟩
  rcases t.split with ⟨rfl, p3⟩ | ⟨rfl, p3⟩ <;> clear t c3
  · go_wp2
    go_ret
    exact ⟨Tells.no fun q => p3.out (Q0.out.1 q).1.2.2, World.grownBy.refl _ _⟩
  go_wp2_with fail
  refine (regionsFit_any g m V H.out HT.out).mono ?_
  rintro e V1 ⟨t, hg⟩
  have G1 := hid hg
  rcases t.split with ⟨rfl, p4⟩ | ⟨rfl, p4⟩ <;> clear t
  · go_wp2
    go_ret
    exact ⟨Tells.no fun q => p4.out (Q0.out.1 q).2.1, G1.out⟩
  replace k0 := gcell k0 hg
  clear hg k1 k2 k3
  go_wp2_with fail
  refine (code_any g m m.start V1 (H.out.kept G1.out) HT.out HT.out.start.1 HT.out.start.2).mono ?_
  rintro e V2 ⟨rfl, n, rfl⟩
  have GF := hid (grown_drewN G1.out n)
  cases hc : (Im.code m m.start).isSome
  · have N := hid (show ¬ Q from fun q => by have := (Q0.out.1 q).2.2; rw [hc] at this; cases this)
    go_wp2
    go_ret
    exact ⟨Tells.no N.out, GF.out⟩
  · have N := hid (show Q from Q0.out.2 ⟨⟨p1.out, p2.out, p3.out⟩, p4.out, hc⟩)
    go_wp2
    go_ret
    exact ⟨Tells.yes N.out, GF.out⟩

end Go.Proofs.YtaiplongpjimnaaDoor
