/- Walks over the document's machine: a tick. -/
/- Walks over the document's machine: a tick, more. -/
import Derived.Test.YtaiplongpjimnaaDoorG06
import Derived.Test.YtaiplongpjimnaaDoorG08
import Derived.Test.YtaiplongpjimnaaDoorG10
namespace Go.Proofs.YtaiplongpjimnaaDoor
open Go.RowKit

namespace Mc
/-- the document's machine stands as the other one does -/
structure Same (s t : St) : Prop where
  regs : s.regs = t.regs
  data : s.data = t.data
  ende : s.ende = t.ende
  code : s.code = t.code
  out : s.out = t.out
  read : s.read = t.read
  pc : t.ende = 0 → s.pc = t.pc
def did (m : Im.Img) (ins : List Int) (op rd rs1 rs2 n : Int) (st : Mc.St) : Mc.St :=
  { Mc.doIt m ins op rd rs1 rs2 n { st with next := Mc.wd (st.pc + 4) } with pc := (Mc.doIt m ins op rd rs1 rs2 n { st with next := Mc.wd (st.pc + 4) }).next }
theorem set_next (r v x : Int) (st : St) : set r v { st with next := x } = { set r v st with next := x } := by unfold set; split <;> rfl
theorem wd_wd (x : Int) : wd (wd x) = wd x := by unfold wd; omega
theorem set_wd (r v : Int) (st : St) : set r (wd v) st = set r v st := by unfold set; rw [wd_wd]
end Mc

/-- what a tick does -/
def Ticks (W0 : World) (b g : Nat) (vin : Value) (n : Nat) (t : Mc.St) (W : World) : Prop := ∃ s vr vd vo, StAt W0 b g vin s vr vd vo W ∧ Mc.Same s t ∧ s.steps = n

structure TickPre (W0 : World) (b g : Nat) (ai : Option Addr) (ci : Nat) (ins : List Int) (st : Mc.St) (vr vd vo : Value) (m : Im.Img) (W : World) (wv : Int) (op rd rs1 rs2 : Nat) (n fb : Int) : Prop where
  at_ : StAt W0 b g (.slice ai ins.length ci) st vr vd vo W
  img : RImgAt W0 g m
  tame : Im.Tame m
  inp : IntsIn W0 ai ins
  len : ins.length ≤ 16
  code : Im.code m st.pc = some wv
  of : ∀ V, Calls Tryd.prog 25 #[.int .i64 wv] V fun e V' => e = .returned (.tuple #[insR op rd rs1 rs2 n fb, .bool true]) ∧ V.grownBy V' none
  rd : rd < 32
  rs1 : rs1 < 32
  rs2 : rs2 < 32
  n0 : -2147483648 ≤ n
  n1 : n ≤ 2147483647
  lo : W0.heap.size ≤ b

section
variable {W0 W : World} {b g : Nat} {vin vd vo : Value} {st : Mc.St}
theorem StAt.regc {rg cap : Nat} (h : StAt W0 b g vin st (.slice (some ⟨rg, 0, none⟩) 32 cap) vd vo W) (k : Nat) (hk : k < 32) : W.cell? ⟨rg, k, none⟩ = some (.int .i64 (Mc.reg st k)) := by
  obtain ⟨rg', cap', hv, -, -, -, hc⟩ := h.reg
  simp only [Value.slice.injEq, Option.some.injEq, Addr.mk.injEq] at hv
  obtain ⟨⟨rfl, -⟩, -⟩ := hv
  rw [Mc.reg_eq st k hk]
  exact hc k hk
end
theorem set_fields (r v : Int) (st : Mc.St) : (Mc.set r v st).data = st.data ∧ (Mc.set r v st).ende = st.ende ∧ (Mc.set r v st).code = st.code ∧ (Mc.set r v st).out = st.out ∧ (Mc.set r v st).read = st.read ∧ (Mc.set r v st).pc = st.pc ∧ (Mc.set r v st).next = st.next ∧ (Mc.set r v st).steps = st.steps := by
  unfold Mc.set
  split <;> exact ⟨rfl, rfl, rfl, rfl, rfl, rfl, rfl, rfl⟩

theorem call_next (ins : List Int) (x : Int) (st : Mc.St) : Mc.call ins { st with next := x } = { Mc.call ins st with next := x } := by
  unfold Mc.call
  have r : ∀ k, Mc.reg { st with next := x } k = Mc.reg st k := fun _ => rfl
  simp only [r]
  split
  · rfl
  split
  · split <;> rfl
  split
  · split
    · rfl
    · rw [Mc.set_next]
  · rfl
theorem load_word (m : Im.Img) (rd a : Int) (st : Mc.St) : Mc.load m rd a st = match Mc.wordAt m st a with | some v => Mc.set rd v st | none => { st with ende := 4 } := by
  unfold Mc.load Mc.wordAt
  cases Im.code m a with
  | some w => rfl
  | none =>
    simp only
    by_cases h : 0 ≤ Im.place m.data st.data.length a
    · rw [if_pos h, if_pos h]
    · rw [if_neg h, if_neg h]
theorem doIt_B (m : Im.Img) (ins : List Int) (op rd rs1 rs2 n : Int) (st : Mc.St) (h : 5 ≤ op ∧ op ≤ 10) : Mc.doIt m ins op rd rs1 rs2 n st = Mc.branch (Mc.holds op (Mc.reg st rs1) (Mc.reg st rs2)) n st := by
  unfold Mc.doIt
  rw [if_neg (by omega), if_neg (by omega), if_neg (by omega), if_neg (by omega), if_neg (by omega), if_pos h]
theorem doIt_I (m : Im.Img) (ins : List Int) (op rd rs1 rs2 n : Int) (st : Mc.St) (h : 13 ≤ op ∧ op ≤ 17) : Mc.doIt m ins op rd rs1 rs2 n st = Mc.set rd (Mc.gives op (Mc.reg st rs1) (Mc.wd n)) st := by
  unfold Mc.doIt Mc.gives
  rw [if_neg (by omega), if_neg (by omega), if_neg (by omega), if_neg (by omega), if_neg (by omega), if_neg (by omega), if_neg (by omega), if_neg (by omega), if_pos h, if_pos (by omega)]
theorem doIt_R (m : Im.Img) (ins : List Int) (op rd rs1 rs2 n : Int) (st : Mc.St) (h : 18 ≤ op ∧ op ≤ 24) : Mc.doIt m ins op rd rs1 rs2 n st = Mc.set rd (Mc.gives op (Mc.reg st rs1) (Mc.reg st rs2)) st := by
  unfold Mc.doIt Mc.gives
  rw [if_neg (by omega), if_neg (by omega), if_neg (by omega), if_neg (by omega), if_neg (by omega), if_neg (by omega), if_neg (by omega), if_neg (by omega), if_neg (by omega), if_neg (by omega), if_neg (by omega)]

set_option maxRecDepth 100000 in
set_option maxHeartbeats 8000000 in
theorem tick_1 (W0 : World) (b g : Nat) (ai : Option Addr) (ci : Nat) (ins : List Int) (st : Mc.St) (vr vd vo : Value) (m : Im.Img) (W : World) (wv : Int) (rd rs1 rs2 : Nat) (n fb : Int) (h : TickPre W0 b g ai ci ins st vr vd vo m W wv 1 rd rs1 rs2 n fb) :
    Calls Tryd.prog 17 #[.pointer (some ⟨b, 0, none⟩)] W fun e W' => e = .returned (.tuple #[]) ∧ Ticks W0 b g (.slice ai ins.length ci) st.steps (Mc.did m ins 1 rd rs1 rs2 n st) W' := by
  have SM := hid (show Mc.Same { Mc.set rd (n * 4096) st with pc := Mc.wd (st.pc + 4) } (Mc.did m ins 1 rd rs1 rs2 n st) by
    have f := set_fields rd (n * 4096) st
    have e : Mc.doIt m ins 1 rd rs1 rs2 n { st with next := Mc.wd (st.pc + 4) } = { Mc.set rd (n * 4096) st with next := Mc.wd (st.pc + 4) } := Mc.set_next _ _ _ _
    unfold Mc.did; rw [e]; exact ⟨rfl, rfl, rfl, rfl, rfl, rfl, fun _ => rfl⟩)
  have hp := h.at_.ok.pc
  have cC := hid (fun k => fetch_any g m st.pc (W.drewN k) (h.img.kept (grown_drewN h.at_.gr k)) h.tame hp.1 hp.2)
  rw [h.code] at cC
  have cO := hid h.of
  have PR := hid h
  have H := hid h.at_
  obtain ⟨rg, cap, hvr, hc1, hc2, -, -⟩ := h.at_.reg
  subst hvr
  have c0 : W.cell? ⟨b, 0, none⟩ = some (.pointer (some ⟨g, 0, none⟩)) := h.at_.cells 0
  have c2 : W.cell? ⟨b, 2, none⟩ = some (.int .i64 st.pc) := h.at_.cells 2
  have hrd := h.rd
  have hrs1 := h.rs1
  have hrs2 := h.rs2
  have hn0 := h.n0
  have hn1 := h.n1
  have ra := reg_range h.at_.ok rs1
  have rb := reg_range h.at_.ok rs2
  have w1 : IntKind.i64.wrap (st.pc + 4) = st.pc + 4 := IntWalk.i64_in _ ⟨by omega, by omega⟩
  have w2 : IntKind.i64.wrap (n * 4096) = n * 4096 := IntWalk.i64_in _ ⟨by omega, by omega⟩
  have w3 : IntKind.i64.wrap (st.pc + n * 4096) = st.pc + n * 4096 := IntWalk.i64_in _ ⟨by omega, by omega⟩
  have w4 : IntKind.i64.wrap (st.pc + n) = st.pc + n := IntWalk.i64_in _ ⟨by omega, by omega⟩
  have w5 : IntKind.i64.wrap (Mc.reg st rs1 + n) = Mc.reg st rs1 + n := IntWalk.i64_in _ ⟨by omega, by omega⟩
  have g1 : (rs1 : Int) < 32 := by omega
  have g2 : (rs2 : Int) < 32 := by omega
  have cB := hid (fun v W => rBits_any v W)
  have hcm := hc2
  unfold maxLen at hcm
  have hlo := h.lo
  clear h
  simp only [Option.getD_some, Option.isSome_some] at cC
  unfold insR at cO
  go_enter Tryd.func17, Tryd.ntmps17
  go_wp2
  go_quiet ((go_at_call 15; exact Calls.quiet_of (cC.out _)))
  have H1 := hid (H.out.grown (grown_drewN (World.grownBy.refl _ none) nq))
  clear H cC c0 c2
  generalize W.drewN nq = V at *
  go_wp2_with fail
  refine (cO.out _).mono ?_
  rintro e V2 ⟨rfl, hg2⟩
  have H2 := hid ((H1.out.grown hg2).grown (World.grownBy_alloc V2 (.cells #[.int .i64 1, .int .i64 rd, .int .i64 rs1, .int .i64 rs2, .int .i64 n, .int .u8 fb] 75) none))
  have BX := hid (BlkAt.new V2 #[.int .i64 1, .int .i64 rd, .int .i64 rs1, .int .i64 rs2, .int .i64 n, .int .u8 fb] 75)
  have hbX : b < V2.heap.size := by have := (H1.out.grown hg2).blk.lt; exact this
  have hgX : rg < V2.heap.size := ((H1.out.grown hg2).regs.lt rg rfl).2
  clear H1 hg2 cO
  go_wp2
  generalize V2.alloc (.cells #[.int .i64 1, .int .i64 rd, .int .i64 rs1, .int .i64 rs2, .int .i64 n, .int .u8 fb] 75) = V3 at *
  generalize V2.heap.size = X at *
  have c1 : V3.cell? ⟨b, 1, none⟩ = some (.slice (some ⟨rg, 0, none⟩) 32 cap) := H2.out.cells 1
  have x2 : V3.cell? ⟨X, 2, none⟩ = some (.int .i64 rs1) := BX.out.cell 2
  have r1 := H2.out.regc rs1 hrs1
  go_quiet (fail)
  have H3 := hid (H2.out.grown (grown_drewN (World.grownBy.refl _ none) nq))
  have B3 := hid (BX.out.drewN nq)
  clear c1 x2 r1 H2 BX
  generalize V3.drewN nq = V4 at *
  have c1 : V4.cell? ⟨b, 1, none⟩ = some (.slice (some ⟨rg, 0, none⟩) 32 cap) := H3.out.cells 1
  have x3 : V4.cell? ⟨X, 3, none⟩ = some (.int .i64 rs2) := B3.out.cell 3
  have r2 := H3.out.regc rs2 hrs2
  go_wp2
  go_quiet (fail)
  have H4 := hid (H3.out.grown (grown_drewN (World.grownBy.refl _ none) nq))
  have B4 := hid (B3.out.drewN nq)
  clear c1 x3 r2 H3 B3
  generalize V4.drewN nq = U at *
  have c0 : U.cell? ⟨b, 0, none⟩ = some (.pointer (some ⟨g, 0, none⟩)) := H4.out.cells 0
  have c2 : U.cell? ⟨b, 2, none⟩ = some (.int .i64 st.pc) := H4.out.cells 2
  have x0 : U.cell? ⟨X, 0, none⟩ = some (.int .i64 1) := B4.out.cell 0
  have x1 : U.cell? ⟨X, 1, none⟩ = some (.int .i64 rd) := B4.out.cell 1
  have x4 : U.cell? ⟨X, 4, none⟩ = some (.int .i64 n) := B4.out.cell 4
  have x5 : U.cell? ⟨X, 5, none⟩ = some (.int .u8 fb) := B4.out.cell 5
  have cP := hid (fun W hW => rPut_any W0 b g (.slice ai ins.length ci) st (.slice (some ⟨rg, 0, none⟩) 32 cap) vd vo rd (n * 4096) W hW (by omega) (by omega))
  go_wp2_with fail
  refine (cP.out _ H4.out).mono ?_
  rintro e V6 ⟨rfl, h6, g6⟩
  have H6 := hid h6
  have B6 := hid (B4.out.grown g6 (fun e => by simp [Value.ownBlock] at e; omega))
  clear h6 g6 c0 c2 x0 x1 x4 x5 H4 B4 cP
  have c2 : V6.cell? ⟨b, 2, none⟩ = some (.int .i64 (Mc.set rd (n * 4096) st).pc) := H6.out.cells 2
  rw [set_pc] at c2
  have f2 := H6.out.free 2
  have x4 : V6.cell? ⟨X, 4, none⟩ = some (.int .i64 n) := B6.out.cell 4
  go_wp2_with fail
  refine (cB.out _ _).mono ?_
  rintro e V7 ⟨rfl, hV7⟩
  subst hV7
  go_wp2
  go_end0
  exact ⟨rfl, _, _, _, _, H6.out.putPc _ (Mc.wd_range _), SM.out, (set_fields rd (n * 4096) st).2.2.2.2.2.2.2⟩

set_option maxRecDepth 100000 in
set_option maxHeartbeats 8000000 in
theorem tick_2 (W0 : World) (b g : Nat) (ai : Option Addr) (ci : Nat) (ins : List Int) (st : Mc.St) (vr vd vo : Value) (m : Im.Img) (W : World) (wv : Int) (rd rs1 rs2 : Nat) (n fb : Int) (h : TickPre W0 b g ai ci ins st vr vd vo m W wv 2 rd rs1 rs2 n fb) :
    Calls Tryd.prog 17 #[.pointer (some ⟨b, 0, none⟩)] W fun e W' => e = .returned (.tuple #[]) ∧ Ticks W0 b g (.slice ai ins.length ci) st.steps (Mc.did m ins 2 rd rs1 rs2 n st) W' := by
  have SM := hid (show Mc.Same { Mc.set rd (st.pc + n * 4096) st with pc := Mc.wd (st.pc + 4) } (Mc.did m ins 2 rd rs1 rs2 n st) by
    have e : Mc.doIt m ins 2 rd rs1 rs2 n { st with next := Mc.wd (st.pc + 4) } = { Mc.set rd (st.pc + n * 4096) st with next := Mc.wd (st.pc + 4) } := by rw [Int.add_comm st.pc (n * 4096)]; exact Mc.set_next _ _ _ _
    unfold Mc.did; rw [e]; exact ⟨rfl, rfl, rfl, rfl, rfl, rfl, fun _ => rfl⟩)
  have hp := h.at_.ok.pc
  have cC := hid (fun k => fetch_any g m st.pc (W.drewN k) (h.img.kept (grown_drewN h.at_.gr k)) h.tame hp.1 hp.2)
  rw [h.code] at cC
  have cO := hid h.of
  have PR := hid h
  have H := hid h.at_
  obtain ⟨rg, cap, hvr, hc1, hc2, -, -⟩ := h.at_.reg
  subst hvr
  have c0 : W.cell? ⟨b, 0, none⟩ = some (.pointer (some ⟨g, 0, none⟩)) := h.at_.cells 0
  have c2 : W.cell? ⟨b, 2, none⟩ = some (.int .i64 st.pc) := h.at_.cells 2
  have hrd := h.rd
  have hrs1 := h.rs1
  have hrs2 := h.rs2
  have hn0 := h.n0
  have hn1 := h.n1
  have ra := reg_range h.at_.ok rs1
  have rb := reg_range h.at_.ok rs2
  have w1 : IntKind.i64.wrap (st.pc + 4) = st.pc + 4 := IntWalk.i64_in _ ⟨by omega, by omega⟩
  have w2 : IntKind.i64.wrap (n * 4096) = n * 4096 := IntWalk.i64_in _ ⟨by omega, by omega⟩
  have w3 : IntKind.i64.wrap (st.pc + n * 4096) = st.pc + n * 4096 := IntWalk.i64_in _ ⟨by omega, by omega⟩
  have w4 : IntKind.i64.wrap (st.pc + n) = st.pc + n := IntWalk.i64_in _ ⟨by omega, by omega⟩
  have w5 : IntKind.i64.wrap (Mc.reg st rs1 + n) = Mc.reg st rs1 + n := IntWalk.i64_in _ ⟨by omega, by omega⟩
  have g1 : (rs1 : Int) < 32 := by omega
  have g2 : (rs2 : Int) < 32 := by omega
  have cB := hid (fun v W => rBits_any v W)
  have hcm := hc2
  unfold maxLen at hcm
  have hlo := h.lo
  clear h
  simp only [Option.getD_some, Option.isSome_some] at cC
  unfold insR at cO
  go_enter Tryd.func17, Tryd.ntmps17
  go_wp2
  go_quiet ((go_at_call 15; exact Calls.quiet_of (cC.out _)))
  have H1 := hid (H.out.grown (grown_drewN (World.grownBy.refl _ none) nq))
  clear H cC c0 c2
  generalize W.drewN nq = V at *
  go_wp2_with fail
  refine (cO.out _).mono ?_
  rintro e V2 ⟨rfl, hg2⟩
  have H2 := hid ((H1.out.grown hg2).grown (World.grownBy_alloc V2 (.cells #[.int .i64 2, .int .i64 rd, .int .i64 rs1, .int .i64 rs2, .int .i64 n, .int .u8 fb] 75) none))
  have BX := hid (BlkAt.new V2 #[.int .i64 2, .int .i64 rd, .int .i64 rs1, .int .i64 rs2, .int .i64 n, .int .u8 fb] 75)
  have hbX : b < V2.heap.size := by have := (H1.out.grown hg2).blk.lt; exact this
  have hgX : rg < V2.heap.size := ((H1.out.grown hg2).regs.lt rg rfl).2
  clear H1 hg2 cO
  go_wp2
  generalize V2.alloc (.cells #[.int .i64 2, .int .i64 rd, .int .i64 rs1, .int .i64 rs2, .int .i64 n, .int .u8 fb] 75) = V3 at *
  generalize V2.heap.size = X at *
  have c1 : V3.cell? ⟨b, 1, none⟩ = some (.slice (some ⟨rg, 0, none⟩) 32 cap) := H2.out.cells 1
  have x2 : V3.cell? ⟨X, 2, none⟩ = some (.int .i64 rs1) := BX.out.cell 2
  have r1 := H2.out.regc rs1 hrs1
  go_quiet (fail)
  have H3 := hid (H2.out.grown (grown_drewN (World.grownBy.refl _ none) nq))
  have B3 := hid (BX.out.drewN nq)
  clear c1 x2 r1 H2 BX
  generalize V3.drewN nq = V4 at *
  have c1 : V4.cell? ⟨b, 1, none⟩ = some (.slice (some ⟨rg, 0, none⟩) 32 cap) := H3.out.cells 1
  have x3 : V4.cell? ⟨X, 3, none⟩ = some (.int .i64 rs2) := B3.out.cell 3
  have r2 := H3.out.regc rs2 hrs2
  go_wp2
  go_quiet (fail)
  have H4 := hid (H3.out.grown (grown_drewN (World.grownBy.refl _ none) nq))
  have B4 := hid (B3.out.drewN nq)
  clear c1 x3 r2 H3 B3
  generalize V4.drewN nq = U at *
  have c0 : U.cell? ⟨b, 0, none⟩ = some (.pointer (some ⟨g, 0, none⟩)) := H4.out.cells 0
  have c2 : U.cell? ⟨b, 2, none⟩ = some (.int .i64 st.pc) := H4.out.cells 2
  have x0 : U.cell? ⟨X, 0, none⟩ = some (.int .i64 2) := B4.out.cell 0
  have x1 : U.cell? ⟨X, 1, none⟩ = some (.int .i64 rd) := B4.out.cell 1
  have x4 : U.cell? ⟨X, 4, none⟩ = some (.int .i64 n) := B4.out.cell 4
  have x5 : U.cell? ⟨X, 5, none⟩ = some (.int .u8 fb) := B4.out.cell 5
  have cP := hid (fun W hW => rPut_any W0 b g (.slice ai ins.length ci) st (.slice (some ⟨rg, 0, none⟩) 32 cap) vd vo rd (st.pc + n * 4096) W hW (by omega) (by omega))
  go_wp2
  go_region_with (go_at_call 26; refine (cP.out _ (H4.out.grown (grown_drewN (World.grownBy.refl _ none) 1))).mono ?_; rintro e V6 ⟨rfl, h6, g6⟩)
  all_goals
    have H6 := hid h6
    clear h6 g6 c0 c2 x0 x1 x4 x5 H4 B4 cP
    have c2 : V6.cell? ⟨b, 2, none⟩ = some (.int .i64 (Mc.set rd (st.pc + n * 4096) st).pc) := H6.out.cells 2
    rw [set_pc] at c2
    have f2 := H6.out.free 2
    go_wp2_with fail
    refine (cB.out _ _).mono ?_
    rintro e V7 ⟨rfl, hV7⟩
    subst hV7
    go_wp2
    go_end0
    exact ⟨rfl, _, _, _, _, H6.out.putPc _ (Mc.wd_range _), SM.out, (set_fields rd (st.pc + n * 4096) st).2.2.2.2.2.2.2⟩

set_option maxRecDepth 100000 in
set_option maxHeartbeats 8000000 in
theorem tick_3 (W0 : World) (b g : Nat) (ai : Option Addr) (ci : Nat) (ins : List Int) (st : Mc.St) (vr vd vo : Value) (m : Im.Img) (W : World) (wv : Int) (rd rs1 rs2 : Nat) (n fb : Int) (h : TickPre W0 b g ai ci ins st vr vd vo m W wv 3 rd rs1 rs2 n fb) :
    Calls Tryd.prog 17 #[.pointer (some ⟨b, 0, none⟩)] W fun e W' => e = .returned (.tuple #[]) ∧ Ticks W0 b g (.slice ai ins.length ci) st.steps (Mc.did m ins 3 rd rs1 rs2 n st) W' := by
  have SM := hid (show Mc.Same { Mc.set rd (st.pc + 4) st with pc := Mc.wd (st.pc + n) } (Mc.did m ins 3 rd rs1 rs2 n st) by
    have e : Mc.doIt m ins 3 rd rs1 rs2 n { st with next := Mc.wd (st.pc + 4) } = { Mc.set rd (st.pc + 4) st with next := Mc.wd (st.pc + n) } := by
      show { Mc.set rd (st.pc + 4) { st with next := Mc.wd (st.pc + 4) } with next := Mc.wd (st.pc + n) } = _
      rw [Mc.set_next]
    unfold Mc.did; rw [e]; exact ⟨rfl, rfl, rfl, rfl, rfl, rfl, fun _ => rfl⟩)
  have hp := h.at_.ok.pc
  have cC := hid (fun k => fetch_any g m st.pc (W.drewN k) (h.img.kept (grown_drewN h.at_.gr k)) h.tame hp.1 hp.2)
  rw [h.code] at cC
  have cO := hid h.of
  have PR := hid h
  have H := hid h.at_
  obtain ⟨rg, cap, hvr, hc1, hc2, -, -⟩ := h.at_.reg
  subst hvr
  have c0 : W.cell? ⟨b, 0, none⟩ = some (.pointer (some ⟨g, 0, none⟩)) := h.at_.cells 0
  have c2 : W.cell? ⟨b, 2, none⟩ = some (.int .i64 st.pc) := h.at_.cells 2
  have hrd := h.rd
  have hrs1 := h.rs1
  have hrs2 := h.rs2
  have hn0 := h.n0
  have hn1 := h.n1
  have ra := reg_range h.at_.ok rs1
  have rb := reg_range h.at_.ok rs2
  have w1 : IntKind.i64.wrap (st.pc + 4) = st.pc + 4 := IntWalk.i64_in _ ⟨by omega, by omega⟩
  have w2 : IntKind.i64.wrap (n * 4096) = n * 4096 := IntWalk.i64_in _ ⟨by omega, by omega⟩
  have w3 : IntKind.i64.wrap (st.pc + n * 4096) = st.pc + n * 4096 := IntWalk.i64_in _ ⟨by omega, by omega⟩
  have w4 : IntKind.i64.wrap (st.pc + n) = st.pc + n := IntWalk.i64_in _ ⟨by omega, by omega⟩
  have w5 : IntKind.i64.wrap (Mc.reg st rs1 + n) = Mc.reg st rs1 + n := IntWalk.i64_in _ ⟨by omega, by omega⟩
  have g1 : (rs1 : Int) < 32 := by omega
  have g2 : (rs2 : Int) < 32 := by omega
  have cB := hid (fun v W => rBits_any v W)
  have hcm := hc2
  unfold maxLen at hcm
  have hlo := h.lo
  clear h
  simp only [Option.getD_some, Option.isSome_some] at cC
  unfold insR at cO
  go_enter Tryd.func17, Tryd.ntmps17
  go_wp2
  go_quiet ((go_at_call 15; exact Calls.quiet_of (cC.out _)))
  have H1 := hid (H.out.grown (grown_drewN (World.grownBy.refl _ none) nq))
  clear H cC c0 c2
  generalize W.drewN nq = V at *
  go_wp2_with fail
  refine (cO.out _).mono ?_
  rintro e V2 ⟨rfl, hg2⟩
  have H2 := hid ((H1.out.grown hg2).grown (World.grownBy_alloc V2 (.cells #[.int .i64 3, .int .i64 rd, .int .i64 rs1, .int .i64 rs2, .int .i64 n, .int .u8 fb] 75) none))
  have BX := hid (BlkAt.new V2 #[.int .i64 3, .int .i64 rd, .int .i64 rs1, .int .i64 rs2, .int .i64 n, .int .u8 fb] 75)
  have hbX : b < V2.heap.size := by have := (H1.out.grown hg2).blk.lt; exact this
  have hgX : rg < V2.heap.size := ((H1.out.grown hg2).regs.lt rg rfl).2
  clear H1 hg2 cO
  go_wp2
  generalize V2.alloc (.cells #[.int .i64 3, .int .i64 rd, .int .i64 rs1, .int .i64 rs2, .int .i64 n, .int .u8 fb] 75) = V3 at *
  generalize V2.heap.size = X at *
  have c1 : V3.cell? ⟨b, 1, none⟩ = some (.slice (some ⟨rg, 0, none⟩) 32 cap) := H2.out.cells 1
  have x2 : V3.cell? ⟨X, 2, none⟩ = some (.int .i64 rs1) := BX.out.cell 2
  have r1 := H2.out.regc rs1 hrs1
  go_quiet (fail)
  have H3 := hid (H2.out.grown (grown_drewN (World.grownBy.refl _ none) nq))
  have B3 := hid (BX.out.drewN nq)
  clear c1 x2 r1 H2 BX
  generalize V3.drewN nq = V4 at *
  have c1 : V4.cell? ⟨b, 1, none⟩ = some (.slice (some ⟨rg, 0, none⟩) 32 cap) := H3.out.cells 1
  have x3 : V4.cell? ⟨X, 3, none⟩ = some (.int .i64 rs2) := B3.out.cell 3
  have r2 := H3.out.regc rs2 hrs2
  go_wp2
  go_quiet (fail)
  have H4 := hid (H3.out.grown (grown_drewN (World.grownBy.refl _ none) nq))
  have B4 := hid (B3.out.drewN nq)
  clear c1 x3 r2 H3 B3
  generalize V4.drewN nq = U at *
  have c0 : U.cell? ⟨b, 0, none⟩ = some (.pointer (some ⟨g, 0, none⟩)) := H4.out.cells 0
  have c2 : U.cell? ⟨b, 2, none⟩ = some (.int .i64 st.pc) := H4.out.cells 2
  have x0 : U.cell? ⟨X, 0, none⟩ = some (.int .i64 3) := B4.out.cell 0
  have x1 : U.cell? ⟨X, 1, none⟩ = some (.int .i64 rd) := B4.out.cell 1
  have x4 : U.cell? ⟨X, 4, none⟩ = some (.int .i64 n) := B4.out.cell 4
  have x5 : U.cell? ⟨X, 5, none⟩ = some (.int .u8 fb) := B4.out.cell 5
  have cP := hid (fun W hW => rPut_any W0 b g (.slice ai ins.length ci) st (.slice (some ⟨rg, 0, none⟩) 32 cap) vd vo rd (st.pc + 4) W hW (by omega) (by omega))
  go_wp2_with fail
  refine (cP.out _ H4.out).mono ?_
  rintro e V6 ⟨rfl, h6, g6⟩
  have H6 := hid h6
  have B6 := hid (B4.out.grown g6 (fun e => by simp [Value.ownBlock] at e; omega))
  clear h6 g6 c0 c2 x0 x1 x4 x5 H4 B4 cP
  have c2 : V6.cell? ⟨b, 2, none⟩ = some (.int .i64 (Mc.set rd (st.pc + 4) st).pc) := H6.out.cells 2
  rw [set_pc] at c2
  have f2 := H6.out.free 2
  have x4 : V6.cell? ⟨X, 4, none⟩ = some (.int .i64 n) := B6.out.cell 4
  go_wp2
  go_quiet (fail)
  have H7 := hid (H6.out.grown (grown_drewN (World.grownBy.refl _ none) nq))
  clear c2 f2 x4 H6 B6
  generalize V6.drewN nq = V8 at *
  have c2 : V8.cell? ⟨b, 2, none⟩ = some (.int .i64 (Mc.set rd (st.pc + 4) st).pc) := H7.out.cells 2
  rw [set_pc] at c2
  have f2 := H7.out.free 2
  go_wp2_with fail
  refine (cB.out _ _).mono ?_
  rintro e V7 ⟨rfl, hV7⟩
  subst hV7
  go_wp2
  go_end0
  exact ⟨rfl, _, _, _, _, H7.out.putPc _ (Mc.wd_range _), SM.out, (set_fields rd (st.pc + 4) st).2.2.2.2.2.2.2⟩

set_option maxRecDepth 100000 in
set_option maxHeartbeats 8000000 in
theorem tick_4 (W0 : World) (b g : Nat) (ai : Option Addr) (ci : Nat) (ins : List Int) (st : Mc.St) (vr vd vo : Value) (m : Im.Img) (W : World) (wv : Int) (rd rs1 rs2 : Nat) (n fb : Int) (h : TickPre W0 b g ai ci ins st vr vd vo m W wv 4 rd rs1 rs2 n fb) :
    Calls Tryd.prog 17 #[.pointer (some ⟨b, 0, none⟩)] W fun e W' => e = .returned (.tuple #[]) ∧ Ticks W0 b g (.slice ai ins.length ci) st.steps (Mc.did m ins 4 rd rs1 rs2 n st) W' := by
  have SM := hid (show Mc.Same { Mc.set rd (st.pc + 4) st with pc := Mc.wd (Mc.wd (Mc.reg st rs1 + n) - Mc.wd (Mc.reg st rs1 + n) % 2) } (Mc.did m ins 4 rd rs1 rs2 n st) by
    have e : Mc.doIt m ins 4 rd rs1 rs2 n { st with next := Mc.wd (st.pc + 4) } = { Mc.set rd (st.pc + 4) st with next := Mc.wd (Mc.wd (Mc.reg st rs1 + n) - Mc.wd (Mc.reg st rs1 + n) % 2) } := by
      show { Mc.set rd (st.pc + 4) { st with next := Mc.wd (st.pc + 4) } with next := Mc.wd ((Mc.reg st rs1 + n) - (Mc.reg st rs1 + n) % 2) } = _
      rw [Mc.set_next, show Mc.wd ((Mc.reg st rs1 + n) - (Mc.reg st rs1 + n) % 2) = Mc.wd (Mc.wd (Mc.reg st rs1 + n) - Mc.wd (Mc.reg st rs1 + n) % 2) by unfold Mc.wd; omega]
    unfold Mc.did; rw [e]; exact ⟨rfl, rfl, rfl, rfl, rfl, rfl, fun _ => rfl⟩)
  have qr := Mc.wd_range (Mc.reg st rs1 + n)
  have hp := h.at_.ok.pc
  have cC := hid (fun k => fetch_any g m st.pc (W.drewN k) (h.img.kept (grown_drewN h.at_.gr k)) h.tame hp.1 hp.2)
  rw [h.code] at cC
  have cO := hid h.of
  have PR := hid h
  have H := hid h.at_
  obtain ⟨rg, cap, hvr, hc1, hc2, -, -⟩ := h.at_.reg
  subst hvr
  have c0 : W.cell? ⟨b, 0, none⟩ = some (.pointer (some ⟨g, 0, none⟩)) := h.at_.cells 0
  have c2 : W.cell? ⟨b, 2, none⟩ = some (.int .i64 st.pc) := h.at_.cells 2
  have hrd := h.rd
  have hrs1 := h.rs1
  have hrs2 := h.rs2
  have hn0 := h.n0
  have hn1 := h.n1
  have ra := reg_range h.at_.ok rs1
  have rb := reg_range h.at_.ok rs2
  have w1 : IntKind.i64.wrap (st.pc + 4) = st.pc + 4 := IntWalk.i64_in _ ⟨by omega, by omega⟩
  have w2 : IntKind.i64.wrap (n * 4096) = n * 4096 := IntWalk.i64_in _ ⟨by omega, by omega⟩
  have w3 : IntKind.i64.wrap (st.pc + n * 4096) = st.pc + n * 4096 := IntWalk.i64_in _ ⟨by omega, by omega⟩
  have w4 : IntKind.i64.wrap (st.pc + n) = st.pc + n := IntWalk.i64_in _ ⟨by omega, by omega⟩
  have w5 : IntKind.i64.wrap (Mc.reg st rs1 + n) = Mc.reg st rs1 + n := IntWalk.i64_in _ ⟨by omega, by omega⟩
  have g1 : (rs1 : Int) < 32 := by omega
  have g2 : (rs2 : Int) < 32 := by omega
  have cB := hid (fun v W => rBits_any v W)
  have hcm := hc2
  unfold maxLen at hcm
  have hlo := h.lo
  clear h
  simp only [Option.getD_some, Option.isSome_some] at cC
  unfold insR at cO
  go_enter Tryd.func17, Tryd.ntmps17
  go_wp2
  go_quiet ((go_at_call 15; exact Calls.quiet_of (cC.out _)))
  have H1 := hid (H.out.grown (grown_drewN (World.grownBy.refl _ none) nq))
  clear H cC c0 c2
  generalize W.drewN nq = V at *
  go_wp2_with fail
  refine (cO.out _).mono ?_
  rintro e V2 ⟨rfl, hg2⟩
  have H2 := hid ((H1.out.grown hg2).grown (World.grownBy_alloc V2 (.cells #[.int .i64 4, .int .i64 rd, .int .i64 rs1, .int .i64 rs2, .int .i64 n, .int .u8 fb] 75) none))
  have BX := hid (BlkAt.new V2 #[.int .i64 4, .int .i64 rd, .int .i64 rs1, .int .i64 rs2, .int .i64 n, .int .u8 fb] 75)
  have hbX : b < V2.heap.size := by have := (H1.out.grown hg2).blk.lt; exact this
  have hgX : rg < V2.heap.size := ((H1.out.grown hg2).regs.lt rg rfl).2
  clear H1 hg2 cO
  go_wp2
  generalize V2.alloc (.cells #[.int .i64 4, .int .i64 rd, .int .i64 rs1, .int .i64 rs2, .int .i64 n, .int .u8 fb] 75) = V3 at *
  generalize V2.heap.size = X at *
  have c1 : V3.cell? ⟨b, 1, none⟩ = some (.slice (some ⟨rg, 0, none⟩) 32 cap) := H2.out.cells 1
  have x2 : V3.cell? ⟨X, 2, none⟩ = some (.int .i64 rs1) := BX.out.cell 2
  have r1 := H2.out.regc rs1 hrs1
  go_quiet (fail)
  have H3 := hid (H2.out.grown (grown_drewN (World.grownBy.refl _ none) nq))
  have B3 := hid (BX.out.drewN nq)
  clear c1 x2 r1 H2 BX
  generalize V3.drewN nq = V4 at *
  have c1 : V4.cell? ⟨b, 1, none⟩ = some (.slice (some ⟨rg, 0, none⟩) 32 cap) := H3.out.cells 1
  have x3 : V4.cell? ⟨X, 3, none⟩ = some (.int .i64 rs2) := B3.out.cell 3
  have r2 := H3.out.regc rs2 hrs2
  go_wp2
  go_quiet (fail)
  have H4 := hid (H3.out.grown (grown_drewN (World.grownBy.refl _ none) nq))
  have B4 := hid (B3.out.drewN nq)
  clear c1 x3 r2 H3 B3
  generalize V4.drewN nq = U at *
  have c0 : U.cell? ⟨b, 0, none⟩ = some (.pointer (some ⟨g, 0, none⟩)) := H4.out.cells 0
  have c2 : U.cell? ⟨b, 2, none⟩ = some (.int .i64 st.pc) := H4.out.cells 2
  have x0 : U.cell? ⟨X, 0, none⟩ = some (.int .i64 4) := B4.out.cell 0
  have x1 : U.cell? ⟨X, 1, none⟩ = some (.int .i64 rd) := B4.out.cell 1
  have x4 : U.cell? ⟨X, 4, none⟩ = some (.int .i64 n) := B4.out.cell 4
  have x5 : U.cell? ⟨X, 5, none⟩ = some (.int .u8 fb) := B4.out.cell 5
  have cP := hid (fun W hW => rPut_any W0 b g (.slice ai ins.length ci) st (.slice (some ⟨rg, 0, none⟩) 32 cap) vd vo rd (st.pc + 4) W hW (by omega) (by omega))
  go_wp2_with fail
  refine (cP.out _ H4.out).mono ?_
  rintro e V6 ⟨rfl, h6, g6⟩
  have H6 := hid h6
  have B6 := hid (B4.out.grown g6 (fun e => by simp [Value.ownBlock] at e; omega))
  clear h6 g6 c0 c2 x0 x1 x4 x5 H4 B4 cP
  have c2 : V6.cell? ⟨b, 2, none⟩ = some (.int .i64 (Mc.set rd (st.pc + 4) st).pc) := H6.out.cells 2
  rw [set_pc] at c2
  have f2 := H6.out.free 2
  have x4 : V6.cell? ⟨X, 4, none⟩ = some (.int .i64 n) := B6.out.cell 4
  go_wp2_with fail
  refine (cB.out _ _).mono ?_
  rintro e V8 ⟨rfl, hV8⟩
  subst hV8
  generalize Mc.wd (Mc.reg st rs1 + n) = q at *
  have e1 : q.tmod 2 = q % 2 := Int.tmod_eq_emod_of_nonneg (by omega)
  have e2 : IntKind.i64.wrap (q - q % 2) = q - q % 2 := IntWalk.i64_in _ ⟨by omega, by omega⟩
  go_wp2_with fail
  refine (cB.out _ _).mono ?_
  rintro e V7 ⟨rfl, hV7⟩
  subst hV7
  go_wp2
  go_end0
  exact ⟨rfl, _, _, _, _, H6.out.putPc _ (Mc.wd_range _), SM.out, (set_fields rd (st.pc + 4) st).2.2.2.2.2.2.2⟩

end Go.Proofs.YtaiplongpjimnaaDoor

namespace Go.Proofs.YtaiplongpjimnaaDoor
open Go.RowKit

set_option maxRecDepth 100000 in
set_option maxHeartbeats 8000000 in
theorem tick_11 (W0 : World) (b g : Nat) (ai : Option Addr) (ci : Nat) (ins : List Int) (st : Mc.St) (vr vd vo : Value) (m : Im.Img) (W : World) (wv : Int) (rd rs1 rs2 : Nat) (n fb : Int) (h : TickPre W0 b g ai ci ins st vr vd vo m W wv 11 rd rs1 rs2 n fb) :
    Calls Tryd.prog 17 #[.pointer (some ⟨b, 0, none⟩)] W fun e W' => e = .returned (.tuple #[]) ∧ Ticks W0 b g (.slice ai ins.length ci) st.steps (Mc.did m ins 11 rd rs1 rs2 n st) W' := by
  have qr := Mc.wd_range (Mc.reg st rs1 + n)
  have SM := hid (show Mc.did m ins 11 rd rs1 rs2 n st = { (match Mc.wordAt m st (Mc.wd (Mc.reg st rs1 + n)) with | some v => { Mc.set rd v st with next := Mc.wd (st.pc + 4) } | none => { st with ende := 4, next := Mc.wd (st.pc + 4) }) with pc := Mc.wd (st.pc + 4) } by
    have e : Mc.doIt m ins 11 rd rs1 rs2 n { st with next := Mc.wd (st.pc + 4) } = Mc.load m rd (Mc.wd (Mc.reg st rs1 + n)) { st with next := Mc.wd (st.pc + 4) } := rfl
    have e2 : Mc.load m rd (Mc.wd (Mc.reg st rs1 + n)) { st with next := Mc.wd (st.pc + 4) } = (match Mc.wordAt m st (Mc.wd (Mc.reg st rs1 + n)) with | some v => { Mc.set rd v st with next := Mc.wd (st.pc + 4) } | none => { st with ende := 4, next := Mc.wd (st.pc + 4) }) := by
      rw [load_word, show Mc.wordAt m { st with next := Mc.wd (st.pc + 4) } (Mc.wd (Mc.reg st rs1 + n)) = Mc.wordAt m st (Mc.wd (Mc.reg st rs1 + n)) from rfl]
      cases Mc.wordAt m st (Mc.wd (Mc.reg st rs1 + n)) with
      | none => rfl
      | some v => exact Mc.set_next _ _ _ _
    unfold Mc.did; rw [e, e2]
    cases Mc.wordAt m st (Mc.wd (Mc.reg st rs1 + n)) <;> rfl)
  have cR := hid (fun W hW => rRead_any W0 b g (.slice ai ins.length ci) st vr vd vo m (Mc.wd (Mc.reg st rs1 + n)) W hW h.img h.tame qr.1 qr.2)
  have hp := h.at_.ok.pc
  have cC := hid (fun k => fetch_any g m st.pc (W.drewN k) (h.img.kept (grown_drewN h.at_.gr k)) h.tame hp.1 hp.2)
  rw [h.code] at cC
  have cO := hid h.of
  have PR := hid h
  have H := hid h.at_
  obtain ⟨rg, cap, hvr, hc1, hc2, -, -⟩ := h.at_.reg
  subst hvr
  have c0 : W.cell? ⟨b, 0, none⟩ = some (.pointer (some ⟨g, 0, none⟩)) := h.at_.cells 0
  have c2 : W.cell? ⟨b, 2, none⟩ = some (.int .i64 st.pc) := h.at_.cells 2
  have hrd := h.rd
  have hrs1 := h.rs1
  have hrs2 := h.rs2
  have hn0 := h.n0
  have hn1 := h.n1
  have ra := reg_range h.at_.ok rs1
  have rb := reg_range h.at_.ok rs2
  have w1 : IntKind.i64.wrap (st.pc + 4) = st.pc + 4 := IntWalk.i64_in _ ⟨by omega, by omega⟩
  have w2 : IntKind.i64.wrap (n * 4096) = n * 4096 := IntWalk.i64_in _ ⟨by omega, by omega⟩
  have w3 : IntKind.i64.wrap (st.pc + n * 4096) = st.pc + n * 4096 := IntWalk.i64_in _ ⟨by omega, by omega⟩
  have w4 : IntKind.i64.wrap (st.pc + n) = st.pc + n := IntWalk.i64_in _ ⟨by omega, by omega⟩
  have w5 : IntKind.i64.wrap (Mc.reg st rs1 + n) = Mc.reg st rs1 + n := IntWalk.i64_in _ ⟨by omega, by omega⟩
  have g1 : (rs1 : Int) < 32 := by omega
  have g2 : (rs2 : Int) < 32 := by omega
  have cB := hid (fun v W => rBits_any v W)
  have hcm := hc2
  unfold maxLen at hcm
  have hlo := h.lo
  clear h
  simp only [Option.getD_some, Option.isSome_some] at cC
  unfold insR at cO
  go_enter Tryd.func17, Tryd.ntmps17
  go_wp2
  go_quiet ((go_at_call 15; exact Calls.quiet_of (cC.out _)))
  have H1 := hid (H.out.grown (grown_drewN (World.grownBy.refl _ none) nq))
  clear H cC c0 c2
  generalize W.drewN nq = V at *
  go_wp2_with fail
  refine (cO.out _).mono ?_
  rintro e V2 ⟨rfl, hg2⟩
  have H2 := hid ((H1.out.grown hg2).grown (World.grownBy_alloc V2 (.cells #[.int .i64 11, .int .i64 rd, .int .i64 rs1, .int .i64 rs2, .int .i64 n, .int .u8 fb] 75) none))
  have BX := hid (BlkAt.new V2 #[.int .i64 11, .int .i64 rd, .int .i64 rs1, .int .i64 rs2, .int .i64 n, .int .u8 fb] 75)
  have hbX : b < V2.heap.size := by have := (H1.out.grown hg2).blk.lt; exact this
  have hgX : rg < V2.heap.size := ((H1.out.grown hg2).regs.lt rg rfl).2
  clear H1 hg2 cO
  go_wp2
  generalize V2.alloc (.cells #[.int .i64 11, .int .i64 rd, .int .i64 rs1, .int .i64 rs2, .int .i64 n, .int .u8 fb] 75) = V3 at *
  generalize V2.heap.size = X at *
  have c1 : V3.cell? ⟨b, 1, none⟩ = some (.slice (some ⟨rg, 0, none⟩) 32 cap) := H2.out.cells 1
  have x2 : V3.cell? ⟨X, 2, none⟩ = some (.int .i64 rs1) := BX.out.cell 2
  have r1 := H2.out.regc rs1 hrs1
  go_quiet (fail)
  have H3 := hid (H2.out.grown (grown_drewN (World.grownBy.refl _ none) nq))
  have B3 := hid (BX.out.drewN nq)
  clear c1 x2 r1 H2 BX
  generalize V3.drewN nq = V4 at *
  have c1 : V4.cell? ⟨b, 1, none⟩ = some (.slice (some ⟨rg, 0, none⟩) 32 cap) := H3.out.cells 1
  have x3 : V4.cell? ⟨X, 3, none⟩ = some (.int .i64 rs2) := B3.out.cell 3
  have r2 := H3.out.regc rs2 hrs2
  go_wp2
  go_quiet (fail)
  have H4 := hid (H3.out.grown (grown_drewN (World.grownBy.refl _ none) nq))
  have B4 := hid (B3.out.drewN nq)
  clear c1 x3 r2 H3 B3
  generalize V4.drewN nq = U at *
  have c0 : U.cell? ⟨b, 0, none⟩ = some (.pointer (some ⟨g, 0, none⟩)) := H4.out.cells 0
  have c2 : U.cell? ⟨b, 2, none⟩ = some (.int .i64 st.pc) := H4.out.cells 2
  have x0 : U.cell? ⟨X, 0, none⟩ = some (.int .i64 11) := B4.out.cell 0
  have x1 : U.cell? ⟨X, 1, none⟩ = some (.int .i64 rd) := B4.out.cell 1
  have x4 : U.cell? ⟨X, 4, none⟩ = some (.int .i64 n) := B4.out.cell 4
  have x5 : U.cell? ⟨X, 5, none⟩ = some (.int .u8 fb) := B4.out.cell 5
  have cP := hid (fun v W hW => rPut_any W0 b g (.slice ai ins.length ci) st (.slice (some ⟨rg, 0, none⟩) 32 cap) vd vo rd v W hW (by omega) (by omega))
  go_wp2_with fail
  refine (cB.out _ _).mono ?_
  rintro e V8 ⟨rfl, hV8⟩
  subst hV8
  go_wp2_with fail
  refine (cR.out _ H4.out).mono ?_
  rintro e V9 ⟨rfl, h9, g9⟩
  have H9 := hid h9
  have B9 := hid (B4.out.grown g9 (by simp))
  clear h9 g9 H4 B4 c0 c2 x0 x1 x4 x5 cR
  have x1 : V9.cell? ⟨X, 1, none⟩ = some (.int .i64 rd) := B9.out.cell 1
  have c5 : V9.cell? ⟨b, 5, none⟩ = some (.int .i64 st.ende) := H9.out.cells 5
  have f5 := H9.out.free 5
  generalize Mc.wordAt m st (Mc.wd (Mc.reg st rs1 + n)) = ow at *
  cases ow with
  | none =>
    go_wp2
    (try simp only [Exit.inBlock, Exit.then]); refine bodyPost_ret (results_none rfl _ _ _) rfl ?_
    refine ⟨rfl, _, _, _, _, H9.out.putEnd 4, ?_, rfl⟩
    rw [SM.out]
    exact ⟨rfl, rfl, rfl, rfl, rfl, rfl, fun e => absurd (show (4 : Int) = 0 from e) (by decide)⟩
  | some v =>
    simp only [Option.getD_some, Option.isSome_some]
    go_wp2_with fail
    refine (cP.out v _ H9.out).mono ?_
    rintro e V6 ⟨rfl, h6, g6⟩
    have H6 := hid h6
    clear h6 g6 c5 f5 x1 H9 B9
    have c2 : V6.cell? ⟨b, 2, none⟩ = some (.int .i64 (Mc.set rd v st).pc) := H6.out.cells 2
    rw [set_pc] at c2
    have f2 := H6.out.free 2
    go_wp2_with fail
    refine (cB.out _ _).mono ?_
    rintro e V7 ⟨rfl, hV7⟩
    subst hV7
    go_wp2
    go_end0
    refine ⟨rfl, _, _, _, _, H6.out.putPc _ (Mc.wd_range _), ?_, (set_fields rd v st).2.2.2.2.2.2.2⟩
    rw [SM.out]
    exact ⟨rfl, rfl, rfl, rfl, rfl, rfl, fun _ => rfl⟩

set_option maxRecDepth 100000 in
set_option maxHeartbeats 8000000 in
theorem tick_12 (W0 : World) (b g : Nat) (ai : Option Addr) (ci : Nat) (ins : List Int) (st : Mc.St) (vr vd vo : Value) (m : Im.Img) (W : World) (wv : Int) (rd rs1 rs2 : Nat) (n fb : Int) (h : TickPre W0 b g ai ci ins st vr vd vo m W wv 12 rd rs1 rs2 n fb) :
    Calls Tryd.prog 17 #[.pointer (some ⟨b, 0, none⟩)] W fun e W' => e = .returned (.tuple #[]) ∧ Ticks W0 b g (.slice ai ins.length ci) st.steps (Mc.did m ins 12 rd rs1 rs2 n st) W' := by
  have qr := Mc.wd_range (Mc.reg st rs1 + n)
  have SM := hid (show Mc.did m ins 12 rd rs1 rs2 n st = { (if 0 ≤ Im.place m.data st.data.length (Mc.wd (Mc.reg st rs1 + n)) then { st with data := st.data.set (Im.place m.data st.data.length (Mc.wd (Mc.reg st rs1 + n))).toNat (Mc.reg st rs2), next := Mc.wd (st.pc + 4) } else { st with ende := 5, next := Mc.wd (st.pc + 4) }) with pc := Mc.wd (st.pc + 4) } by
    have e : Mc.doIt m ins 12 rd rs1 rs2 n { st with next := Mc.wd (st.pc + 4) } = Mc.store m (Mc.wd (Mc.reg st rs1 + n)) (Mc.reg st rs2) { st with next := Mc.wd (st.pc + 4) } := rfl
    unfold Mc.did; rw [e]; unfold Mc.store; dsimp only
    split <;> rfl)
  have cI := hid (fun W => index_any st.data.length m.data (Mc.wd (Mc.reg st rs1 + n)) W qr.1 qr.2 h.tame.data.1 h.tame.data.2)
  have HI := hid h.img
  have hp := h.at_.ok.pc
  have cC := hid (fun k => fetch_any g m st.pc (W.drewN k) (h.img.kept (grown_drewN h.at_.gr k)) h.tame hp.1 hp.2)
  rw [h.code] at cC
  have cO := hid h.of
  have PR := hid h
  have H := hid h.at_
  obtain ⟨rg, cap, hvr, hc1, hc2, -, -⟩ := h.at_.reg
  subst hvr
  have c0 : W.cell? ⟨b, 0, none⟩ = some (.pointer (some ⟨g, 0, none⟩)) := h.at_.cells 0
  have c2 : W.cell? ⟨b, 2, none⟩ = some (.int .i64 st.pc) := h.at_.cells 2
  have hrd := h.rd
  have hrs1 := h.rs1
  have hrs2 := h.rs2
  have hn0 := h.n0
  have hn1 := h.n1
  have ra := reg_range h.at_.ok rs1
  have rb := reg_range h.at_.ok rs2
  have w1 : IntKind.i64.wrap (st.pc + 4) = st.pc + 4 := IntWalk.i64_in _ ⟨by omega, by omega⟩
  have w2 : IntKind.i64.wrap (n * 4096) = n * 4096 := IntWalk.i64_in _ ⟨by omega, by omega⟩
  have w3 : IntKind.i64.wrap (st.pc + n * 4096) = st.pc + n * 4096 := IntWalk.i64_in _ ⟨by omega, by omega⟩
  have w4 : IntKind.i64.wrap (st.pc + n) = st.pc + n := IntWalk.i64_in _ ⟨by omega, by omega⟩
  have w5 : IntKind.i64.wrap (Mc.reg st rs1 + n) = Mc.reg st rs1 + n := IntWalk.i64_in _ ⟨by omega, by omega⟩
  have g1 : (rs1 : Int) < 32 := by omega
  have g2 : (rs2 : Int) < 32 := by omega
  have cB := hid (fun v W => rBits_any v W)
  have hcm := hc2
  unfold maxLen at hcm
  have hlo := h.lo
  clear h
  simp only [Option.getD_some, Option.isSome_some] at cC
  unfold insR at cO
  go_enter Tryd.func17, Tryd.ntmps17
  go_wp2
  go_quiet ((go_at_call 15; exact Calls.quiet_of (cC.out _)))
  have H1 := hid (H.out.grown (grown_drewN (World.grownBy.refl _ none) nq))
  clear H cC c0 c2
  generalize W.drewN nq = V at *
  go_wp2_with fail
  refine (cO.out _).mono ?_
  rintro e V2 ⟨rfl, hg2⟩
  have H2 := hid ((H1.out.grown hg2).grown (World.grownBy_alloc V2 (.cells #[.int .i64 12, .int .i64 rd, .int .i64 rs1, .int .i64 rs2, .int .i64 n, .int .u8 fb] 75) none))
  have BX := hid (BlkAt.new V2 #[.int .i64 12, .int .i64 rd, .int .i64 rs1, .int .i64 rs2, .int .i64 n, .int .u8 fb] 75)
  have hbX : b < V2.heap.size := by have := (H1.out.grown hg2).blk.lt; exact this
  have hgX : rg < V2.heap.size := ((H1.out.grown hg2).regs.lt rg rfl).2
  clear H1 hg2 cO
  go_wp2
  generalize V2.alloc (.cells #[.int .i64 12, .int .i64 rd, .int .i64 rs1, .int .i64 rs2, .int .i64 n, .int .u8 fb] 75) = V3 at *
  generalize V2.heap.size = X at *
  have c1 : V3.cell? ⟨b, 1, none⟩ = some (.slice (some ⟨rg, 0, none⟩) 32 cap) := H2.out.cells 1
  have x2 : V3.cell? ⟨X, 2, none⟩ = some (.int .i64 rs1) := BX.out.cell 2
  have r1 := H2.out.regc rs1 hrs1
  go_quiet (fail)
  have H3 := hid (H2.out.grown (grown_drewN (World.grownBy.refl _ none) nq))
  have B3 := hid (BX.out.drewN nq)
  clear c1 x2 r1 H2 BX
  generalize V3.drewN nq = V4 at *
  have c1 : V4.cell? ⟨b, 1, none⟩ = some (.slice (some ⟨rg, 0, none⟩) 32 cap) := H3.out.cells 1
  have x3 : V4.cell? ⟨X, 3, none⟩ = some (.int .i64 rs2) := B3.out.cell 3
  have r2 := H3.out.regc rs2 hrs2
  go_wp2
  go_quiet (fail)
  have H4 := hid (H3.out.grown (grown_drewN (World.grownBy.refl _ none) nq))
  have B4 := hid (B3.out.drewN nq)
  clear c1 x3 r2 H3 B3
  generalize V4.drewN nq = U at *
  have c0 : U.cell? ⟨b, 0, none⟩ = some (.pointer (some ⟨g, 0, none⟩)) := H4.out.cells 0
  have c2 : U.cell? ⟨b, 2, none⟩ = some (.int .i64 st.pc) := H4.out.cells 2
  have x0 : U.cell? ⟨X, 0, none⟩ = some (.int .i64 12) := B4.out.cell 0
  have x1 : U.cell? ⟨X, 1, none⟩ = some (.int .i64 rd) := B4.out.cell 1
  have x4 : U.cell? ⟨X, 4, none⟩ = some (.int .i64 n) := B4.out.cell 4
  have x5 : U.cell? ⟨X, 5, none⟩ = some (.int .u8 fb) := B4.out.cell 5
  have g3 := (HI.out.kept H4.out.gr).data
  obtain ⟨ad, cdp, hvd⟩ := own_form H4.out.data
  subst hvd
  have c3 : U.cell? ⟨b, 3, none⟩ = some (.slice ad st.data.length cdp) := H4.out.cells 3
  have hcap := own_cap H4.out.data
  have hcl := hcap.2
  unfold maxLen at hcl
  have r := Im.place_range m.data st.data.length (Mc.wd (Mc.reg st rs1 + n))
  generalize Im.place m.data st.data.length (Mc.wd (Mc.reg st rs1 + n)) = i at *
  go_wp2_with fail
  refine (cB.out _ _).mono ?_
  rintro e V8 ⟨rfl, hV8⟩
  subst hV8
  go_wp2
  go_quiet ((go_at_call 22; exact Calls.quiet_of_same (cI.out _)))
  have H9 := hid (H4.out.grown (grown_drewN (World.grownBy.refl _ none) nq))
  clear H4 B4 c0 c2 x0 x1 x4 x5 c3 g3
  generalize V8.drewN nq = V9 at *
  by_cases hi : 0 ≤ i
  · have d : decide (i < 0) = false := by simp; omega
    rw [if_pos hi] at SM
    obtain ⟨k, rfl⟩ := Int.eq_ofNat_of_zero_le hi
    have hk : k < st.data.length := by omega
    obtain ⟨sg, rfl, hf, hc1', hc2', hcells⟩ := own_some H9.out.data (by omega)
    have c3 : V9.cell? ⟨b, 3, none⟩ = some (.slice (some ⟨sg, 0, none⟩) st.data.length cdp) := H9.out.cells 3
    have ck := hcells k hk
    rw [List.getElem?_map, List.getElem?_eq_getElem hk, Option.map_some] at ck
    have fk := hf k
    have gk : (k : Int) < (st.data.length : Int) := by omega
    rw [Int.toNat_natCast] at SM
    clear hf hcells
    have H6 := hid (H9.out.putData rfl k (Mc.reg st rs2) rb)
    have c2 := H6.out.cells 2
    have c2' : (V9.setCell ⟨sg, k, none⟩ (.int .i64 (Mc.reg st rs2))).cell? ⟨b, 2, none⟩ = some (.int .i64 st.pc) := c2
    have f2 := H6.out.free 2
    clear c2
    have c2o : V9.cell? ⟨b, 2, none⟩ = some (.int .i64 st.pc) := H9.out.cells 2
    have hne : sg ≠ b := (H9.out.apd sg rfl).1
    go_wp2_with fail
    refine (cB.out _ _).mono ?_
    rintro e V7 ⟨rfl, hV7⟩
    subst hV7
    go_wp2
    go_end0
    refine ⟨rfl, _, _, _, _, H6.out.putPc _ (Mc.wd_range _), ?_, rfl⟩
    rw [SM.out]
    exact ⟨rfl, rfl, rfl, rfl, rfl, rfl, fun _ => rfl⟩
  · have d : decide (i < 0) = true := by simp; omega
    rw [if_neg hi] at SM
    have c5 : V9.cell? ⟨b, 5, none⟩ = some (.int .i64 st.ende) := H9.out.cells 5
    have f5 := H9.out.free 5
    go_wp2
    (try simp only [Exit.inBlock, Exit.then]); refine bodyPost_ret (results_none rfl _ _ _) rfl ?_
    refine ⟨rfl, _, _, _, _, H9.out.putEnd 5, ?_, rfl⟩
    rw [SM.out]
    exact ⟨rfl, rfl, rfl, rfl, rfl, rfl, fun e => absurd (show (5 : Int) = 0 from e) (by decide)⟩

end Go.Proofs.YtaiplongpjimnaaDoor
