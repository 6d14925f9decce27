/- Walks over the document's machine: a tick, more. -/
import Derived.Test.YtaiplongpjimnaaDoorG11
namespace Go.Proofs.YtaiplongpjimnaaDoor
open Go.RowKit

set_option maxRecDepth 100000 in
set_option maxHeartbeats 8000000 in
theorem tick_25 (W0 : World) (b g : Nat) (ai : Option Addr) (ci : Nat) (ins : List Int) (st : Mc.St) (vr vd vo : Value) (m : Im.Img) (W : World) (wv : Int) (rd rs1 rs2 : Nat) (n fb : Int) (h : TickPre W0 b g ai ci ins st vr vd vo m W wv 25 rd rs1 rs2 n fb) :
    Calls Tryd.prog 17 #[.pointer (some ⟨b, 0, none⟩)] W fun e W' => e = .returned (.tuple #[]) ∧ Ticks W0 b g (.slice ai ins.length ci) st.steps (Mc.did m ins 25 rd rs1 rs2 n st) W' := by
  have SM := hid (show Mc.Same { Mc.call ins st with pc := Mc.wd (st.pc + 4) } (Mc.did m ins 25 rd rs1 rs2 n st) by
    have e : Mc.doIt m ins 25 rd rs1 rs2 n { st with next := Mc.wd (st.pc + 4) } = { Mc.call ins st with next := Mc.wd (st.pc + 4) } := call_next _ _ _
    unfold Mc.did; rw [e]; exact ⟨rfl, rfl, rfl, rfl, rfl, rfl, fun _ => rfl⟩)
  have cA := hid (fun vr W hW => rAsk_any W0 b g ai ci ins st vr vd vo W hW h.inp h.len)
  have hp := h.at_.ok.pc
  have cC := hid (fun k => fetch_any g m st.pc (W.drewN k) (h.img.kept (grown_drewN h.at_.gr k)) h.tame hp.1 hp.2)
  rw [h.code] at cC
  have cO := hid h.of
  have PR := hid h
  have H := hid h.at_
  obtain ⟨rg, cap, hvr, hc1, hc2, -, -⟩ := h.at_.reg
  subst hvr
  have c0 : W.cell? ⟨b, 0, none⟩ = some (.pointer (some ⟨g, 0, none⟩)) := h.at_.cells 0
  have c2 : W.cell? ⟨b, 2, none⟩ = some (.int .i64 st.pc) := h.at_.cells 2
  have hrd := h.rd
  have hrs1 := h.rs1
  have hrs2 := h.rs2
  have hn0 := h.n0
  have hn1 := h.n1
  have ra := reg_range h.at_.ok rs1
  have rb := reg_range h.at_.ok rs2
  have w1 : IntKind.i64.wrap (st.pc + 4) = st.pc + 4 := IntWalk.i64_in _ ⟨by omega, by omega⟩
  have w2 : IntKind.i64.wrap (n * 4096) = n * 4096 := IntWalk.i64_in _ ⟨by omega, by omega⟩
  have w3 : IntKind.i64.wrap (st.pc + n * 4096) = st.pc + n * 4096 := IntWalk.i64_in _ ⟨by omega, by omega⟩
  have w4 : IntKind.i64.wrap (st.pc + n) = st.pc + n := IntWalk.i64_in _ ⟨by omega, by omega⟩
  have w5 : IntKind.i64.wrap (Mc.reg st rs1 + n) = Mc.reg st rs1 + n := IntWalk.i64_in _ ⟨by omega, by omega⟩
  have g1 : (rs1 : Int) < 32 := by omega
  have g2 : (rs2 : Int) < 32 := by omega
  have cB := hid (fun v W => rBits_any v W)
  have hcm := hc2
  unfold maxLen at hcm
  have hlo := h.lo
  clear h
  simp only [Option.getD_some, Option.isSome_some] at cC
  unfold insR at cO
  go_enter Tryd.func17, Tryd.ntmps17
  go_wp2
  go_quiet ((go_at_call 15; exact Calls.quiet_of (cC.out _)))
  have H1 := hid (H.out.grown (grown_drewN (World.grownBy.refl _ none) nq))
  clear H cC c0 c2
  generalize W.drewN nq = V at *
  go_wp2_with fail
  refine (cO.out _).mono ?_
  rintro e V2 ⟨rfl, hg2⟩
  have H2 := hid ((H1.out.grown hg2).grown (World.grownBy_alloc V2 (.cells #[.int .i64 25, .int .i64 rd, .int .i64 rs1, .int .i64 rs2, .int .i64 n, .int .u8 fb] 75) none))
  have BX := hid (BlkAt.new V2 #[.int .i64 25, .int .i64 rd, .int .i64 rs1, .int .i64 rs2, .int .i64 n, .int .u8 fb] 75)
  have hbX : b < V2.heap.size := by have := (H1.out.grown hg2).blk.lt; exact this
  have hgX : rg < V2.heap.size := ((H1.out.grown hg2).regs.lt rg rfl).2
  clear H1 hg2 cO
  go_wp2
  generalize V2.alloc (.cells #[.int .i64 25, .int .i64 rd, .int .i64 rs1, .int .i64 rs2, .int .i64 n, .int .u8 fb] 75) = V3 at *
  generalize V2.heap.size = X at *
  have c1 : V3.cell? ⟨b, 1, none⟩ = some (.slice (some ⟨rg, 0, none⟩) 32 cap) := H2.out.cells 1
  have x2 : V3.cell? ⟨X, 2, none⟩ = some (.int .i64 rs1) := BX.out.cell 2
  have r1 := H2.out.regc rs1 hrs1
  go_quiet (fail)
  have H3 := hid (H2.out.grown (grown_drewN (World.grownBy.refl _ none) nq))
  have B3 := hid (BX.out.drewN nq)
  clear c1 x2 r1 H2 BX
  generalize V3.drewN nq = V4 at *
  have c1 : V4.cell? ⟨b, 1, none⟩ = some (.slice (some ⟨rg, 0, none⟩) 32 cap) := H3.out.cells 1
  have x3 : V4.cell? ⟨X, 3, none⟩ = some (.int .i64 rs2) := B3.out.cell 3
  have r2 := H3.out.regc rs2 hrs2
  go_wp2
  go_quiet (fail)
  have H4 := hid (H3.out.grown (grown_drewN (World.grownBy.refl _ none) nq))
  have B4 := hid (B3.out.drewN nq)
  clear c1 x3 r2 H3 B3
  generalize V4.drewN nq = U at *
  have c0 : U.cell? ⟨b, 0, none⟩ = some (.pointer (some ⟨g, 0, none⟩)) := H4.out.cells 0
  have c2 : U.cell? ⟨b, 2, none⟩ = some (.int .i64 st.pc) := H4.out.cells 2
  have x0 : U.cell? ⟨X, 0, none⟩ = some (.int .i64 25) := B4.out.cell 0
  have x1 : U.cell? ⟨X, 1, none⟩ = some (.int .i64 rd) := B4.out.cell 1
  have x4 : U.cell? ⟨X, 4, none⟩ = some (.int .i64 n) := B4.out.cell 4
  have x5 : U.cell? ⟨X, 5, none⟩ = some (.int .u8 fb) := B4.out.cell 5
  go_wp2_with fail
  refine (cA.out _ _ H4.out).mono ?_
  rintro e V6 ⟨rfl, vr6, vd6, vo6, h6⟩
  have H6 := hid h6
  clear h6 c0 c2 x0 x1 x4 x5 H4 B4
  have c2 : V6.cell? ⟨b, 2, none⟩ = some (.int .i64 (Mc.call ins st).pc) := H6.out.cells 2
  have f2 := H6.out.free 2
  go_wp2_with fail
  refine (cB.out _ _).mono ?_
  rintro e V7 ⟨rfl, hV7⟩
  subst hV7
  go_wp2
  go_end0
  exact ⟨rfl, _, _, _, _, H6.out.putPc _ (Mc.wd_range _), SM.out, call_steps ins st⟩

set_option maxRecDepth 100000 in
set_option maxHeartbeats 8000000 in
theorem tick_B (W0 : World) (b g : Nat) (ai : Option Addr) (ci : Nat) (ins : List Int) (st : Mc.St) (vr vd vo : Value) (m : Im.Img) (W : World) (wv : Int) (op : Nat) (rd rs1 rs2 : Nat) (n : Int) (h : TickPre W0 b g ai ci ins st vr vd vo m W wv op rd rs1 rs2 n 66) (ho : 5 ≤ op ∧ op ≤ 10) :
    Calls Tryd.prog 17 #[.pointer (some ⟨b, 0, none⟩)] W fun e W' => e = .returned (.tuple #[]) ∧ Ticks W0 b g (.slice ai ins.length ci) st.steps (Mc.did m ins op rd rs1 rs2 n st) W' := by
  have SM := hid (show Mc.Same { st with pc := Mc.wd (if Mc.holds op (Mc.reg st rs1) (Mc.reg st rs2) = true then st.pc + n else st.pc + 4) } (Mc.did m ins op rd rs1 rs2 n st) by
    have e : Mc.doIt m ins op rd rs1 rs2 n { st with next := Mc.wd (st.pc + 4) } = Mc.branch (Mc.holds op (Mc.reg st rs1) (Mc.reg st rs2)) n { st with next := Mc.wd (st.pc + 4) } := doIt_B m ins op rd rs1 rs2 n _ (by omega)
    unfold Mc.did; rw [e]
    cases Mc.holds op (Mc.reg st rs1) (Mc.reg st rs2) <;> exact ⟨rfl, rfl, rfl, rfl, rfl, rfl, fun _ => rfl⟩)
  have ra' := reg_range h.at_.ok rs1
  have rb' := reg_range h.at_.ok rs2
  have cG := hid (fun W => rGoes_any op (Mc.reg st rs1) (Mc.reg st rs2) W ra'.1 ra'.2 rb'.1 rb'.2 (by omega))
  have d1 : ((op : Int) == 1) = false := by simp; omega
  have d2 : ((op : Int) == 2) = false := by simp; omega
  have d3 : ((op : Int) == 3) = false := by simp; omega
  have d4 : ((op : Int) == 4) = false := by simp; omega
  have d11 : ((op : Int) == 11) = false := by simp; omega
  have d12 : ((op : Int) == 12) = false := by simp; omega
  have d25 : ((op : Int) == 25) = false := by simp; omega
  have hp := h.at_.ok.pc
  have cC := hid (fun k => fetch_any g m st.pc (W.drewN k) (h.img.kept (grown_drewN h.at_.gr k)) h.tame hp.1 hp.2)
  rw [h.code] at cC
  have cO := hid h.of
  have PR := hid h
  have H := hid h.at_
  obtain ⟨rg, cap, hvr, hc1, hc2, -, -⟩ := h.at_.reg
  subst hvr
  have c0 : W.cell? ⟨b, 0, none⟩ = some (.pointer (some ⟨g, 0, none⟩)) := h.at_.cells 0
  have c2 : W.cell? ⟨b, 2, none⟩ = some (.int .i64 st.pc) := h.at_.cells 2
  have hrd := h.rd
  have hrs1 := h.rs1
  have hrs2 := h.rs2
  have hn0 := h.n0
  have hn1 := h.n1
  have ra := reg_range h.at_.ok rs1
  have rb := reg_range h.at_.ok rs2
  have w1 : IntKind.i64.wrap (st.pc + 4) = st.pc + 4 := IntWalk.i64_in _ ⟨by omega, by omega⟩
  have w2 : IntKind.i64.wrap (n * 4096) = n * 4096 := IntWalk.i64_in _ ⟨by omega, by omega⟩
  have w3 : IntKind.i64.wrap (st.pc + n * 4096) = st.pc + n * 4096 := IntWalk.i64_in _ ⟨by omega, by omega⟩
  have w4 : IntKind.i64.wrap (st.pc + n) = st.pc + n := IntWalk.i64_in _ ⟨by omega, by omega⟩
  have w5 : IntKind.i64.wrap (Mc.reg st rs1 + n) = Mc.reg st rs1 + n := IntWalk.i64_in _ ⟨by omega, by omega⟩
  have g1 : (rs1 : Int) < 32 := by omega
  have g2 : (rs2 : Int) < 32 := by omega
  have cB := hid (fun v W => rBits_any v W)
  have hcm := hc2
  unfold maxLen at hcm
  have hlo := h.lo
  clear h
  simp only [Option.getD_some, Option.isSome_some] at cC
  unfold insR at cO
  go_enter Tryd.func17, Tryd.ntmps17
  go_wp2
  go_quiet ((go_at_call 15; exact Calls.quiet_of (cC.out _)))
  have H1 := hid (H.out.grown (grown_drewN (World.grownBy.refl _ none) nq))
  clear H cC c0 c2
  generalize W.drewN nq = V at *
  go_wp2_with fail
  refine (cO.out _).mono ?_
  rintro e V2 ⟨rfl, hg2⟩
  have H2 := hid ((H1.out.grown hg2).grown (World.grownBy_alloc V2 (.cells #[.int .i64 op, .int .i64 rd, .int .i64 rs1, .int .i64 rs2, .int .i64 n, .int .u8 66] 75) none))
  have BX := hid (BlkAt.new V2 #[.int .i64 op, .int .i64 rd, .int .i64 rs1, .int .i64 rs2, .int .i64 n, .int .u8 66] 75)
  have hbX : b < V2.heap.size := by have := (H1.out.grown hg2).blk.lt; exact this
  have hgX : rg < V2.heap.size := ((H1.out.grown hg2).regs.lt rg rfl).2
  clear H1 hg2 cO
  go_wp2
  generalize V2.alloc (.cells #[.int .i64 op, .int .i64 rd, .int .i64 rs1, .int .i64 rs2, .int .i64 n, .int .u8 66] 75) = V3 at *
  generalize V2.heap.size = X at *
  have c1 : V3.cell? ⟨b, 1, none⟩ = some (.slice (some ⟨rg, 0, none⟩) 32 cap) := H2.out.cells 1
  have x2 : V3.cell? ⟨X, 2, none⟩ = some (.int .i64 rs1) := BX.out.cell 2
  have r1 := H2.out.regc rs1 hrs1
  go_quiet (fail)
  have H3 := hid (H2.out.grown (grown_drewN (World.grownBy.refl _ none) nq))
  have B3 := hid (BX.out.drewN nq)
  clear c1 x2 r1 H2 BX
  generalize V3.drewN nq = V4 at *
  have c1 : V4.cell? ⟨b, 1, none⟩ = some (.slice (some ⟨rg, 0, none⟩) 32 cap) := H3.out.cells 1
  have x3 : V4.cell? ⟨X, 3, none⟩ = some (.int .i64 rs2) := B3.out.cell 3
  have r2 := H3.out.regc rs2 hrs2
  go_wp2
  go_quiet (fail)
  have H4 := hid (H3.out.grown (grown_drewN (World.grownBy.refl _ none) nq))
  have B4 := hid (B3.out.drewN nq)
  clear c1 x3 r2 H3 B3
  generalize V4.drewN nq = U at *
  have c0 : U.cell? ⟨b, 0, none⟩ = some (.pointer (some ⟨g, 0, none⟩)) := H4.out.cells 0
  have c2 : U.cell? ⟨b, 2, none⟩ = some (.int .i64 st.pc) := H4.out.cells 2
  have x0 : U.cell? ⟨X, 0, none⟩ = some (.int .i64 op) := B4.out.cell 0
  have x1 : U.cell? ⟨X, 1, none⟩ = some (.int .i64 rd) := B4.out.cell 1
  have x4 : U.cell? ⟨X, 4, none⟩ = some (.int .i64 n) := B4.out.cell 4
  have x5 : U.cell? ⟨X, 5, none⟩ = some (.int .u8 66) := B4.out.cell 5
  generalize Mc.holds op (Mc.reg st rs1) (Mc.reg st rs2) = t at *
  go_wp2_with fail
  refine (cG.out _).mono ?_
  rintro e V8 ⟨rfl, hV8⟩
  subst hV8
  cases t with
  | true =>
    simp only [if_true] at SM
    go_wp2
    go_quiet (fail)
    have H6 := hid (H4.out.grown (grown_drewN (World.grownBy.refl _ none) nq))
    clear c0 c2 x0 x1 x4 x5 H4 B4
    generalize V8.drewN nq = V6 at *
    have c2 : V6.cell? ⟨b, 2, none⟩ = some (.int .i64 st.pc) := H6.out.cells 2
    have f2 := H6.out.free 2
    go_wp2_with fail
    refine (cB.out _ _).mono ?_
    rintro e V7 ⟨rfl, hV7⟩
    subst hV7
    go_wp2
    go_end0
    exact ⟨rfl, _, _, _, _, H6.out.putPc _ (Mc.wd_range _), SM.out, rfl⟩
  | false =>
    simp only [Bool.false_eq_true, if_false] at SM
    have f2 := H4.out.free 2
    go_wp2_with fail
    refine (cB.out _ _).mono ?_
    rintro e V7 ⟨rfl, hV7⟩
    subst hV7
    go_wp2
    go_end0
    exact ⟨rfl, _, _, _, _, H4.out.putPc _ (Mc.wd_range _), SM.out, rfl⟩

set_option maxRecDepth 100000 in
set_option maxHeartbeats 8000000 in
theorem tick_I (W0 : World) (b g : Nat) (ai : Option Addr) (ci : Nat) (ins : List Int) (st : Mc.St) (vr vd vo : Value) (m : Im.Img) (W : World) (wv : Int) (op : Nat) (rd rs1 rs2 : Nat) (n : Int) (h : TickPre W0 b g ai ci ins st vr vd vo m W wv op rd rs1 rs2 n 73) (ho : 13 ≤ op ∧ op ≤ 17) :
    Calls Tryd.prog 17 #[.pointer (some ⟨b, 0, none⟩)] W fun e W' => e = .returned (.tuple #[]) ∧ Ticks W0 b g (.slice ai ins.length ci) st.steps (Mc.did m ins op rd rs1 rs2 n st) W' := by
  have SM := hid (show Mc.Same { Mc.set rd (Mc.wd (Mc.gives op (Mc.reg st rs1) (Mc.wd n))) st with pc := Mc.wd (st.pc + 4) } (Mc.did m ins op rd rs1 rs2 n st) by
    have e : Mc.doIt m ins op rd rs1 rs2 n { st with next := Mc.wd (st.pc + 4) } = { Mc.set rd (Mc.wd (Mc.gives op (Mc.reg st rs1) (Mc.wd n))) st with next := Mc.wd (st.pc + 4) } := by
      rw [doIt_I m ins op rd rs1 rs2 n _ (by omega), Mc.set_wd, Mc.set_next]; rfl
    unfold Mc.did; rw [e]; exact ⟨rfl, rfl, rfl, rfl, rfl, rfl, fun _ => rfl⟩)
  have ra' := reg_range h.at_.ok rs1
  have rb' := Mc.wd_range n
  have cD := hid (fun W => rDoes_any op (Mc.reg st rs1) (Mc.wd n) W ra'.1 ra'.2 rb'.1 rb'.2 (by omega))
  have d1 : ((op : Int) == 1) = false := by simp; omega
  have d2 : ((op : Int) == 2) = false := by simp; omega
  have d3 : ((op : Int) == 3) = false := by simp; omega
  have d4 : ((op : Int) == 4) = false := by simp; omega
  have d11 : ((op : Int) == 11) = false := by simp; omega
  have d12 : ((op : Int) == 12) = false := by simp; omega
  have d25 : ((op : Int) == 25) = false := by simp; omega
  have hp := h.at_.ok.pc
  have cC := hid (fun k => fetch_any g m st.pc (W.drewN k) (h.img.kept (grown_drewN h.at_.gr k)) h.tame hp.1 hp.2)
  rw [h.code] at cC
  have cO := hid h.of
  have PR := hid h
  have H := hid h.at_
  obtain ⟨rg, cap, hvr, hc1, hc2, -, -⟩ := h.at_.reg
  subst hvr
  have c0 : W.cell? ⟨b, 0, none⟩ = some (.pointer (some ⟨g, 0, none⟩)) := h.at_.cells 0
  have c2 : W.cell? ⟨b, 2, none⟩ = some (.int .i64 st.pc) := h.at_.cells 2
  have hrd := h.rd
  have hrs1 := h.rs1
  have hrs2 := h.rs2
  have hn0 := h.n0
  have hn1 := h.n1
  have ra := reg_range h.at_.ok rs1
  have rb := reg_range h.at_.ok rs2
  have w1 : IntKind.i64.wrap (st.pc + 4) = st.pc + 4 := IntWalk.i64_in _ ⟨by omega, by omega⟩
  have w2 : IntKind.i64.wrap (n * 4096) = n * 4096 := IntWalk.i64_in _ ⟨by omega, by omega⟩
  have w3 : IntKind.i64.wrap (st.pc + n * 4096) = st.pc + n * 4096 := IntWalk.i64_in _ ⟨by omega, by omega⟩
  have w4 : IntKind.i64.wrap (st.pc + n) = st.pc + n := IntWalk.i64_in _ ⟨by omega, by omega⟩
  have w5 : IntKind.i64.wrap (Mc.reg st rs1 + n) = Mc.reg st rs1 + n := IntWalk.i64_in _ ⟨by omega, by omega⟩
  have g1 : (rs1 : Int) < 32 := by omega
  have g2 : (rs2 : Int) < 32 := by omega
  have cB := hid (fun v W => rBits_any v W)
  have hcm := hc2
  unfold maxLen at hcm
  have hlo := h.lo
  clear h
  simp only [Option.getD_some, Option.isSome_some] at cC
  unfold insR at cO
  go_enter Tryd.func17, Tryd.ntmps17
  go_wp2
  go_quiet ((go_at_call 15; exact Calls.quiet_of (cC.out _)))
  have H1 := hid (H.out.grown (grown_drewN (World.grownBy.refl _ none) nq))
  clear H cC c0 c2
  generalize W.drewN nq = V at *
  go_wp2_with fail
  refine (cO.out _).mono ?_
  rintro e V2 ⟨rfl, hg2⟩
  have H2 := hid ((H1.out.grown hg2).grown (World.grownBy_alloc V2 (.cells #[.int .i64 op, .int .i64 rd, .int .i64 rs1, .int .i64 rs2, .int .i64 n, .int .u8 73] 75) none))
  have BX := hid (BlkAt.new V2 #[.int .i64 op, .int .i64 rd, .int .i64 rs1, .int .i64 rs2, .int .i64 n, .int .u8 73] 75)
  have hbX : b < V2.heap.size := by have := (H1.out.grown hg2).blk.lt; exact this
  have hgX : rg < V2.heap.size := ((H1.out.grown hg2).regs.lt rg rfl).2
  clear H1 hg2 cO
  go_wp2
  generalize V2.alloc (.cells #[.int .i64 op, .int .i64 rd, .int .i64 rs1, .int .i64 rs2, .int .i64 n, .int .u8 73] 75) = V3 at *
  generalize V2.heap.size = X at *
  have c1 : V3.cell? ⟨b, 1, none⟩ = some (.slice (some ⟨rg, 0, none⟩) 32 cap) := H2.out.cells 1
  have x2 : V3.cell? ⟨X, 2, none⟩ = some (.int .i64 rs1) := BX.out.cell 2
  have r1 := H2.out.regc rs1 hrs1
  go_quiet (fail)
  have H3 := hid (H2.out.grown (grown_drewN (World.grownBy.refl _ none) nq))
  have B3 := hid (BX.out.drewN nq)
  clear c1 x2 r1 H2 BX
  generalize V3.drewN nq = V4 at *
  have c1 : V4.cell? ⟨b, 1, none⟩ = some (.slice (some ⟨rg, 0, none⟩) 32 cap) := H3.out.cells 1
  have x3 : V4.cell? ⟨X, 3, none⟩ = some (.int .i64 rs2) := B3.out.cell 3
  have r2 := H3.out.regc rs2 hrs2
  go_wp2
  go_quiet (fail)
  have H4 := hid (H3.out.grown (grown_drewN (World.grownBy.refl _ none) nq))
  have B4 := hid (B3.out.drewN nq)
  clear c1 x3 r2 H3 B3
  generalize V4.drewN nq = U at *
  have c0 : U.cell? ⟨b, 0, none⟩ = some (.pointer (some ⟨g, 0, none⟩)) := H4.out.cells 0
  have c2 : U.cell? ⟨b, 2, none⟩ = some (.int .i64 st.pc) := H4.out.cells 2
  have x0 : U.cell? ⟨X, 0, none⟩ = some (.int .i64 op) := B4.out.cell 0
  have x1 : U.cell? ⟨X, 1, none⟩ = some (.int .i64 rd) := B4.out.cell 1
  have x4 : U.cell? ⟨X, 4, none⟩ = some (.int .i64 n) := B4.out.cell 4
  have x5 : U.cell? ⟨X, 5, none⟩ = some (.int .u8 73) := B4.out.cell 5
  have cP := hid (fun W hW => rPut_any W0 b g (.slice ai ins.length ci) st (.slice (some ⟨rg, 0, none⟩) 32 cap) vd vo rd (Mc.wd (Mc.gives op (Mc.reg st rs1) (Mc.wd n))) W hW (by omega) (by omega))
  go_wp2_with fail
  refine (cB.out _ _).mono ?_
  rintro e V8 ⟨rfl, hV8⟩
  subst hV8
  go_wp2_with fail
  refine (cD.out _).mono ?_
  rintro e V9 ⟨rfl, hV9⟩
  subst hV9
  go_wp2_with fail
  refine (cP.out _ H4.out).mono ?_
  rintro e V6 ⟨rfl, h6, g6⟩
  have H6 := hid h6
  have B6 := hid (B4.out.grown g6 (fun e => by simp [Value.ownBlock] at e; omega))
  clear h6 g6 c0 c2 x0 x1 x4 x5 H4 B4 cP
  have c2 : V6.cell? ⟨b, 2, none⟩ = some (.int .i64 (Mc.set rd (Mc.wd (Mc.gives op (Mc.reg st rs1) (Mc.wd n))) st).pc) := H6.out.cells 2
  rw [set_pc] at c2
  have f2 := H6.out.free 2
  have x4 : V6.cell? ⟨X, 4, none⟩ = some (.int .i64 n) := B6.out.cell 4
  go_wp2_with fail
  refine (cB.out _ _).mono ?_
  rintro e V7 ⟨rfl, hV7⟩
  subst hV7
  go_wp2
  go_end0
  exact ⟨rfl, _, _, _, _, H6.out.putPc _ (Mc.wd_range _), SM.out, (set_fields rd (Mc.wd (Mc.gives op (Mc.reg st rs1) (Mc.wd n))) st).2.2.2.2.2.2.2⟩

set_option maxRecDepth 100000 in
set_option maxHeartbeats 8000000 in
theorem tick_R (W0 : World) (b g : Nat) (ai : Option Addr) (ci : Nat) (ins : List Int) (st : Mc.St) (vr vd vo : Value) (m : Im.Img) (W : World) (wv : Int) (op : Nat) (rd rs1 rs2 : Nat) (n : Int) (h : TickPre W0 b g ai ci ins st vr vd vo m W wv op rd rs1 rs2 n 82) (ho : 18 ≤ op ∧ op ≤ 24) :
    Calls Tryd.prog 17 #[.pointer (some ⟨b, 0, none⟩)] W fun e W' => e = .returned (.tuple #[]) ∧ Ticks W0 b g (.slice ai ins.length ci) st.steps (Mc.did m ins op rd rs1 rs2 n st) W' := by
  have SM := hid (show Mc.Same { Mc.set rd (Mc.wd (Mc.gives op (Mc.reg st rs1) (Mc.reg st rs2))) st with pc := Mc.wd (st.pc + 4) } (Mc.did m ins op rd rs1 rs2 n st) by
    have e : Mc.doIt m ins op rd rs1 rs2 n { st with next := Mc.wd (st.pc + 4) } = { Mc.set rd (Mc.wd (Mc.gives op (Mc.reg st rs1) (Mc.reg st rs2))) st with next := Mc.wd (st.pc + 4) } := by
      rw [doIt_R m ins op rd rs1 rs2 n _ (by omega), Mc.set_wd, Mc.set_next]; rfl
    unfold Mc.did; rw [e]; exact ⟨rfl, rfl, rfl, rfl, rfl, rfl, fun _ => rfl⟩)
  have ra' := reg_range h.at_.ok rs1
  have rb' := reg_range h.at_.ok rs2
  have cD := hid (fun W => rDoes_any op (Mc.reg st rs1) (Mc.reg st rs2) W ra'.1 ra'.2 rb'.1 rb'.2 (by omega))
  have d1 : ((op : Int) == 1) = false := by simp; omega
  have d2 : ((op : Int) == 2) = false := by simp; omega
  have d3 : ((op : Int) == 3) = false := by simp; omega
  have d4 : ((op : Int) == 4) = false := by simp; omega
  have d11 : ((op : Int) == 11) = false := by simp; omega
  have d12 : ((op : Int) == 12) = false := by simp; omega
  have d25 : ((op : Int) == 25) = false := by simp; omega
  have hp := h.at_.ok.pc
  have cC := hid (fun k => fetch_any g m st.pc (W.drewN k) (h.img.kept (grown_drewN h.at_.gr k)) h.tame hp.1 hp.2)
  rw [h.code] at cC
  have cO := hid h.of
  have PR := hid h
  have H := hid h.at_
  obtain ⟨rg, cap, hvr, hc1, hc2, -, -⟩ := h.at_.reg
  subst hvr
  have c0 : W.cell? ⟨b, 0, none⟩ = some (.pointer (some ⟨g, 0, none⟩)) := h.at_.cells 0
  have c2 : W.cell? ⟨b, 2, none⟩ = some (.int .i64 st.pc) := h.at_.cells 2
  have hrd := h.rd
  have hrs1 := h.rs1
  have hrs2 := h.rs2
  have hn0 := h.n0
  have hn1 := h.n1
  have ra := reg_range h.at_.ok rs1
  have rb := reg_range h.at_.ok rs2
  have w1 : IntKind.i64.wrap (st.pc + 4) = st.pc + 4 := IntWalk.i64_in _ ⟨by omega, by omega⟩
  have w2 : IntKind.i64.wrap (n * 4096) = n * 4096 := IntWalk.i64_in _ ⟨by omega, by omega⟩
  have w3 : IntKind.i64.wrap (st.pc + n * 4096) = st.pc + n * 4096 := IntWalk.i64_in _ ⟨by omega, by omega⟩
  have w4 : IntKind.i64.wrap (st.pc + n) = st.pc + n := IntWalk.i64_in _ ⟨by omega, by omega⟩
  have w5 : IntKind.i64.wrap (Mc.reg st rs1 + n) = Mc.reg st rs1 + n := IntWalk.i64_in _ ⟨by omega, by omega⟩
  have g1 : (rs1 : Int) < 32 := by omega
  have g2 : (rs2 : Int) < 32 := by omega
  have cB := hid (fun v W => rBits_any v W)
  have hcm := hc2
  unfold maxLen at hcm
  have hlo := h.lo
  clear h
  simp only [Option.getD_some, Option.isSome_some] at cC
  unfold insR at cO
  go_enter Tryd.func17, Tryd.ntmps17
  go_wp2
  go_quiet ((go_at_call 15; exact Calls.quiet_of (cC.out _)))
  have H1 := hid (H.out.grown (grown_drewN (World.grownBy.refl _ none) nq))
  clear H cC c0 c2
  generalize W.drewN nq = V at *
  go_wp2_with fail
  refine (cO.out _).mono ?_
  rintro e V2 ⟨rfl, hg2⟩
  have H2 := hid ((H1.out.grown hg2).grown (World.grownBy_alloc V2 (.cells #[.int .i64 op, .int .i64 rd, .int .i64 rs1, .int .i64 rs2, .int .i64 n, .int .u8 82] 75) none))
  have BX := hid (BlkAt.new V2 #[.int .i64 op, .int .i64 rd, .int .i64 rs1, .int .i64 rs2, .int .i64 n, .int .u8 82] 75)
  have hbX : b < V2.heap.size := by have := (H1.out.grown hg2).blk.lt; exact this
  have hgX : rg < V2.heap.size := ((H1.out.grown hg2).regs.lt rg rfl).2
  clear H1 hg2 cO
  go_wp2
  generalize V2.alloc (.cells #[.int .i64 op, .int .i64 rd, .int .i64 rs1, .int .i64 rs2, .int .i64 n, .int .u8 82] 75) = V3 at *
  generalize V2.heap.size = X at *
  have c1 : V3.cell? ⟨b, 1, none⟩ = some (.slice (some ⟨rg, 0, none⟩) 32 cap) := H2.out.cells 1
  have x2 : V3.cell? ⟨X, 2, none⟩ = some (.int .i64 rs1) := BX.out.cell 2
  have r1 := H2.out.regc rs1 hrs1
  go_quiet (fail)
  have H3 := hid (H2.out.grown (grown_drewN (World.grownBy.refl _ none) nq))
  have B3 := hid (BX.out.drewN nq)
  clear c1 x2 r1 H2 BX
  generalize V3.drewN nq = V4 at *
  have c1 : V4.cell? ⟨b, 1, none⟩ = some (.slice (some ⟨rg, 0, none⟩) 32 cap) := H3.out.cells 1
  have x3 : V4.cell? ⟨X, 3, none⟩ = some (.int .i64 rs2) := B3.out.cell 3
  have r2 := H3.out.regc rs2 hrs2
  go_wp2
  go_quiet (fail)
  have H4 := hid (H3.out.grown (grown_drewN (World.grownBy.refl _ none) nq))
  have B4 := hid (B3.out.drewN nq)
  clear c1 x3 r2 H3 B3
  generalize V4.drewN nq = U at *
  have c0 : U.cell? ⟨b, 0, none⟩ = some (.pointer (some ⟨g, 0, none⟩)) := H4.out.cells 0
  have c2 : U.cell? ⟨b, 2, none⟩ = some (.int .i64 st.pc) := H4.out.cells 2
  have x0 : U.cell? ⟨X, 0, none⟩ = some (.int .i64 op) := B4.out.cell 0
  have x1 : U.cell? ⟨X, 1, none⟩ = some (.int .i64 rd) := B4.out.cell 1
  have x4 : U.cell? ⟨X, 4, none⟩ = some (.int .i64 n) := B4.out.cell 4
  have x5 : U.cell? ⟨X, 5, none⟩ = some (.int .u8 82) := B4.out.cell 5
  have cP := hid (fun W hW => rPut_any W0 b g (.slice ai ins.length ci) st (.slice (some ⟨rg, 0, none⟩) 32 cap) vd vo rd (Mc.wd (Mc.gives op (Mc.reg st rs1) (Mc.reg st rs2))) W hW (by omega) (by omega))
  go_wp2_with fail
  refine (cD.out _).mono ?_
  rintro e V9 ⟨rfl, hV9⟩
  subst hV9
  go_wp2_with fail
  refine (cP.out _ H4.out).mono ?_
  rintro e V6 ⟨rfl, h6, g6⟩
  have H6 := hid h6
  have B6 := hid (B4.out.grown g6 (fun e => by simp [Value.ownBlock] at e; omega))
  clear h6 g6 c0 c2 x0 x1 x4 x5 H4 B4 cP
  have c2 : V6.cell? ⟨b, 2, none⟩ = some (.int .i64 (Mc.set rd (Mc.wd (Mc.gives op (Mc.reg st rs1) (Mc.reg st rs2))) st).pc) := H6.out.cells 2
  rw [set_pc] at c2
  have f2 := H6.out.free 2
  have x4 : V6.cell? ⟨X, 4, none⟩ = some (.int .i64 n) := B6.out.cell 4
  go_wp2_with fail
  refine (cB.out _ _).mono ?_
  rintro e V7 ⟨rfl, hV7⟩
  subst hV7
  go_wp2
  go_end0
  exact ⟨rfl, _, _, _, _, H6.out.putPc _ (Mc.wd_range _), SM.out, (set_fields rd (Mc.wd (Mc.gives op (Mc.reg st rs1) (Mc.reg st rs2))) st).2.2.2.2.2.2.2⟩

end Go.Proofs.YtaiplongpjimnaaDoor
