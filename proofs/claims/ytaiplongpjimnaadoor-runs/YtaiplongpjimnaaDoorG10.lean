/- Walks over package machine: what an instruction does; orders that are drawn. -/
/- Walks over package machine: what an instruction does; orders that are drawn. -/
/- Walks over package machine: a step. -/
/- Walks: Run, whatever is handed in. -/
import Derived.Test.YtaiplongpjimnaaDoorG08
import Derived.Deep.RegionHeld3
import Derived.Test.YtaiplongpjimnaaDoorG09
namespace Go.Proofs.YtaiplongpjimnaaDoor
open Go.RowKit

set_option maxRecDepth 100000 in
set_option maxHeartbeats 8000000 in
theorem do_im13 (W0 : World) (b g : Nat) (ai : Option Addr) (ci : Nat) (ins : List Int) (st : Mc.St) (vd vo : Value) (m : Im.Img) (op rd rs1 rs2 n : Int) (W : World) (hpre : DoPre W0 b g ai ci ins st vd vo m rd rs1 rs2 n W) (hop : op = 13) :
    Calls Tryd.prog 40 #[.pointer (some ⟨b, 0, none⟩), insV op rd rs1 rs2 n] W fun e W' => e = .returned (.tuple #[]) ∧ DoesR W0 b g (.slice ai ins.length ci) (Mc.doIt m ins op rd rs1 rs2 n st) W' := by
  obtain ⟨h, hI, hT, hin, hl, d0, s1, s2, hn⟩ := hpre
  have HA := hid (h.grown (World.grownBy_alloc W (.cells #[.int .i64 op, .int .i64 rd, .int .i64 rs1, .int .i64 rs2, .int .i64 n] 86) none))
  have NE := hid (show W.heap.size ≠ b from fun e => by have := h.blk.lt; omega)
  have IC := hid (insC W (.int .i64 op) (.int .i64 rd) (.int .i64 rs1) (.int .i64 rs2) (.int .i64 n))
  have r1 := hid (fun W hW => register_any' W0 b g (.slice ai ins.length ci) st vd vo rs1 W hW s1.1 s1.2)
  have r2 := hid (fun W hW => register_any' W0 b g (.slice ai ins.length ci) st vd vo rs2 W hW s2.1 s2.2)
  have q1 := reg_range h.ok rs1
  have q2 := reg_range h.ok rs2
  have hp := h.ok.pc
  obtain ⟨X, hX⟩ : ∃ X, X = Mc.doIt m ins op rd rs1 rs2 n st := ⟨_, rfl⟩
  rw [← hX]
  have RX := hid hX
  clear hX
  unfold insV
  subst hop
  replace RX := hid (show X = Mc.set rd (Mc.computed 18 (Mc.reg st rs1) (Mc.wd n)) st from RX.out)
  generalize Mc.reg st rs1 = a at *
  have wr := Mc.wd_range n
  have cP := hid (fun W => mPlain_any 13 W)
  replace cP : Hid (∀ W, Calls Tryd.prog 59 #[.int .i64 13] W fun e w' => e = .returned (.int .i64 18) ∧ w' = W) := cP.out
  have cW := hid (fun W => mWord_any n W)
  have cC := hid (fun W => computed_any 18 a (Mc.wd n) W q1.1 q1.2 wr.1 wr.2 (by omega))
  have cS := hid (fun v W hW => mSetG_any W0 b g (.slice ai ins.length ci) st vd vo rd v W hW d0.1 d0.2)
  clear h hI hT hin
  go_enter Tryd.func40, Tryd.ntmps40
  go_wp2_with fail
  generalize W.alloc (.cells #[.int .i64 13, .int .i64 rd, .int .i64 rs1, .int .i64 rs2, .int .i64 n] 86) = V at *
  generalize W.heap.size = ib at *
  obtain ⟨i0, i1, i2, i3, i4⟩ := IC.out
  refine (r1.out _ HA.out).mono ?_
  rintro e V1 ⟨rfl, hV⟩
  subst hV
  go_wp2_with fail
  refine (r2.out _ HA.out).mono ?_
  rintro e V1 ⟨rfl, hV⟩
  subst hV
  have HD := hid (HA.out.grown (grown_drewN (World.grownBy.refl _ none) 1))
  have c35 := HA.out.c.2.2.2.1
  have hib : ib ≠ b := NE.out
  have KI := hid (fun (j : Nat) (x : Value) (W' : World) (hg : (V1.drew).grownBy W' (some b)) (hx : V1.cell? ⟨ib, j, none⟩ = some x) => hg.cell (a := ⟨ib, j, none⟩) (show V1.drew.cell? ⟨ib, j, none⟩ = some x from hx) (by simp; omega))
  have J0 := hid i0
  have J1 := hid i1
  have J4 := hid i4
  go_wp2
  go_region_held3 (fun w' => w'.cell? ⟨ib, 0, none⟩ = some (.int .i64 13) ∧ w'.cell? ⟨ib, 1, none⟩ = some (.int .i64 rd) ∧ w'.cell? ⟨ib, 4, none⟩ = some (.int .i64 n))
    (go_keep)
    (first | (go_at_call 59; refine (cP.out _).mono ?_; rintro e w' ⟨rfl, rfl⟩) | (go_at_call 38; refine (cW.out _).mono ?_; rintro e w' ⟨rfl, rfl⟩) | (go_at_call 58; refine (cC.out _).mono ?_; rintro e w' ⟨rfl, rfl⟩) | (go_at_call 52; refine (cS.out _ _ HD.out).mono ?_; rintro e w' ⟨rfl, h2, hq⟩; have j0 := KI.out 0 _ _ hq J0.out; have j1 := KI.out 1 _ _ hq J1.out; have j4 := KI.out 4 _ _ hq J4.out))
  all_goals
    have H2 := hid h2
    clear h2
    go_wp2
    go_end0
    rw [RX.out]
    exact ⟨rfl, _, _, H2.out⟩

set_option maxRecDepth 100000 in
set_option maxHeartbeats 8000000 in
theorem do_im14 (W0 : World) (b g : Nat) (ai : Option Addr) (ci : Nat) (ins : List Int) (st : Mc.St) (vd vo : Value) (m : Im.Img) (op rd rs1 rs2 n : Int) (W : World) (hpre : DoPre W0 b g ai ci ins st vd vo m rd rs1 rs2 n W) (hop : op = 14) :
    Calls Tryd.prog 40 #[.pointer (some ⟨b, 0, none⟩), insV op rd rs1 rs2 n] W fun e W' => e = .returned (.tuple #[]) ∧ DoesR W0 b g (.slice ai ins.length ci) (Mc.doIt m ins op rd rs1 rs2 n st) W' := by
  obtain ⟨h, hI, hT, hin, hl, d0, s1, s2, hn⟩ := hpre
  have HA := hid (h.grown (World.grownBy_alloc W (.cells #[.int .i64 op, .int .i64 rd, .int .i64 rs1, .int .i64 rs2, .int .i64 n] 86) none))
  have NE := hid (show W.heap.size ≠ b from fun e => by have := h.blk.lt; omega)
  have IC := hid (insC W (.int .i64 op) (.int .i64 rd) (.int .i64 rs1) (.int .i64 rs2) (.int .i64 n))
  have r1 := hid (fun W hW => register_any' W0 b g (.slice ai ins.length ci) st vd vo rs1 W hW s1.1 s1.2)
  have r2 := hid (fun W hW => register_any' W0 b g (.slice ai ins.length ci) st vd vo rs2 W hW s2.1 s2.2)
  have q1 := reg_range h.ok rs1
  have q2 := reg_range h.ok rs2
  have hp := h.ok.pc
  obtain ⟨X, hX⟩ : ∃ X, X = Mc.doIt m ins op rd rs1 rs2 n st := ⟨_, rfl⟩
  rw [← hX]
  have RX := hid hX
  clear hX
  unfold insV
  subst hop
  replace RX := hid (show X = Mc.set rd (Mc.computed 20 (Mc.reg st rs1) (Mc.wd n)) st from RX.out)
  generalize Mc.reg st rs1 = a at *
  have wr := Mc.wd_range n
  have cP := hid (fun W => mPlain_any 14 W)
  replace cP : Hid (∀ W, Calls Tryd.prog 59 #[.int .i64 14] W fun e w' => e = .returned (.int .i64 20) ∧ w' = W) := cP.out
  have cW := hid (fun W => mWord_any n W)
  have cC := hid (fun W => computed_any 20 a (Mc.wd n) W q1.1 q1.2 wr.1 wr.2 (by omega))
  have cS := hid (fun v W hW => mSetG_any W0 b g (.slice ai ins.length ci) st vd vo rd v W hW d0.1 d0.2)
  clear h hI hT hin
  go_enter Tryd.func40, Tryd.ntmps40
  go_wp2_with fail
  generalize W.alloc (.cells #[.int .i64 14, .int .i64 rd, .int .i64 rs1, .int .i64 rs2, .int .i64 n] 86) = V at *
  generalize W.heap.size = ib at *
  obtain ⟨i0, i1, i2, i3, i4⟩ := IC.out
  refine (r1.out _ HA.out).mono ?_
  rintro e V1 ⟨rfl, hV⟩
  subst hV
  go_wp2_with fail
  refine (r2.out _ HA.out).mono ?_
  rintro e V1 ⟨rfl, hV⟩
  subst hV
  have HD := hid (HA.out.grown (grown_drewN (World.grownBy.refl _ none) 1))
  have c35 := HA.out.c.2.2.2.1
  have hib : ib ≠ b := NE.out
  have KI := hid (fun (j : Nat) (x : Value) (W' : World) (hg : (V1.drew).grownBy W' (some b)) (hx : V1.cell? ⟨ib, j, none⟩ = some x) => hg.cell (a := ⟨ib, j, none⟩) (show V1.drew.cell? ⟨ib, j, none⟩ = some x from hx) (by simp; omega))
  have J0 := hid i0
  have J1 := hid i1
  have J4 := hid i4
  go_wp2
  go_region_held3 (fun w' => w'.cell? ⟨ib, 0, none⟩ = some (.int .i64 14) ∧ w'.cell? ⟨ib, 1, none⟩ = some (.int .i64 rd) ∧ w'.cell? ⟨ib, 4, none⟩ = some (.int .i64 n))
    (go_keep)
    (first | (go_at_call 59; refine (cP.out _).mono ?_; rintro e w' ⟨rfl, rfl⟩) | (go_at_call 38; refine (cW.out _).mono ?_; rintro e w' ⟨rfl, rfl⟩) | (go_at_call 58; refine (cC.out _).mono ?_; rintro e w' ⟨rfl, rfl⟩) | (go_at_call 52; refine (cS.out _ _ HD.out).mono ?_; rintro e w' ⟨rfl, h2, hq⟩; have j0 := KI.out 0 _ _ hq J0.out; have j1 := KI.out 1 _ _ hq J1.out; have j4 := KI.out 4 _ _ hq J4.out))
  all_goals
    have H2 := hid h2
    clear h2
    go_wp2
    go_end0
    rw [RX.out]
    exact ⟨rfl, _, _, H2.out⟩

set_option maxRecDepth 100000 in
set_option maxHeartbeats 8000000 in
theorem do_im15 (W0 : World) (b g : Nat) (ai : Option Addr) (ci : Nat) (ins : List Int) (st : Mc.St) (vd vo : Value) (m : Im.Img) (op rd rs1 rs2 n : Int) (W : World) (hpre : DoPre W0 b g ai ci ins st vd vo m rd rs1 rs2 n W) (hop : op = 15) :
    Calls Tryd.prog 40 #[.pointer (some ⟨b, 0, none⟩), insV op rd rs1 rs2 n] W fun e W' => e = .returned (.tuple #[]) ∧ DoesR W0 b g (.slice ai ins.length ci) (Mc.doIt m ins op rd rs1 rs2 n st) W' := by
  obtain ⟨h, hI, hT, hin, hl, d0, s1, s2, hn⟩ := hpre
  have HA := hid (h.grown (World.grownBy_alloc W (.cells #[.int .i64 op, .int .i64 rd, .int .i64 rs1, .int .i64 rs2, .int .i64 n] 86) none))
  have NE := hid (show W.heap.size ≠ b from fun e => by have := h.blk.lt; omega)
  have IC := hid (insC W (.int .i64 op) (.int .i64 rd) (.int .i64 rs1) (.int .i64 rs2) (.int .i64 n))
  have r1 := hid (fun W hW => register_any' W0 b g (.slice ai ins.length ci) st vd vo rs1 W hW s1.1 s1.2)
  have r2 := hid (fun W hW => register_any' W0 b g (.slice ai ins.length ci) st vd vo rs2 W hW s2.1 s2.2)
  have q1 := reg_range h.ok rs1
  have q2 := reg_range h.ok rs2
  have hp := h.ok.pc
  obtain ⟨X, hX⟩ : ∃ X, X = Mc.doIt m ins op rd rs1 rs2 n st := ⟨_, rfl⟩
  rw [← hX]
  have RX := hid hX
  clear hX
  unfold insV
  subst hop
  replace RX := hid (show X = Mc.set rd (Mc.computed 22 (Mc.reg st rs1) (Mc.wd n)) st from RX.out)
  generalize Mc.reg st rs1 = a at *
  have wr := Mc.wd_range n
  have cP := hid (fun W => mPlain_any 15 W)
  replace cP : Hid (∀ W, Calls Tryd.prog 59 #[.int .i64 15] W fun e w' => e = .returned (.int .i64 22) ∧ w' = W) := cP.out
  have cW := hid (fun W => mWord_any n W)
  have cC := hid (fun W => computed_any 22 a (Mc.wd n) W q1.1 q1.2 wr.1 wr.2 (by omega))
  have cS := hid (fun v W hW => mSetG_any W0 b g (.slice ai ins.length ci) st vd vo rd v W hW d0.1 d0.2)
  clear h hI hT hin
  go_enter Tryd.func40, Tryd.ntmps40
  go_wp2_with fail
  generalize W.alloc (.cells #[.int .i64 15, .int .i64 rd, .int .i64 rs1, .int .i64 rs2, .int .i64 n] 86) = V at *
  generalize W.heap.size = ib at *
  obtain ⟨i0, i1, i2, i3, i4⟩ := IC.out
  refine (r1.out _ HA.out).mono ?_
  rintro e V1 ⟨rfl, hV⟩
  subst hV
  go_wp2_with fail
  refine (r2.out _ HA.out).mono ?_
  rintro e V1 ⟨rfl, hV⟩
  subst hV
  have HD := hid (HA.out.grown (grown_drewN (World.grownBy.refl _ none) 1))
  have c35 := HA.out.c.2.2.2.1
  have hib : ib ≠ b := NE.out
  have KI := hid (fun (j : Nat) (x : Value) (W' : World) (hg : (V1.drew).grownBy W' (some b)) (hx : V1.cell? ⟨ib, j, none⟩ = some x) => hg.cell (a := ⟨ib, j, none⟩) (show V1.drew.cell? ⟨ib, j, none⟩ = some x from hx) (by simp; omega))
  have J0 := hid i0
  have J1 := hid i1
  have J4 := hid i4
  go_wp2
  go_region_held3 (fun w' => w'.cell? ⟨ib, 0, none⟩ = some (.int .i64 15) ∧ w'.cell? ⟨ib, 1, none⟩ = some (.int .i64 rd) ∧ w'.cell? ⟨ib, 4, none⟩ = some (.int .i64 n))
    (go_keep)
    (first | (go_at_call 59; refine (cP.out _).mono ?_; rintro e w' ⟨rfl, rfl⟩) | (go_at_call 38; refine (cW.out _).mono ?_; rintro e w' ⟨rfl, rfl⟩) | (go_at_call 58; refine (cC.out _).mono ?_; rintro e w' ⟨rfl, rfl⟩) | (go_at_call 52; refine (cS.out _ _ HD.out).mono ?_; rintro e w' ⟨rfl, h2, hq⟩; have j0 := KI.out 0 _ _ hq J0.out; have j1 := KI.out 1 _ _ hq J1.out; have j4 := KI.out 4 _ _ hq J4.out))
  all_goals
    have H2 := hid h2
    clear h2
    go_wp2
    go_end0
    rw [RX.out]
    exact ⟨rfl, _, _, H2.out⟩

set_option maxRecDepth 100000 in
set_option maxHeartbeats 8000000 in
theorem do_im16 (W0 : World) (b g : Nat) (ai : Option Addr) (ci : Nat) (ins : List Int) (st : Mc.St) (vd vo : Value) (m : Im.Img) (op rd rs1 rs2 n : Int) (W : World) (hpre : DoPre W0 b g ai ci ins st vd vo m rd rs1 rs2 n W) (hop : op = 16) :
    Calls Tryd.prog 40 #[.pointer (some ⟨b, 0, none⟩), insV op rd rs1 rs2 n] W fun e W' => e = .returned (.tuple #[]) ∧ DoesR W0 b g (.slice ai ins.length ci) (Mc.doIt m ins op rd rs1 rs2 n st) W' := by
  obtain ⟨h, hI, hT, hin, hl, d0, s1, s2, hn⟩ := hpre
  have HA := hid (h.grown (World.grownBy_alloc W (.cells #[.int .i64 op, .int .i64 rd, .int .i64 rs1, .int .i64 rs2, .int .i64 n] 86) none))
  have NE := hid (show W.heap.size ≠ b from fun e => by have := h.blk.lt; omega)
  have IC := hid (insC W (.int .i64 op) (.int .i64 rd) (.int .i64 rs1) (.int .i64 rs2) (.int .i64 n))
  have r1 := hid (fun W hW => register_any' W0 b g (.slice ai ins.length ci) st vd vo rs1 W hW s1.1 s1.2)
  have r2 := hid (fun W hW => register_any' W0 b g (.slice ai ins.length ci) st vd vo rs2 W hW s2.1 s2.2)
  have q1 := reg_range h.ok rs1
  have q2 := reg_range h.ok rs2
  have hp := h.ok.pc
  obtain ⟨X, hX⟩ : ∃ X, X = Mc.doIt m ins op rd rs1 rs2 n st := ⟨_, rfl⟩
  rw [← hX]
  have RX := hid hX
  clear hX
  unfold insV
  subst hop
  replace RX := hid (show X = Mc.set rd (Mc.computed 23 (Mc.reg st rs1) (Mc.wd n)) st from RX.out)
  generalize Mc.reg st rs1 = a at *
  have wr := Mc.wd_range n
  have cP := hid (fun W => mPlain_any 16 W)
  replace cP : Hid (∀ W, Calls Tryd.prog 59 #[.int .i64 16] W fun e w' => e = .returned (.int .i64 23) ∧ w' = W) := cP.out
  have cW := hid (fun W => mWord_any n W)
  have cC := hid (fun W => computed_any 23 a (Mc.wd n) W q1.1 q1.2 wr.1 wr.2 (by omega))
  have cS := hid (fun v W hW => mSetG_any W0 b g (.slice ai ins.length ci) st vd vo rd v W hW d0.1 d0.2)
  clear h hI hT hin
  go_enter Tryd.func40, Tryd.ntmps40
  go_wp2_with fail
  generalize W.alloc (.cells #[.int .i64 16, .int .i64 rd, .int .i64 rs1, .int .i64 rs2, .int .i64 n] 86) = V at *
  generalize W.heap.size = ib at *
  obtain ⟨i0, i1, i2, i3, i4⟩ := IC.out
  refine (r1.out _ HA.out).mono ?_
  rintro e V1 ⟨rfl, hV⟩
  subst hV
  go_wp2_with fail
  refine (r2.out _ HA.out).mono ?_
  rintro e V1 ⟨rfl, hV⟩
  subst hV
  have HD := hid (HA.out.grown (grown_drewN (World.grownBy.refl _ none) 1))
  have c35 := HA.out.c.2.2.2.1
  have hib : ib ≠ b := NE.out
  have KI := hid (fun (j : Nat) (x : Value) (W' : World) (hg : (V1.drew).grownBy W' (some b)) (hx : V1.cell? ⟨ib, j, none⟩ = some x) => hg.cell (a := ⟨ib, j, none⟩) (show V1.drew.cell? ⟨ib, j, none⟩ = some x from hx) (by simp; omega))
  have J0 := hid i0
  have J1 := hid i1
  have J4 := hid i4
  go_wp2
  go_region_held3 (fun w' => w'.cell? ⟨ib, 0, none⟩ = some (.int .i64 16) ∧ w'.cell? ⟨ib, 1, none⟩ = some (.int .i64 rd) ∧ w'.cell? ⟨ib, 4, none⟩ = some (.int .i64 n))
    (go_keep)
    (first | (go_at_call 59; refine (cP.out _).mono ?_; rintro e w' ⟨rfl, rfl⟩) | (go_at_call 38; refine (cW.out _).mono ?_; rintro e w' ⟨rfl, rfl⟩) | (go_at_call 58; refine (cC.out _).mono ?_; rintro e w' ⟨rfl, rfl⟩) | (go_at_call 52; refine (cS.out _ _ HD.out).mono ?_; rintro e w' ⟨rfl, h2, hq⟩; have j0 := KI.out 0 _ _ hq J0.out; have j1 := KI.out 1 _ _ hq J1.out; have j4 := KI.out 4 _ _ hq J4.out))
  all_goals
    have H2 := hid h2
    clear h2
    go_wp2
    go_end0
    rw [RX.out]
    exact ⟨rfl, _, _, H2.out⟩

set_option maxRecDepth 100000 in
set_option maxHeartbeats 8000000 in
theorem do_im17 (W0 : World) (b g : Nat) (ai : Option Addr) (ci : Nat) (ins : List Int) (st : Mc.St) (vd vo : Value) (m : Im.Img) (op rd rs1 rs2 n : Int) (W : World) (hpre : DoPre W0 b g ai ci ins st vd vo m rd rs1 rs2 n W) (hop : op = 17) :
    Calls Tryd.prog 40 #[.pointer (some ⟨b, 0, none⟩), insV op rd rs1 rs2 n] W fun e W' => e = .returned (.tuple #[]) ∧ DoesR W0 b g (.slice ai ins.length ci) (Mc.doIt m ins op rd rs1 rs2 n st) W' := by
  obtain ⟨h, hI, hT, hin, hl, d0, s1, s2, hn⟩ := hpre
  have HA := hid (h.grown (World.grownBy_alloc W (.cells #[.int .i64 op, .int .i64 rd, .int .i64 rs1, .int .i64 rs2, .int .i64 n] 86) none))
  have NE := hid (show W.heap.size ≠ b from fun e => by have := h.blk.lt; omega)
  have IC := hid (insC W (.int .i64 op) (.int .i64 rd) (.int .i64 rs1) (.int .i64 rs2) (.int .i64 n))
  have r1 := hid (fun W hW => register_any' W0 b g (.slice ai ins.length ci) st vd vo rs1 W hW s1.1 s1.2)
  have r2 := hid (fun W hW => register_any' W0 b g (.slice ai ins.length ci) st vd vo rs2 W hW s2.1 s2.2)
  have q1 := reg_range h.ok rs1
  have q2 := reg_range h.ok rs2
  have hp := h.ok.pc
  obtain ⟨X, hX⟩ : ∃ X, X = Mc.doIt m ins op rd rs1 rs2 n st := ⟨_, rfl⟩
  rw [← hX]
  have RX := hid hX
  clear hX
  unfold insV
  subst hop
  replace RX := hid (show X = Mc.set rd (Mc.computed 24 (Mc.reg st rs1) (Mc.wd n)) st from RX.out)
  generalize Mc.reg st rs1 = a at *
  have wr := Mc.wd_range n
  have cP := hid (fun W => mPlain_any 17 W)
  replace cP : Hid (∀ W, Calls Tryd.prog 59 #[.int .i64 17] W fun e w' => e = .returned (.int .i64 24) ∧ w' = W) := cP.out
  have cW := hid (fun W => mWord_any n W)
  have cC := hid (fun W => computed_any 24 a (Mc.wd n) W q1.1 q1.2 wr.1 wr.2 (by omega))
  have cS := hid (fun v W hW => mSetG_any W0 b g (.slice ai ins.length ci) st vd vo rd v W hW d0.1 d0.2)
  clear h hI hT hin
  go_enter Tryd.func40, Tryd.ntmps40
  go_wp2_with fail
  generalize W.alloc (.cells #[.int .i64 17, .int .i64 rd, .int .i64 rs1, .int .i64 rs2, .int .i64 n] 86) = V at *
  generalize W.heap.size = ib at *
  obtain ⟨i0, i1, i2, i3, i4⟩ := IC.out
  refine (r1.out _ HA.out).mono ?_
  rintro e V1 ⟨rfl, hV⟩
  subst hV
  go_wp2_with fail
  refine (r2.out _ HA.out).mono ?_
  rintro e V1 ⟨rfl, hV⟩
  subst hV
  have HD := hid (HA.out.grown (grown_drewN (World.grownBy.refl _ none) 1))
  have c35 := HA.out.c.2.2.2.1
  have hib : ib ≠ b := NE.out
  have KI := hid (fun (j : Nat) (x : Value) (W' : World) (hg : (V1.drew).grownBy W' (some b)) (hx : V1.cell? ⟨ib, j, none⟩ = some x) => hg.cell (a := ⟨ib, j, none⟩) (show V1.drew.cell? ⟨ib, j, none⟩ = some x from hx) (by simp; omega))
  have J0 := hid i0
  have J1 := hid i1
  have J4 := hid i4
  go_wp2
  go_region_held3 (fun w' => w'.cell? ⟨ib, 0, none⟩ = some (.int .i64 17) ∧ w'.cell? ⟨ib, 1, none⟩ = some (.int .i64 rd) ∧ w'.cell? ⟨ib, 4, none⟩ = some (.int .i64 n))
    (go_keep)
    (first | (go_at_call 59; refine (cP.out _).mono ?_; rintro e w' ⟨rfl, rfl⟩) | (go_at_call 38; refine (cW.out _).mono ?_; rintro e w' ⟨rfl, rfl⟩) | (go_at_call 58; refine (cC.out _).mono ?_; rintro e w' ⟨rfl, rfl⟩) | (go_at_call 52; refine (cS.out _ _ HD.out).mono ?_; rintro e w' ⟨rfl, h2, hq⟩; have j0 := KI.out 0 _ _ hq J0.out; have j1 := KI.out 1 _ _ hq J1.out; have j4 := KI.out 4 _ _ hq J4.out))
  all_goals
    have H2 := hid h2
    clear h2
    go_wp2
    go_end0
    rw [RX.out]
    exact ⟨rfl, _, _, H2.out⟩

end Go.Proofs.YtaiplongpjimnaaDoor

namespace Go.Proofs.YtaiplongpjimnaaDoor
open Go.RowKit

set_option maxRecDepth 100000 in
set_option maxHeartbeats 8000000 in
theorem do_re18 (W0 : World) (b g : Nat) (ai : Option Addr) (ci : Nat) (ins : List Int) (st : Mc.St) (vd vo : Value) (m : Im.Img) (op rd rs1 rs2 n : Int) (W : World) (hpre : DoPre W0 b g ai ci ins st vd vo m rd rs1 rs2 n W) (hop : op = 18) :
    Calls Tryd.prog 40 #[.pointer (some ⟨b, 0, none⟩), insV op rd rs1 rs2 n] W fun e W' => e = .returned (.tuple #[]) ∧ DoesR W0 b g (.slice ai ins.length ci) (Mc.doIt m ins op rd rs1 rs2 n st) W' := by
  obtain ⟨h, hI, hT, hin, hl, d0, s1, s2, hn⟩ := hpre
  have HA := hid (h.grown (World.grownBy_alloc W (.cells #[.int .i64 op, .int .i64 rd, .int .i64 rs1, .int .i64 rs2, .int .i64 n] 86) none))
  have NE := hid (show W.heap.size ≠ b from fun e => by have := h.blk.lt; omega)
  have IC := hid (insC W (.int .i64 op) (.int .i64 rd) (.int .i64 rs1) (.int .i64 rs2) (.int .i64 n))
  have r1 := hid (fun W hW => register_any' W0 b g (.slice ai ins.length ci) st vd vo rs1 W hW s1.1 s1.2)
  have r2 := hid (fun W hW => register_any' W0 b g (.slice ai ins.length ci) st vd vo rs2 W hW s2.1 s2.2)
  have q1 := reg_range h.ok rs1
  have q2 := reg_range h.ok rs2
  have hp := h.ok.pc
  obtain ⟨X, hX⟩ : ∃ X, X = Mc.doIt m ins op rd rs1 rs2 n st := ⟨_, rfl⟩
  rw [← hX]
  have RX := hid hX
  clear hX
  unfold insV
  subst hop
  replace RX := hid (show X = Mc.set rd (Mc.computed 18 (Mc.reg st rs1) (Mc.reg st rs2)) st from RX.out)
  generalize Mc.reg st rs1 = a at *
  generalize Mc.reg st rs2 = bb at *
  have cC := hid (fun W => computed_any 18 a bb W q1.1 q1.2 q2.1 q2.2 (by omega))
  have cS := hid (fun v W hW => mSet_any W0 b g (.slice ai ins.length ci) st vd vo rd v W hW d0.1 d0.2)
  clear h hI hT hin
  go_enter Tryd.func40, Tryd.ntmps40
  go_wp2_with fail
  generalize W.alloc (.cells #[.int .i64 18, .int .i64 rd, .int .i64 rs1, .int .i64 rs2, .int .i64 n] 86) = V at *
  generalize W.heap.size = ib at *
  obtain ⟨i0, i1, i2, i3, i4⟩ := IC.out
  refine (r1.out _ HA.out).mono ?_
  rintro e V1 ⟨rfl, hV⟩
  subst hV
  go_wp2_with fail
  refine (r2.out _ HA.out).mono ?_
  rintro e V1 ⟨rfl, hV⟩
  subst hV
  have HD := hid (HA.out.grown (grown_drewN (World.grownBy.refl _ none) 1))
  have c35 := HA.out.c.2.2.2.1
  go_wp2
  go_region_with (first | (go_at_call 58; refine (cC.out _).mono ?_; rintro e w' ⟨rfl, rfl⟩) | (go_at_call 52; refine (cS.out _ _ HD.out).mono ?_; rintro e w' ⟨rfl, h2⟩))
  all_goals
    have H2 := hid h2
    clear h2
    go_wp2
    go_end0
    rw [RX.out]
    exact ⟨rfl, _, _, H2.out⟩

set_option maxRecDepth 100000 in
set_option maxHeartbeats 8000000 in
theorem do_re19 (W0 : World) (b g : Nat) (ai : Option Addr) (ci : Nat) (ins : List Int) (st : Mc.St) (vd vo : Value) (m : Im.Img) (op rd rs1 rs2 n : Int) (W : World) (hpre : DoPre W0 b g ai ci ins st vd vo m rd rs1 rs2 n W) (hop : op = 19) :
    Calls Tryd.prog 40 #[.pointer (some ⟨b, 0, none⟩), insV op rd rs1 rs2 n] W fun e W' => e = .returned (.tuple #[]) ∧ DoesR W0 b g (.slice ai ins.length ci) (Mc.doIt m ins op rd rs1 rs2 n st) W' := by
  obtain ⟨h, hI, hT, hin, hl, d0, s1, s2, hn⟩ := hpre
  have HA := hid (h.grown (World.grownBy_alloc W (.cells #[.int .i64 op, .int .i64 rd, .int .i64 rs1, .int .i64 rs2, .int .i64 n] 86) none))
  have NE := hid (show W.heap.size ≠ b from fun e => by have := h.blk.lt; omega)
  have IC := hid (insC W (.int .i64 op) (.int .i64 rd) (.int .i64 rs1) (.int .i64 rs2) (.int .i64 n))
  have r1 := hid (fun W hW => register_any' W0 b g (.slice ai ins.length ci) st vd vo rs1 W hW s1.1 s1.2)
  have r2 := hid (fun W hW => register_any' W0 b g (.slice ai ins.length ci) st vd vo rs2 W hW s2.1 s2.2)
  have q1 := reg_range h.ok rs1
  have q2 := reg_range h.ok rs2
  have hp := h.ok.pc
  obtain ⟨X, hX⟩ : ∃ X, X = Mc.doIt m ins op rd rs1 rs2 n st := ⟨_, rfl⟩
  rw [← hX]
  have RX := hid hX
  clear hX
  unfold insV
  subst hop
  replace RX := hid (show X = Mc.set rd (Mc.computed 19 (Mc.reg st rs1) (Mc.reg st rs2)) st from RX.out)
  generalize Mc.reg st rs1 = a at *
  generalize Mc.reg st rs2 = bb at *
  have cC := hid (fun W => computed_any 19 a bb W q1.1 q1.2 q2.1 q2.2 (by omega))
  have cS := hid (fun v W hW => mSet_any W0 b g (.slice ai ins.length ci) st vd vo rd v W hW d0.1 d0.2)
  clear h hI hT hin
  go_enter Tryd.func40, Tryd.ntmps40
  go_wp2_with fail
  generalize W.alloc (.cells #[.int .i64 19, .int .i64 rd, .int .i64 rs1, .int .i64 rs2, .int .i64 n] 86) = V at *
  generalize W.heap.size = ib at *
  obtain ⟨i0, i1, i2, i3, i4⟩ := IC.out
  refine (r1.out _ HA.out).mono ?_
  rintro e V1 ⟨rfl, hV⟩
  subst hV
  go_wp2_with fail
  refine (r2.out _ HA.out).mono ?_
  rintro e V1 ⟨rfl, hV⟩
  subst hV
  have HD := hid (HA.out.grown (grown_drewN (World.grownBy.refl _ none) 1))
  have c35 := HA.out.c.2.2.2.1
  go_wp2
  go_region_with (first | (go_at_call 58; refine (cC.out _).mono ?_; rintro e w' ⟨rfl, rfl⟩) | (go_at_call 52; refine (cS.out _ _ HD.out).mono ?_; rintro e w' ⟨rfl, h2⟩))
  all_goals
    have H2 := hid h2
    clear h2
    go_wp2
    go_end0
    rw [RX.out]
    exact ⟨rfl, _, _, H2.out⟩

set_option maxRecDepth 100000 in
set_option maxHeartbeats 8000000 in
theorem do_re20 (W0 : World) (b g : Nat) (ai : Option Addr) (ci : Nat) (ins : List Int) (st : Mc.St) (vd vo : Value) (m : Im.Img) (op rd rs1 rs2 n : Int) (W : World) (hpre : DoPre W0 b g ai ci ins st vd vo m rd rs1 rs2 n W) (hop : op = 20) :
    Calls Tryd.prog 40 #[.pointer (some ⟨b, 0, none⟩), insV op rd rs1 rs2 n] W fun e W' => e = .returned (.tuple #[]) ∧ DoesR W0 b g (.slice ai ins.length ci) (Mc.doIt m ins op rd rs1 rs2 n st) W' := by
  obtain ⟨h, hI, hT, hin, hl, d0, s1, s2, hn⟩ := hpre
  have HA := hid (h.grown (World.grownBy_alloc W (.cells #[.int .i64 op, .int .i64 rd, .int .i64 rs1, .int .i64 rs2, .int .i64 n] 86) none))
  have NE := hid (show W.heap.size ≠ b from fun e => by have := h.blk.lt; omega)
  have IC := hid (insC W (.int .i64 op) (.int .i64 rd) (.int .i64 rs1) (.int .i64 rs2) (.int .i64 n))
  have r1 := hid (fun W hW => register_any' W0 b g (.slice ai ins.length ci) st vd vo rs1 W hW s1.1 s1.2)
  have r2 := hid (fun W hW => register_any' W0 b g (.slice ai ins.length ci) st vd vo rs2 W hW s2.1 s2.2)
  have q1 := reg_range h.ok rs1
  have q2 := reg_range h.ok rs2
  have hp := h.ok.pc
  obtain ⟨X, hX⟩ : ∃ X, X = Mc.doIt m ins op rd rs1 rs2 n st := ⟨_, rfl⟩
  rw [← hX]
  have RX := hid hX
  clear hX
  unfold insV
  subst hop
  replace RX := hid (show X = Mc.set rd (Mc.computed 20 (Mc.reg st rs1) (Mc.reg st rs2)) st from RX.out)
  generalize Mc.reg st rs1 = a at *
  generalize Mc.reg st rs2 = bb at *
  have cC := hid (fun W => computed_any 20 a bb W q1.1 q1.2 q2.1 q2.2 (by omega))
  have cS := hid (fun v W hW => mSet_any W0 b g (.slice ai ins.length ci) st vd vo rd v W hW d0.1 d0.2)
  clear h hI hT hin
  go_enter Tryd.func40, Tryd.ntmps40
  go_wp2_with fail
  generalize W.alloc (.cells #[.int .i64 20, .int .i64 rd, .int .i64 rs1, .int .i64 rs2, .int .i64 n] 86) = V at *
  generalize W.heap.size = ib at *
  obtain ⟨i0, i1, i2, i3, i4⟩ := IC.out
  refine (r1.out _ HA.out).mono ?_
  rintro e V1 ⟨rfl, hV⟩
  subst hV
  go_wp2_with fail
  refine (r2.out _ HA.out).mono ?_
  rintro e V1 ⟨rfl, hV⟩
  subst hV
  have HD := hid (HA.out.grown (grown_drewN (World.grownBy.refl _ none) 1))
  have c35 := HA.out.c.2.2.2.1
  go_wp2
  go_region_with (first | (go_at_call 58; refine (cC.out _).mono ?_; rintro e w' ⟨rfl, rfl⟩) | (go_at_call 52; refine (cS.out _ _ HD.out).mono ?_; rintro e w' ⟨rfl, h2⟩))
  all_goals
    have H2 := hid h2
    clear h2
    go_wp2
    go_end0
    rw [RX.out]
    exact ⟨rfl, _, _, H2.out⟩

set_option maxRecDepth 100000 in
set_option maxHeartbeats 8000000 in
theorem do_re21 (W0 : World) (b g : Nat) (ai : Option Addr) (ci : Nat) (ins : List Int) (st : Mc.St) (vd vo : Value) (m : Im.Img) (op rd rs1 rs2 n : Int) (W : World) (hpre : DoPre W0 b g ai ci ins st vd vo m rd rs1 rs2 n W) (hop : op = 21) :
    Calls Tryd.prog 40 #[.pointer (some ⟨b, 0, none⟩), insV op rd rs1 rs2 n] W fun e W' => e = .returned (.tuple #[]) ∧ DoesR W0 b g (.slice ai ins.length ci) (Mc.doIt m ins op rd rs1 rs2 n st) W' := by
  obtain ⟨h, hI, hT, hin, hl, d0, s1, s2, hn⟩ := hpre
  have HA := hid (h.grown (World.grownBy_alloc W (.cells #[.int .i64 op, .int .i64 rd, .int .i64 rs1, .int .i64 rs2, .int .i64 n] 86) none))
  have NE := hid (show W.heap.size ≠ b from fun e => by have := h.blk.lt; omega)
  have IC := hid (insC W (.int .i64 op) (.int .i64 rd) (.int .i64 rs1) (.int .i64 rs2) (.int .i64 n))
  have r1 := hid (fun W hW => register_any' W0 b g (.slice ai ins.length ci) st vd vo rs1 W hW s1.1 s1.2)
  have r2 := hid (fun W hW => register_any' W0 b g (.slice ai ins.length ci) st vd vo rs2 W hW s2.1 s2.2)
  have q1 := reg_range h.ok rs1
  have q2 := reg_range h.ok rs2
  have hp := h.ok.pc
  obtain ⟨X, hX⟩ : ∃ X, X = Mc.doIt m ins op rd rs1 rs2 n st := ⟨_, rfl⟩
  rw [← hX]
  have RX := hid hX
  clear hX
  unfold insV
  subst hop
  replace RX := hid (show X = Mc.set rd (Mc.computed 21 (Mc.reg st rs1) (Mc.reg st rs2)) st from RX.out)
  generalize Mc.reg st rs1 = a at *
  generalize Mc.reg st rs2 = bb at *
  have cC := hid (fun W => computed_any 21 a bb W q1.1 q1.2 q2.1 q2.2 (by omega))
  have cS := hid (fun v W hW => mSet_any W0 b g (.slice ai ins.length ci) st vd vo rd v W hW d0.1 d0.2)
  clear h hI hT hin
  go_enter Tryd.func40, Tryd.ntmps40
  go_wp2_with fail
  generalize W.alloc (.cells #[.int .i64 21, .int .i64 rd, .int .i64 rs1, .int .i64 rs2, .int .i64 n] 86) = V at *
  generalize W.heap.size = ib at *
  obtain ⟨i0, i1, i2, i3, i4⟩ := IC.out
  refine (r1.out _ HA.out).mono ?_
  rintro e V1 ⟨rfl, hV⟩
  subst hV
  go_wp2_with fail
  refine (r2.out _ HA.out).mono ?_
  rintro e V1 ⟨rfl, hV⟩
  subst hV
  have HD := hid (HA.out.grown (grown_drewN (World.grownBy.refl _ none) 1))
  have c35 := HA.out.c.2.2.2.1
  go_wp2
  go_region_with (first | (go_at_call 58; refine (cC.out _).mono ?_; rintro e w' ⟨rfl, rfl⟩) | (go_at_call 52; refine (cS.out _ _ HD.out).mono ?_; rintro e w' ⟨rfl, h2⟩))
  all_goals
    have H2 := hid h2
    clear h2
    go_wp2
    go_end0
    rw [RX.out]
    exact ⟨rfl, _, _, H2.out⟩

set_option maxRecDepth 100000 in
set_option maxHeartbeats 8000000 in
theorem do_re22 (W0 : World) (b g : Nat) (ai : Option Addr) (ci : Nat) (ins : List Int) (st : Mc.St) (vd vo : Value) (m : Im.Img) (op rd rs1 rs2 n : Int) (W : World) (hpre : DoPre W0 b g ai ci ins st vd vo m rd rs1 rs2 n W) (hop : op = 22) :
    Calls Tryd.prog 40 #[.pointer (some ⟨b, 0, none⟩), insV op rd rs1 rs2 n] W fun e W' => e = .returned (.tuple #[]) ∧ DoesR W0 b g (.slice ai ins.length ci) (Mc.doIt m ins op rd rs1 rs2 n st) W' := by
  obtain ⟨h, hI, hT, hin, hl, d0, s1, s2, hn⟩ := hpre
  have HA := hid (h.grown (World.grownBy_alloc W (.cells #[.int .i64 op, .int .i64 rd, .int .i64 rs1, .int .i64 rs2, .int .i64 n] 86) none))
  have NE := hid (show W.heap.size ≠ b from fun e => by have := h.blk.lt; omega)
  have IC := hid (insC W (.int .i64 op) (.int .i64 rd) (.int .i64 rs1) (.int .i64 rs2) (.int .i64 n))
  have r1 := hid (fun W hW => register_any' W0 b g (.slice ai ins.length ci) st vd vo rs1 W hW s1.1 s1.2)
  have r2 := hid (fun W hW => register_any' W0 b g (.slice ai ins.length ci) st vd vo rs2 W hW s2.1 s2.2)
  have q1 := reg_range h.ok rs1
  have q2 := reg_range h.ok rs2
  have hp := h.ok.pc
  obtain ⟨X, hX⟩ : ∃ X, X = Mc.doIt m ins op rd rs1 rs2 n st := ⟨_, rfl⟩
  rw [← hX]
  have RX := hid hX
  clear hX
  unfold insV
  subst hop
  replace RX := hid (show X = Mc.set rd (Mc.computed 22 (Mc.reg st rs1) (Mc.reg st rs2)) st from RX.out)
  generalize Mc.reg st rs1 = a at *
  generalize Mc.reg st rs2 = bb at *
  have cC := hid (fun W => computed_any 22 a bb W q1.1 q1.2 q2.1 q2.2 (by omega))
  have cS := hid (fun v W hW => mSet_any W0 b g (.slice ai ins.length ci) st vd vo rd v W hW d0.1 d0.2)
  clear h hI hT hin
  go_enter Tryd.func40, Tryd.ntmps40
  go_wp2_with fail
  generalize W.alloc (.cells #[.int .i64 22, .int .i64 rd, .int .i64 rs1, .int .i64 rs2, .int .i64 n] 86) = V at *
  generalize W.heap.size = ib at *
  obtain ⟨i0, i1, i2, i3, i4⟩ := IC.out
  refine (r1.out _ HA.out).mono ?_
  rintro e V1 ⟨rfl, hV⟩
  subst hV
  go_wp2_with fail
  refine (r2.out _ HA.out).mono ?_
  rintro e V1 ⟨rfl, hV⟩
  subst hV
  have HD := hid (HA.out.grown (grown_drewN (World.grownBy.refl _ none) 1))
  have c35 := HA.out.c.2.2.2.1
  go_wp2
  go_region_with (first | (go_at_call 58; refine (cC.out _).mono ?_; rintro e w' ⟨rfl, rfl⟩) | (go_at_call 52; refine (cS.out _ _ HD.out).mono ?_; rintro e w' ⟨rfl, h2⟩))
  all_goals
    have H2 := hid h2
    clear h2
    go_wp2
    go_end0
    rw [RX.out]
    exact ⟨rfl, _, _, H2.out⟩

set_option maxRecDepth 100000 in
set_option maxHeartbeats 8000000 in
theorem do_re23 (W0 : World) (b g : Nat) (ai : Option Addr) (ci : Nat) (ins : List Int) (st : Mc.St) (vd vo : Value) (m : Im.Img) (op rd rs1 rs2 n : Int) (W : World) (hpre : DoPre W0 b g ai ci ins st vd vo m rd rs1 rs2 n W) (hop : op = 23) :
    Calls Tryd.prog 40 #[.pointer (some ⟨b, 0, none⟩), insV op rd rs1 rs2 n] W fun e W' => e = .returned (.tuple #[]) ∧ DoesR W0 b g (.slice ai ins.length ci) (Mc.doIt m ins op rd rs1 rs2 n st) W' := by
  obtain ⟨h, hI, hT, hin, hl, d0, s1, s2, hn⟩ := hpre
  have HA := hid (h.grown (World.grownBy_alloc W (.cells #[.int .i64 op, .int .i64 rd, .int .i64 rs1, .int .i64 rs2, .int .i64 n] 86) none))
  have NE := hid (show W.heap.size ≠ b from fun e => by have := h.blk.lt; omega)
  have IC := hid (insC W (.int .i64 op) (.int .i64 rd) (.int .i64 rs1) (.int .i64 rs2) (.int .i64 n))
  have r1 := hid (fun W hW => register_any' W0 b g (.slice ai ins.length ci) st vd vo rs1 W hW s1.1 s1.2)
  have r2 := hid (fun W hW => register_any' W0 b g (.slice ai ins.length ci) st vd vo rs2 W hW s2.1 s2.2)
  have q1 := reg_range h.ok rs1
  have q2 := reg_range h.ok rs2
  have hp := h.ok.pc
  obtain ⟨X, hX⟩ : ∃ X, X = Mc.doIt m ins op rd rs1 rs2 n st := ⟨_, rfl⟩
  rw [← hX]
  have RX := hid hX
  clear hX
  unfold insV
  subst hop
  replace RX := hid (show X = Mc.set rd (Mc.computed 23 (Mc.reg st rs1) (Mc.reg st rs2)) st from RX.out)
  generalize Mc.reg st rs1 = a at *
  generalize Mc.reg st rs2 = bb at *
  have cC := hid (fun W => computed_any 23 a bb W q1.1 q1.2 q2.1 q2.2 (by omega))
  have cS := hid (fun v W hW => mSet_any W0 b g (.slice ai ins.length ci) st vd vo rd v W hW d0.1 d0.2)
  clear h hI hT hin
  go_enter Tryd.func40, Tryd.ntmps40
  go_wp2_with fail
  generalize W.alloc (.cells #[.int .i64 23, .int .i64 rd, .int .i64 rs1, .int .i64 rs2, .int .i64 n] 86) = V at *
  generalize W.heap.size = ib at *
  obtain ⟨i0, i1, i2, i3, i4⟩ := IC.out
  refine (r1.out _ HA.out).mono ?_
  rintro e V1 ⟨rfl, hV⟩
  subst hV
  go_wp2_with fail
  refine (r2.out _ HA.out).mono ?_
  rintro e V1 ⟨rfl, hV⟩
  subst hV
  have HD := hid (HA.out.grown (grown_drewN (World.grownBy.refl _ none) 1))
  have c35 := HA.out.c.2.2.2.1
  go_wp2
  go_region_with (first | (go_at_call 58; refine (cC.out _).mono ?_; rintro e w' ⟨rfl, rfl⟩) | (go_at_call 52; refine (cS.out _ _ HD.out).mono ?_; rintro e w' ⟨rfl, h2⟩))
  all_goals
    have H2 := hid h2
    clear h2
    go_wp2
    go_end0
    rw [RX.out]
    exact ⟨rfl, _, _, H2.out⟩

set_option maxRecDepth 100000 in
set_option maxHeartbeats 8000000 in
theorem do_re24 (W0 : World) (b g : Nat) (ai : Option Addr) (ci : Nat) (ins : List Int) (st : Mc.St) (vd vo : Value) (m : Im.Img) (op rd rs1 rs2 n : Int) (W : World) (hpre : DoPre W0 b g ai ci ins st vd vo m rd rs1 rs2 n W) (hop : op = 24) :
    Calls Tryd.prog 40 #[.pointer (some ⟨b, 0, none⟩), insV op rd rs1 rs2 n] W fun e W' => e = .returned (.tuple #[]) ∧ DoesR W0 b g (.slice ai ins.length ci) (Mc.doIt m ins op rd rs1 rs2 n st) W' := by
  obtain ⟨h, hI, hT, hin, hl, d0, s1, s2, hn⟩ := hpre
  have HA := hid (h.grown (World.grownBy_alloc W (.cells #[.int .i64 op, .int .i64 rd, .int .i64 rs1, .int .i64 rs2, .int .i64 n] 86) none))
  have NE := hid (show W.heap.size ≠ b from fun e => by have := h.blk.lt; omega)
  have IC := hid (insC W (.int .i64 op) (.int .i64 rd) (.int .i64 rs1) (.int .i64 rs2) (.int .i64 n))
  have r1 := hid (fun W hW => register_any' W0 b g (.slice ai ins.length ci) st vd vo rs1 W hW s1.1 s1.2)
  have r2 := hid (fun W hW => register_any' W0 b g (.slice ai ins.length ci) st vd vo rs2 W hW s2.1 s2.2)
  have q1 := reg_range h.ok rs1
  have q2 := reg_range h.ok rs2
  have hp := h.ok.pc
  obtain ⟨X, hX⟩ : ∃ X, X = Mc.doIt m ins op rd rs1 rs2 n st := ⟨_, rfl⟩
  rw [← hX]
  have RX := hid hX
  clear hX
  unfold insV
  subst hop
  replace RX := hid (show X = Mc.set rd (Mc.computed 24 (Mc.reg st rs1) (Mc.reg st rs2)) st from RX.out)
  generalize Mc.reg st rs1 = a at *
  generalize Mc.reg st rs2 = bb at *
  have cC := hid (fun W => computed_any 24 a bb W q1.1 q1.2 q2.1 q2.2 (by omega))
  have cS := hid (fun v W hW => mSet_any W0 b g (.slice ai ins.length ci) st vd vo rd v W hW d0.1 d0.2)
  clear h hI hT hin
  go_enter Tryd.func40, Tryd.ntmps40
  go_wp2_with fail
  generalize W.alloc (.cells #[.int .i64 24, .int .i64 rd, .int .i64 rs1, .int .i64 rs2, .int .i64 n] 86) = V at *
  generalize W.heap.size = ib at *
  obtain ⟨i0, i1, i2, i3, i4⟩ := IC.out
  refine (r1.out _ HA.out).mono ?_
  rintro e V1 ⟨rfl, hV⟩
  subst hV
  go_wp2_with fail
  refine (r2.out _ HA.out).mono ?_
  rintro e V1 ⟨rfl, hV⟩
  subst hV
  have HD := hid (HA.out.grown (grown_drewN (World.grownBy.refl _ none) 1))
  have c35 := HA.out.c.2.2.2.1
  go_wp2
  go_region_with (first | (go_at_call 58; refine (cC.out _).mono ?_; rintro e w' ⟨rfl, rfl⟩) | (go_at_call 52; refine (cS.out _ _ HD.out).mono ?_; rintro e w' ⟨rfl, h2⟩))
  all_goals
    have H2 := hid h2
    clear h2
    go_wp2
    go_end0
    rw [RX.out]
    exact ⟨rfl, _, _, H2.out⟩

end Go.Proofs.YtaiplongpjimnaaDoor

namespace Go.Proofs.YtaiplongpjimnaaDoor
open Go.RowKit

theorem do_any (W0 : World) (b g : Nat) (ai : Option Addr) (ci : Nat) (ins : List Int) (st : Mc.St) (vd vo : Value) (m : Im.Img) (op rd rs1 rs2 n : Int) (W : World) (hpre : DoPre W0 b g ai ci ins st vd vo m rd rs1 rs2 n W) (hop : 0 ≤ op ∧ op ≤ 25) :
    Calls Tryd.prog 40 #[.pointer (some ⟨b, 0, none⟩), insV op rd rs1 rs2 n] W fun e W' => e = .returned (.tuple #[]) ∧ DoesR W0 b g (.slice ai ins.length ci) (Mc.doIt m ins op rd rs1 rs2 n st) W' := by
  rcases (show op = 0 ∨ op = 1 ∨ op = 2 ∨ op = 3 ∨ op = 4 ∨ op = 5 ∨ op = 6 ∨ op = 7 ∨ op = 8 ∨ op = 9 ∨ op = 10 ∨ op = 11 ∨ op = 12 ∨ op = 13 ∨ op = 14 ∨ op = 15 ∨ op = 16 ∨ op = 17 ∨ op = 18 ∨ op = 19 ∨ op = 20 ∨ op = 21 ∨ op = 22 ∨ op = 23 ∨ op = 24 ∨ op = 25 by omega) with
    e | e | e | e | e | e | e | e | e | e | e | e | e | e | e | e | e | e | e | e | e | e | e | e | e | e
  · exact do_none W0 b g ai ci ins st vd vo m op rd rs1 rs2 n W hpre e
  · exact do_lui W0 b g ai ci ins st vd vo m op rd rs1 rs2 n W hpre e
  · exact do_auipc W0 b g ai ci ins st vd vo m op rd rs1 rs2 n W hpre e
  · exact do_jal W0 b g ai ci ins st vd vo m op rd rs1 rs2 n W hpre e
  · exact do_jalr W0 b g ai ci ins st vd vo m op rd rs1 rs2 n W hpre e
  · exact do_br5 W0 b g ai ci ins st vd vo m op rd rs1 rs2 n W hpre e
  · exact do_br6 W0 b g ai ci ins st vd vo m op rd rs1 rs2 n W hpre e
  · exact do_br7 W0 b g ai ci ins st vd vo m op rd rs1 rs2 n W hpre e
  · exact do_br8 W0 b g ai ci ins st vd vo m op rd rs1 rs2 n W hpre e
  · exact do_br9 W0 b g ai ci ins st vd vo m op rd rs1 rs2 n W hpre e
  · exact do_br10 W0 b g ai ci ins st vd vo m op rd rs1 rs2 n W hpre e
  · exact do_lw W0 b g ai ci ins st vd vo m op rd rs1 rs2 n W hpre e
  · exact do_sw W0 b g ai ci ins st vd vo m op rd rs1 rs2 n W hpre e
  · exact do_im13 W0 b g ai ci ins st vd vo m op rd rs1 rs2 n W hpre e
  · exact do_im14 W0 b g ai ci ins st vd vo m op rd rs1 rs2 n W hpre e
  · exact do_im15 W0 b g ai ci ins st vd vo m op rd rs1 rs2 n W hpre e
  · exact do_im16 W0 b g ai ci ins st vd vo m op rd rs1 rs2 n W hpre e
  · exact do_im17 W0 b g ai ci ins st vd vo m op rd rs1 rs2 n W hpre e
  · exact do_re18 W0 b g ai ci ins st vd vo m op rd rs1 rs2 n W hpre e
  · exact do_re19 W0 b g ai ci ins st vd vo m op rd rs1 rs2 n W hpre e
  · exact do_re20 W0 b g ai ci ins st vd vo m op rd rs1 rs2 n W hpre e
  · exact do_re21 W0 b g ai ci ins st vd vo m op rd rs1 rs2 n W hpre e
  · exact do_re22 W0 b g ai ci ins st vd vo m op rd rs1 rs2 n W hpre e
  · exact do_re23 W0 b g ai ci ins st vd vo m op rd rs1 rs2 n W hpre e
  · exact do_re24 W0 b g ai ci ins st vd vo m op rd rs1 rs2 n W hpre e
  · exact do_ecall W0 b g ai ci ins st vd vo m op rd rs1 rs2 n W hpre e

end Go.Proofs.YtaiplongpjimnaaDoor

namespace Go.Proofs.YtaiplongpjimnaaDoor
open Go.RowKit

def resZ : Value := .agg #[.int .i64 0, .int .i64 0, .slice none 0 0, .int .i64 0, .int .i64 0]

set_option maxRecDepth 100000 in
set_option maxHeartbeats 2000000 in
theorem mRun_in (g : Nat) (ai : Option Addr) (n ci : Nat) (fuel : Int) (w : World) (hl : 16 < n) :
    Calls Tryd.prog 16 #[.pointer (some ⟨g, 0, none⟩), .slice ai n ci, .int .i64 fuel] w fun e w' => e = .returned (.tuple #[resZ, .int .i64 40]) ∧ w.grownBy w' none := by
  have d1 : decide ((16 : Int) < (n : Int)) = true := by simp; omega
  go_enter Tryd.func16, Tryd.ntmps16
  go_wp2
  refine bodyPost_ret (v := .tuple #[resZ, .int .i64 40]) ?_ rfl ⟨rfl, World.grownBy_alloc w (.cells resC 30) none⟩
  simp [results, Tryd.results16, go_sem, resZ]

set_option maxRecDepth 100000 in
set_option maxHeartbeats 2000000 in
theorem mRun_fuel (g : Nat) (ai : Option Addr) (n ci : Nat) (fuel : Int) (w : World) (hl : n ≤ 16) (hf : fuel < 0 ∨ 65536 < fuel) :
    Calls Tryd.prog 16 #[.pointer (some ⟨g, 0, none⟩), .slice ai n ci, .int .i64 fuel] w fun e w' => e = .returned (.tuple #[resZ, .int .i64 41]) ∧ w.grownBy w' none := by
  have d1 : decide ((16 : Int) < (n : Int)) = false := by simp; omega
  by_cases h0 : fuel < 0
  · have d2 : decide (fuel < 0) = true := by simpa using h0
    clear hf h0
    go_enter Tryd.func16, Tryd.ntmps16
    go_wp2
    refine bodyPost_ret (v := .tuple #[resZ, .int .i64 41]) ?_ rfl ⟨rfl, World.grownBy_alloc w (.cells resC 30) none⟩
    simp [results, Tryd.results16, go_sem, resZ]
  · have d2 : decide (fuel < 0) = false := by simpa using h0
    have d3 : decide ((65536 : Int) < fuel) = true := by simp; omega
    clear hf h0
    go_enter Tryd.func16, Tryd.ntmps16
    go_wp2
    refine bodyPost_ret (v := .tuple #[resZ, .int .i64 41]) ?_ rfl ⟨rfl, World.grownBy_alloc w (.cells resC 30) none⟩
    simp [results, Tryd.results16, go_sem, resZ]

/-- what Run tells, whatever is handed in -/
def RunTold (W0 : World) (m : Im.Img) (ins : List Int) (fuel : Int) (e : Ending) (w' : World) : Prop :=
  (16 < ins.length ∧ e = .returned (.tuple #[resZ, .int .i64 40])) ∨
  (ins.length ≤ 16 ∧ (fuel < 0 ∨ 65536 < fuel) ∧ e = .returned (.tuple #[resZ, .int .i64 41])) ∨
  (ins.length ≤ 16 ∧ 0 ≤ fuel ∧ fuel ≤ 65536 ∧ RunRet W0 (Mc.run m ins fuel.toNat) e w')

theorem mRun_told (g : Nat) (m : Im.Img) (ai : Option Addr) (ci : Nat) (ins : List Int) (fuel : Int) (w : World) (hI : ImgAt w g m) (hT : Im.Tame m) (hD : ∀ i, 0 ≤ m.D.getD i 0 ∧ m.D.getD i 0 < 4294967296) (hW : Im.Wordy m) (hin : IntsIn w ai ins) (ht : Tabs w) :
    Calls Tryd.prog 16 #[.pointer (some ⟨g, 0, none⟩), .slice ai ins.length ci, .int .i64 fuel] w fun e w' => RunTold w m ins fuel e w' ∧ w.grownBy w' none := by
  by_cases hl : 16 < ins.length
  · exact (mRun_in g ai ins.length ci fuel w hl).mono fun e w' k => ⟨.inl ⟨hl, k.1⟩, k.2⟩
  by_cases hf : fuel < 0 ∨ 65536 < fuel
  · exact (mRun_fuel g ai ins.length ci fuel w (by omega) hf).mono fun e w' k => ⟨.inr (.inl ⟨by omega, hf, k.1⟩), k.2⟩
  · obtain ⟨k, rfl⟩ := Int.eq_ofNat_of_zero_le (show 0 ≤ fuel by omega)
    exact (mRun_any g m ai ci ins k w hI hT hD (by omega) (by omega) hW hin ht (fun W0 b st vd vo op rd rs1 rs2 n W => do_any W0 b g ai ci ins st vd vo m op rd rs1 rs2 n W)).mono fun e w' q => ⟨.inr (.inr ⟨by omega, by omega, by omega, q.1⟩), q.2⟩

end Go.Proofs.YtaiplongpjimnaaDoor
