/- The assembler: labels. -/
/- The assembler: what stands beside code. -/
/- The assembler: sections, bindings, words, room. -/
/- The assembler: borders. -/
/- The assembler: align. -/
/- Walks: operations by their names. -/
import Derived.Test.YtmhbgnlfdiahpaaGreatDoorG10
import Derived.Test.YtmhbgnlfdiahpaaGreatDoorG01
namespace Go.Proofs.YtmhbgnlfdiahpaaGreatDoor
open Go.RowKit

set_option maxRecDepth 100000 in
set_option maxHeartbeats 8000000 in
theorem label_any (B : Nat) (s : ByteArray) (b g : Nat) (st : As.St) (t : As.Tok) (W : World) (h : AsmAt B s b g st W) (ht : TokOk t) :
    Calls Tryz.prog 40 #[.pointer (some ⟨b, 0, none⟩), tokA t] W fun en W' => en = .returned (.tuple #[]) ∧ Does B s b g W (As.label t st) W' := by
  have HW := hid h
  have L0 := hid ((Loc.begin h).alloc (tokCs t) 49)
  have HT := hid ht
  clear h ht
  obtain ⟨X, hX⟩ : ∃ X, X = As.label t st := ⟨_, rfl⟩
  rw [← hX]
  unfold As.label at hX
  dsimp only at hX
  have RS := hid hX
  clear hX
  unfold tokA
  go_enter Tryz.func40, Tryz.ntmps40
  go_wp2_with fail
  refine Calls.at_world (Loc B s b g W [(W.heap.size, tokCs t, 49)] st) L0.out ?_
  clear L0
  generalize hr : W.heap.size = r at *
  clear hr
  intro V hV
  refine (checkName_any B s b g st t V hV.d.1 HT.out).mono ?_
  rintro e V1 ⟨rfl, h1⟩
  have L1 := hid (hV.step h1)
  clear h1 hV V
  generalize As.checkName t st = st1 at *
  obtain ⟨m0, m1, m2, m3⟩ := (⟨L1.out.d, L1.out.l (r, tokCs t, 49) (by simp)⟩ : LocB B s b g W r t st1 V1).cells
  go_wp2_with fail
  refine (symbolNamed_any B s b g st1 t V1 L1.out.d.1 HT.out).mono ?_
  rintro e V2 ⟨rfl, h2⟩
  have D2 := hid ((L1.out.d.does HW.out).after h2)
  have LT := hid (h2.2.2 r (tokCs t) 49 (by decide) (by decide) (by decide) (by decide) (by decide) (L1.out.l (r, tokCs t, 49) (by simp)))
  have SLT := hid (symNamed_lt t st1)
  clear h2 L1 m0 m1 m2 m3
  unfold symRet
  generalize As.symbolNamed t st1 = R2 at *
  obtain ⟨⟨i, ok⟩, st2⟩ := R2
  dsimp only at RS D2 SLT ⊢
  cases ok
  · rw [if_pos (show (!false) = true from rfl)] at RS
    go_wp2
    (try simp only [Exit.inBlock, Exit.then]); refine bodyPost_ret (results_none rfl _ _ _) rfl ?_
    rw [RS.out]
    exact ⟨rfl, D2.out⟩
  · rw [if_neg (by simp)] at RS
    have hi := SLT.out rfl
    rw [List.getElem?_eq_getElem hi] at RS
    simp only [Option.map_some, Option.getD_some] at RS
    obtain ⟨vt, vf, vd, va, sg, cs, vr, ho, g5, k1, k2, k3, hfz, n1, n2⟩ := sym_cells D2.out.1 i hi
    have HO := hid ho
    have c14 := cell_obj D2.out.1
    have c13 := cell_sect D2.out.1
    have hcap := own_cap ho.syms
    have f2 := hfz (i * 4 + 2)
    have f3 := hfz (i * 4 + 3)
    clear ho hfz
    have g1 : (0 : Int) ≤ (i : Int) := by omega
    have g2 : (i : Int) < (st2.obj.syms.length : Int) := by omega
    by_cases hz : st2.obj.syms[i].sect = 0
    · have d : (st2.obj.syms[i].sect == 0) = true := by simp [hz]
      have d' : (st2.obj.syms[i].sect != 0) = false := by simp [hz]
      rw [if_neg (by simpa using hz)] at RS
      have RX := hid (show X = { st2 with obj := { st2.obj with syms := st2.obj.syms.set i ⟨st2.obj.syms[i].name, st2.obj.syms[i].bind, st2.sect, 4 * As.secLen st2.obj st2.sect⟩ } } from by rw [RS.out]; unfold As.setSym; rw [modify_set _ i hi])
      have P1 := hid (D2.out.1.putSym HO.out i 2 hi (by omega) (.int .i64 st2.sect) ⟨st2.obj.syms[i].name, st2.obj.syms[i].bind, st2.sect, st2.obj.syms[i].off⟩ rfl)
      clear hz RS
      go_wp2
      refine wp_region_held_drew (S := (fun w' => w'.cell? ⟨b, 14, none⟩ = some (.pointer (some ⟨g, 0, none⟩)) ∧ w'.cell? ⟨b, 13, none⟩ = some (.int .i64 st2.sect) ∧ w'.cell? ⟨g, 5, none⟩ = some (.slice (some ⟨sg, 0, none⟩) st2.obj.syms.length cs))) (by kernel_rfl) ⟨c14, c13, g5⟩ ?_
      intro hS
      refine wpAnyH_take (i := 0) (v := ?_) rfl (by kernel_rfl) (by kernel_rfl) (by kernel_rfl) (fun _ _ _ h => h) (Or.inl ⟨by kernel_rfl, ?_⟩) hS ?_
      rotate_left
      · intro w' hw'; obtain ⟨x0, x1, x2⟩ := hw'; go_simp; with_reducible rfl
      refine wpAnyH_take (i := 1) (v := ?_) rfl (by kernel_rfl) (by kernel_rfl) (by kernel_rfl) (fun _ _ _ h => h) (Or.inl ⟨by kernel_rfl, ?_⟩) hS ?_
      rotate_left
      · intro w' hw'; obtain ⟨x0, x1, x2⟩ := hw'; go_simp; with_reducible rfl
      refine wpAnyH_take (i := 2) (v := ?_) rfl (by kernel_rfl) (by kernel_rfl) (by kernel_rfl) (fun _ _ _ h => h) (Or.inl ⟨by kernel_rfl, ?_⟩) hS ?_
      rotate_left
      · intro w' hw'; obtain ⟨x0, x1, x2⟩ := hw'; go_simp; with_reducible rfl
      refine wpAnyH_take (i := 3) (v := ?_) rfl (by kernel_rfl) (by kernel_rfl) (by kernel_rfl) (fun _ _ _ h => h) (Or.inl ⟨by kernel_rfl, ?_⟩) hS ?_
      rotate_left
      · intro w' hw'; obtain ⟨x0, x1, x2⟩ := hw'; go_simp; with_reducible rfl
      refine wpAnyH_take (i := 4) (v := ?_) rfl (by kernel_rfl) (by kernel_rfl) (by kernel_rfl) (fun _ _ _ h => h) (Or.inl ⟨by kernel_rfl, ?_⟩) hS ?_
      rotate_left
      · intro w' hw'; obtain ⟨x0, x1, x2⟩ := hw'; go_simp; with_reducible rfl
      refine wpAnyH_take (i := 5) (v := ?_) rfl (by kernel_rfl) (by kernel_rfl) (by kernel_rfl) (fun _ _ _ h => h) (Or.inl ⟨by kernel_rfl, ?_⟩) hS ?_
      rotate_left
      · intro w' hw'; obtain ⟨x0, x1, x2⟩ := hw'; go_simp; with_reducible rfl
      refine wpAnyH_take (i := 6) (v := ?_) rfl (by kernel_rfl) (by kernel_rfl) (by kernel_rfl) (fun _ _ _ h => h) (Or.inl ⟨by kernel_rfl, ?_⟩) hS ?_
      rotate_left
      · intro w' hw'; obtain ⟨x0, x1, x2⟩ := hw'; go_simp; with_reducible rfl
      refine wpAnyH_take (i := 7) (v := ?_) rfl (by kernel_rfl) (by kernel_rfl) (by kernel_rfl) (fun _ _ _ h => h) (Or.inl ⟨by kernel_rfl, ?_⟩) hS ?_
      rotate_left
      · intro w' hw'; obtain ⟨x0, x1, x2⟩ := hw'; go_simp; with_reducible rfl
      refine wpAnyH_take (i := 8) (v := ?_) rfl (by kernel_rfl) (by kernel_rfl) (by kernel_rfl) (fun _ _ _ h => h) (Or.inl ⟨by kernel_rfl, ?_⟩) hS ?_
      rotate_left
      · intro w' hw'; obtain ⟨x0, x1, x2⟩ := hw'; go_simp; with_reducible rfl
      refine wpAnyH_take (i := 9) (v := ?_) rfl (by kernel_rfl) (by kernel_rfl) (by kernel_rfl) (fun _ _ _ h => h) (Or.inl ⟨by kernel_rfl, ?_⟩) hS ?_
      rotate_left
      · intro w' hw'; obtain ⟨x0, x1, x2⟩ := hw'; go_simp; with_reducible rfl
      refine wpAnyH_take (i := 10) (v := ?_) rfl (by kernel_rfl) (by kernel_rfl) (by kernel_rfl) (fun _ _ _ h => h) (Or.inl ⟨by kernel_rfl, ?_⟩) hS ?_
      rotate_left
      · intro w' hw'; obtain ⟨x0, x1, x2⟩ := hw'; go_simp; with_reducible rfl
      refine wpAnyH_take (i := 11) (v := ?_) rfl (by kernel_rfl) (by kernel_rfl) (by kernel_rfl) (fun _ _ _ h => h) (Or.inl ⟨by kernel_rfl, ?_⟩) hS ?_
      rotate_left
      · intro w' hw'; obtain ⟨x0, x1, x2⟩ := hw'; go_simp; with_reducible rfl
      refine wpAnyH_take (i := 12) (v := ?_) rfl (by kernel_rfl) (by kernel_rfl) (by kernel_rfl) (fun _ _ _ h => h) (Or.inl ⟨by kernel_rfl, ?_⟩) hS ?_
      rotate_left
      · intro w' hw'; obtain ⟨x0, x1, x2⟩ := hw'; go_simp; with_reducible rfl
      refine wpAnyH_take (i := 13) (v := ?_) rfl (by kernel_rfl) (by kernel_rfl) (by kernel_rfl) (fun _ _ _ h => h) (Or.inl ⟨by kernel_rfl, ?_⟩) hS ?_
      rotate_left
      · intro w' hw'; obtain ⟨x0, x1, x2⟩ := hw'; go_simp; with_reducible rfl
      refine wpAnyH_ready (rs := [14]) (by kernel_rfl) (by simp) ?_
      refine AllReadyH.cons rfl (fun K hK => ?_) AllReadyH.nil
      go_simp
      refine hK.out _ _ ⟨?_, ?_, ?_⟩ (fun hS2 => ?_)
      · exact (grown_set V2 sg (i * 4 + 2) (.int .i64 st2.sect)).cell c14 (by simpa using n1.symm)
      · exact (grown_set V2 sg (i * 4 + 2) (.int .i64 st2.sect)).cell c13 (by simpa using n1.symm)
      · exact (grown_set V2 sg (i * 4 + 2) (.int .i64 st2.sect)).cell g5 (by simpa using n2.symm)
      clear hK K
      refine wpAnyH_done (by kernel_rfl) ?_ _
      try simp only [put_mk, List.getElem_toArray, List.getElem_cons_succ, List.getElem_cons_zero, List.setIfInBounds_toArray, List.set_cons_succ, List.set_cons_zero]
      have D3 := hid ((D2.out.after P1.out).grown (grown_drew (World.grownBy.refl _ none)))
      clear P1 HO c14 c13 g5 k1 k2 k3 f2 f3 hcap n1 n2 hS hS2 D2 g2 vt vf vd va vr d d'
      generalize hst : ({ st2 with obj := { st2.obj with syms := st2.obj.syms.set i ⟨st2.obj.syms[i].name, st2.obj.syms[i].bind, st2.sect, st2.obj.syms[i].off⟩ } } : As.St) = st3 at *
      generalize World.drew _ = V3 at *
      have hi3 : i < st3.obj.syms.length := by rw [← hst]; simpa using hi
      have RX3 := hid (show X = { st3 with obj := { st3.obj with syms := st3.obj.syms.set i ⟨st3.obj.syms[i].name, st3.obj.syms[i].bind, st3.obj.syms[i].sect, 4 * As.secLen st3.obj st3.sect⟩ } } from by
        rw [RX.out]
        subst hst
        simp [As.secLen])
      clear RX hst SLT
      obtain ⟨vt, vf, vd, va, sg2, cs2, vr, ho, g5, k1, k2, k3, hfz, n1, n2⟩ := sym_cells D3.out.1 i hi3
      have HO := hid ho
      have c14 := cell_obj D3.out.1
      have c13 := cell_sect D3.out.1
      have hcap := own_cap ho.syms
      have f3 := hfz (i * 4 + 3)
      have g2 : (i : Int) < (st3.obj.syms.length : Int) := by omega
      have P2 := hid (D3.out.after (D3.out.1.putSym HO.out i 3 hi3 (by omega) (.int .i64 (4 * As.secLen st3.obj st3.sect)) ⟨st3.obj.syms[i].name, st3.obj.syms[i].bind, st3.obj.syms[i].sect, 4 * As.secLen st3.obj st3.sect⟩ rfl))
      have cL := hid (length_any B s b g st3 V3.drew (D3.out.1.grown (grown_drew (World.grownBy.refl _ none))))
      generalize 4 * As.secLen st3.obj st3.sect = ln at *
      clear ho hfz k1 k2
      go_wp2
      refine wp_region_held_drew (S := (fun w' => w'.cell? ⟨b, 14, none⟩ = some (.pointer (some ⟨g, 0, none⟩)) ∧ w'.cell? ⟨b, 13, none⟩ = some (.int .i64 st3.sect) ∧ w'.cell? ⟨g, 5, none⟩ = some (.slice (some ⟨sg2, 0, none⟩) st3.obj.syms.length cs2))) (by kernel_rfl) ⟨c14, c13, g5⟩ ?_
      intro hS
      refine wpAnyH_take (i := 0) (v := ?_) rfl (by kernel_rfl) (by kernel_rfl) (by kernel_rfl) (fun _ _ _ h => h) (Or.inl ⟨by kernel_rfl, ?_⟩) hS ?_
      rotate_left
      · intro w' hw'; obtain ⟨x0, x1, x2⟩ := hw'; go_simp; with_reducible rfl
      refine wpAnyH_take (i := 1) (v := ?_) rfl (by kernel_rfl) (by kernel_rfl) (by kernel_rfl) (fun _ _ _ h => h) (Or.inl ⟨by kernel_rfl, ?_⟩) hS ?_
      rotate_left
      · intro w' hw'; obtain ⟨x0, x1, x2⟩ := hw'; go_simp; with_reducible rfl
      refine wpAnyH_take (i := 2) (v := ?_) rfl (by kernel_rfl) (by kernel_rfl) (by kernel_rfl) (fun _ _ _ h => h) (Or.inl ⟨by kernel_rfl, ?_⟩) hS ?_
      rotate_left
      · intro w' hw'; obtain ⟨x0, x1, x2⟩ := hw'; go_simp; with_reducible rfl
      refine wpAnyH_take (i := 3) (v := ?_) rfl (by kernel_rfl) (by kernel_rfl) (by kernel_rfl) (fun _ _ _ h => h) (Or.inl ⟨by kernel_rfl, ?_⟩) hS ?_
      rotate_left
      · intro w' hw'; obtain ⟨x0, x1, x2⟩ := hw'; go_simp; with_reducible rfl
      refine wpAnyH_take (i := 4) (v := ?_) rfl (by kernel_rfl) (by kernel_rfl) (by kernel_rfl) (fun _ _ _ h => h) (Or.inl ⟨by kernel_rfl, ?_⟩) hS ?_
      rotate_left
      · intro w' hw'; obtain ⟨x0, x1, x2⟩ := hw'; go_simp; with_reducible rfl
      refine wpAnyH_take (i := 5) (v := ?_) rfl (by kernel_rfl) (by kernel_rfl) (by kernel_rfl) (fun _ _ _ h => h) (Or.inl ⟨by kernel_rfl, ?_⟩) hS ?_
      rotate_left
      · intro w' hw'; obtain ⟨x0, x1, x2⟩ := hw'; go_simp; with_reducible rfl
      refine wpAnyH_take (i := 6) (v := ?_) rfl (by kernel_rfl) (by kernel_rfl) (by kernel_rfl) (fun _ _ _ h => h) (Or.inl ⟨by kernel_rfl, ?_⟩) hS ?_
      rotate_left
      · intro w' hw'; obtain ⟨x0, x1, x2⟩ := hw'; go_simp; with_reducible rfl
      refine wpAnyH_take (i := 7) (v := ?_) rfl (by kernel_rfl) (by kernel_rfl) (by kernel_rfl) (fun _ _ _ h => h) (Or.inl ⟨by kernel_rfl, ?_⟩) hS ?_
      rotate_left
      · intro w' hw'; obtain ⟨x0, x1, x2⟩ := hw'; go_simp; with_reducible rfl
      refine wpAnyH_take (i := 8) (v := ?_) rfl (by kernel_rfl) (by kernel_rfl) (by kernel_rfl) (fun _ _ _ h => h) (Or.inl ⟨by kernel_rfl, ?_⟩) hS ?_
      rotate_left
      · intro w' hw'; obtain ⟨x0, x1, x2⟩ := hw'; go_simp; with_reducible rfl
      refine wpAnyH_take (i := 9) (v := ?_) rfl (by kernel_rfl) (by kernel_rfl) (by kernel_rfl) (fun _ _ _ h => h) (Or.inl ⟨by kernel_rfl, ?_⟩) hS ?_
      rotate_left
      · intro w' hw'; obtain ⟨x0, x1, x2⟩ := hw'; go_simp; with_reducible rfl
      refine wpAnyH_take (i := 10) (v := ?_) rfl (by kernel_rfl) (by kernel_rfl) (by kernel_rfl) (fun _ _ _ h => h) (Or.inl ⟨by kernel_rfl, ?_⟩) hS ?_
      rotate_left
      · intro w' hw'; obtain ⟨x0, x1, x2⟩ := hw'; go_simp; with_reducible rfl
      refine wpAnyH_take (i := 11) (v := ?_) rfl (by kernel_rfl) (by kernel_rfl) (by kernel_rfl) (fun _ _ _ h => h) (Or.inl ⟨by kernel_rfl, ?_⟩) hS ?_
      rotate_left
      · intro w' hw'; obtain ⟨x0, x1, x2⟩ := hw'; go_simp; with_reducible rfl
      refine wpAnyH_take (i := 12) (v := ?_) rfl (by kernel_rfl) (by kernel_rfl) (by kernel_rfl) (fun _ _ _ h => h) (Or.inl ⟨by kernel_rfl, ?_⟩) hS ?_
      rotate_left
      · intro w' hw'; obtain ⟨x0, x1, x2⟩ := hw'; go_simp; with_reducible rfl
      refine wpAnyH_take (i := 13) (v := ?_) rfl (by kernel_rfl) (by kernel_rfl) (by kernel_rfl) (fun _ _ _ h => h) (Or.inl ⟨by kernel_rfl, ?_⟩) hS ?_
      rotate_left
      · intro w' hw'; obtain ⟨x0, x1, x2⟩ := hw'; go_simp; with_reducible rfl
      refine wpAnyH_take (i := 14) (v := ?_) rfl (by kernel_rfl) (by kernel_rfl) (by kernel_rfl) (fun _ _ _ h => h) (Or.inl ⟨by kernel_rfl, ?_⟩) hS ?_
      rotate_left
      · intro w' hw'; obtain ⟨x0, x1, x2⟩ := hw'; go_simp; with_reducible rfl
      refine wpAnyH_take (i := 15) (v := ?_) rfl (by kernel_rfl) (by kernel_rfl) (by kernel_rfl) (fun _ _ _ h => h) (Or.inl ⟨by kernel_rfl, ?_⟩) hS ?_
      rotate_left
      · intro w' hw'; obtain ⟨x0, x1, x2⟩ := hw'; go_simp; with_reducible rfl

      refine wpAnyH_ready (rs := [16]) (by kernel_rfl) (by simp) ?_
      refine AllReadyH.cons rfl (fun K hK => ?_) AllReadyH.nil
      go_simp
      go_wp2_with (go_at_call 58; refine cL.out.mono ?_; rintro e w' ⟨rfl, rfl⟩)
      refine hK.out _ _ hS (fun hS2 => ?_)
      clear hK K
      refine wpAnyH_take (i := 17) (v := ?_) rfl (by kernel_rfl) (by kernel_rfl) (by kernel_rfl) (fun _ _ _ h => h) (Or.inl ⟨by kernel_rfl, ?_⟩) hS ?_
      rotate_left
      · intro w' hw'; obtain ⟨x0, x1, x2⟩ := hw'; go_simp; with_reducible rfl
      refine wpAnyH_take (i := 18) (v := ?_) rfl (by kernel_rfl) (by kernel_rfl) (by kernel_rfl) (fun _ _ _ h => h) (Or.inl ⟨by kernel_rfl, ?_⟩) hS ?_
      rotate_left
      · intro w' hw'; obtain ⟨x0, x1, x2⟩ := hw'; go_simp; with_reducible rfl

      refine wpAnyH_ready (rs := [19]) (by kernel_rfl) (by simp) ?_
      refine AllReadyH.cons rfl (fun K hK => ?_) AllReadyH.nil
      go_simp
      refine hK.out _ _ ⟨?_, ?_, ?_⟩ (fun hS2 => ?_)
      · exact (grown_set V3 sg2 (i * 4 + 3) (.int .i64 ln)).cell c14 (by simpa using n1.symm)
      · exact (grown_set V3 sg2 (i * 4 + 3) (.int .i64 ln)).cell c13 (by simpa using n1.symm)
      · exact (grown_set V3 sg2 (i * 4 + 3) (.int .i64 ln)).cell g5 (by simpa using n2.symm)
      clear hK K
      refine wpAnyH_done (by kernel_rfl) ?_ _
      try simp only [put_mk, List.getElem_toArray, List.getElem_cons_succ, List.getElem_cons_zero, List.setIfInBounds_toArray, List.set_cons_succ, List.set_cons_zero]
      go_wp2
      go_end0
      rw [RX3.out]
      exact ⟨rfl, P2.out.grown (grown_drew (World.grownBy.refl _ none))⟩
    · have d : (st2.obj.syms[i].sect == 0) = false := by simp [hz]
      have d' : (st2.obj.syms[i].sect != 0) = true := by simp [hz]
      rw [if_pos (by simpa using hz)] at RS
      have m1 := LT.out.cell 1
      simp only [tokCs, List.getElem?_toArray, List.getElem?_cons_succ, List.getElem?_cons_zero] at m1
      clear hz
      go_wp2_with fail
      refine (refuse_any B s b g st2 10 t.pos V2 D2.out.1 (by omega) HT.out.pos).mono ?_
      rintro e V3 ⟨rfl, h3⟩
      have D3 := hid (D2.out.afterB h3)
      clear h3
      go_wp2
      (try simp only [Exit.inBlock, Exit.then]); refine bodyPost_ret (results_none rfl _ _ _) rfl ?_
      rw [RS.out]
      exact ⟨rfl, D3.out⟩

end Go.Proofs.YtmhbgnlfdiahpaaGreatDoor

namespace Go.Proofs.YtmhbgnlfdiahpaaGreatDoor
open Go.RowKit

theorem WordsAt.of_own {w : World} {base n cap : Nat} {ao : Option Addr} {ws : List Int} (h : w.ownsRow base 3 1 (.slice ao n cap) n (ws.map (Value.int .i64))) : WordsAt w ao cap ws := by
  have hn : ws.length = n := by have := h.1; simpa using this
  rcases h.2 with ⟨h1, h2⟩ | ⟨g', cap', cur, hv, _, hg, h3, _, h5, h6⟩
  · simp only [Value.slice.injEq] at h1
    exact .inl ⟨h1.1, h1.2.2, List.eq_nil_of_length_eq_zero (by omega)⟩
  · simp only [Value.slice.injEq] at hv
    obtain ⟨rfl, _, rfl⟩ := hv
    refine .inr ⟨g', 0, cur, rfl, hg, fun i hi => ?_⟩
    have e : (cur.toList.take (n * 1))[i]? = some (.int .i64 ws[i]) := by rw [h6]; simp [hi]
    rw [List.getElem?_take_of_lt (by omega)] at e
    rw [Nat.zero_add]
    simpa using e

theorem grown_ownN {w wr w1 : World} {row : Option Nat} (h : w.grownBy wr none) (k : wr.grownBy w1 row) (hr : ∀ g, row = some g → w.heap.size ≤ g) : w.grownBy w1 none :=
  ⟨k.os.trans h.os, k.tape.trans h.tape, k.output.trans h.output, Nat.le_trans h.size k.size, fun i hi hn =>
    (k.block i (Nat.lt_of_lt_of_le hi h.size) (fun e => by have := hr i e.symm; omega)).trans (h.block i hi hn)⟩

set_option maxHeartbeats 2000000 in
theorem repeated_any (x : Int) (n : Nat) (w : World) (hn : n ≤ 4096) :
    Calls Tryz.prog 129 #[.int .i64 x, .int .i64 n] w fun e w' => (∃ ao cap, e = .returned (.slice ao n cap) ∧ WordsAt w' ao cap (List.replicate n x)) ∧ w.grownBy w' none := by
  obtain ⟨i0, hi, hz0, hz1, hz2⟩ := info_parts Tryz.infoInt
  go_enter Tryz.func129, Tryz.ntmps129
  go_wp2
  go_loopw [5, 6] (fun v i wr => ∃ k : Nat, k ≤ n ∧ i = .int .i64 k ∧ wr.ownsRow w.heap.size 3 1 v k ((List.replicate k x).map (Value.int .i64)) ∧ w.grownBy wr none) (fun _ i _ => n - (intOf i).toNat)
  case atStart => exact ⟨0, Nat.zero_le _, rfl, World.ownsRow_nil _ _ _ _, World.grownBy.refl _ _⟩
  case round =>
    rename_i v _ _
    obtain ⟨k, hk, rfl, hown, hgr⟩ := hrel
    obtain ⟨av, cv, rfl⟩ := own_form hown
    have HG := hid hgr
    have hsz := hgr.size
    clear hgr
    by_cases hlt : k < n
    · have hlt' : (k : Int) < (n : Int) := by omega
      go_wp2_with (at_builtin; refine wpList_append_own _ rfl _ _ 52 rfl w.heap.size 3 i0 (.int .i64 0) 1 8 Tryz.underlying52 hi hz0 hz1 hz2 rfl (by decide) _ _ _ rfl (hown.alloc _) ⟨wr.heap.size, 0, none⟩ 1 1 [.int .i64 x] rfl rfl (cell_one_new _ _ _) (by intro u hu; simp at hu; subst hu; rfl) (by unfold maxLen; omega) (by omega) (by simp; omega) ?_; intro v' w3 hown' hgrow _; obtain ⟨av', cv', rfl⟩ := own_form hown'; have K := hid (grown_ownN (grown_trans HG.out (World.grownBy_alloc wr (.cells #[.int .i64 x] 3) none)) hgrow (fun b hb => (hown.lt b hb).1)); have HO := hid hown'; clear hgrow hown')
      go_wp2
      go_roundw
      case rel => exact ⟨k + 1, by omega, by go_num, by rw [List.replicate_succ', List.map_append]; exact HO.out, K.out⟩
      case measure => simp [intOf]; omega
    · obtain rfl : k = n := by omega
      have HO := hid hown
      clear hown
      go_wp2
      go_ret
      exact ⟨⟨av, cv, rfl, WordsAt.of_own HO.out⟩, HG.out⟩

theorem repeated_lit (x : Int) (n : Nat) (mn : Int) (hm : mn = (n : Int)) (w : World) (hn : n ≤ 4096) :
    Calls Tryz.prog 129 #[.int .i64 x, .int .i64 mn] w fun e w' => (∃ ao cap, e = .returned (.slice ao n cap) ∧ WordsAt w' ao cap (List.replicate n x)) ∧ w.grownBy w' none := by
  subst hm; exact repeated_any x n w hn

theorem lay_rep (B : Nat) (s : ByteArray) (b g : Nat) (st : As.St) (x : Int) (n : Nat) (ao : Option Addr) (cap : Nat) (W : World) (h : AsmAt B s b g st W) (hw : WordsAt W ao cap (List.replicate n x)) (hn : n ≤ 4096) :
    Calls Tryz.prog 128 #[.pointer (some ⟨b, 0, none⟩), .slice ao n cap] W fun en W' => en = .returned (.tuple #[]) ∧ Does B s b g W (As.lay (List.replicate n x) st) W' := by
  have c := lay_any B s b g st ao cap (List.replicate n x) W h hw (by simpa using hn)
  rw [List.length_replicate] at c
  exact c
theorem layWith_rep (B : Nat) (s : ByteArray) (b g : Nat) (st : As.St) (kind : Int) (sym : Nat) (addend : Int) (x : Int) (n : Nat) (ao : Option Addr) (cap : Nat) (W : World) (h : AsmAt B s b g st W) (hw : WordsAt W ao cap (List.replicate n x)) (hn : n ≤ 4096) :
    Calls Tryz.prog 125 #[.pointer (some ⟨b, 0, none⟩), .int .i64 kind, .int .i64 sym, .int .i64 addend, .slice ao n cap] W fun en W' => en = .returned (.tuple #[]) ∧ Does B s b g W (As.layWith kind sym addend (List.replicate n x) st) W' := by
  have c := layWith_any B s b g st kind sym addend ao cap (List.replicate n x) W h hw (by simpa using hn)
  rw [List.length_replicate] at c
  exact c

end Go.Proofs.YtmhbgnlfdiahpaaGreatDoor

namespace Go.Proofs.YtmhbgnlfdiahpaaGreatDoor
open Go.RowKit

theorem and_n32 (n : Int) : bits .and .i64 n 4294967295 = n % 4294967296 := by
  have h1 : (BitVec.ofInt 64 4294967295).toNat = 2 ^ 32 - 1 := by decide
  have key : (BitVec.ofInt 64 n &&& BitVec.ofInt 64 4294967295).toNat = (n % ((2 ^ 64 : Nat) : Int)).toNat % 2 ^ 32 := by
    rw [BitVec.toNat_and, BitVec.toNat_ofInt, h1, Nat.and_two_pow_sub_one_eq_mod]
  show IntKind.i64.wrap ((BitVec.ofInt 64 n &&& BitVec.ofInt 64 4294967295).toNat : Nat) = _
  rw [key, IntKind.wrap_i64]
  omega

theorem StOk.sect' {s : ByteArray} {st : As.St} (h : StOk s st) (k : Nat) (hk : 1 ≤ k ∧ k ≤ 4) : StOk s { st with sect := k } :=
  ⟨h.size, h.p, h.tok, h.fe, h.fa, h.op, hk, h.text, h.far, h.data, h.bss, h.align, h.syms, h.rels⟩

set_option maxRecDepth 100000 in
set_option maxHeartbeats 4000000 in
theorem section_any (B : Nat) (s : ByteArray) (b g : Nat) (st0 : As.St) (W : World) (h : AsmAt B s b g st0 W) :
    Calls Tryz.prog 101 #[.pointer (some ⟨b, 0, none⟩)] W fun en W' => en = .returned (.tuple #[]) ∧ DoesB B s b g W (As.section' st0) W' := by
  have D0 := hid h.doesB
  have c11 := cell_optext h
  have c13 := cell_sect h
  have f13 := h.blk.free 13
  have OK := hid h.ok
  clear h
  have RS := hid (show As.section' st0 = if st0.op.text = [46, 116, 101, 120, 116] then { st0 with sect := 1 } else if st0.op.text = [46, 102, 97, 114] then { st0 with sect := 2 } else if st0.op.text = [46, 100, 97, 116, 97] then { st0 with sect := 3 } else if st0.op.text = [46, 98, 115, 115] then { st0 with sect := 4 } else st0 from rfl)
  generalize As.section' st0 = X at *
  have e : ∀ l : List UInt8, ((bs st0.op.text).toList == l) = decide (st0.op.text = l) := fun l => by rw [toList_bs, Bool.eq_iff_iff, beq_iff_eq, decide_eq_true_iff]
  have d1 := e [46, 116, 101, 120, 116]
  have d2 := e [46, 102, 97, 114]
  have d3 := e [46, 100, 97, 116, 97]
  have d4 := e [46, 98, 115, 115]
  clear e
  by_cases h1 : st0.op.text = [46, 116, 101, 120, 116]
  · rw [if_pos h1] at RS
    rw [decide_eq_true h1] at d1
    clear h1 d2 d3 d4
    go_enter Tryz.func101, Tryz.ntmps101
    go_wp2
    go_end0
    rw [RS.out]
    exact ⟨rfl, D0.out.sets [(13, .int .i64 1)] { st0 with sect := 1 } (by simp only [setsA, asmCells, List.foldl_cons, List.foldl_nil, List.setIfInBounds_toArray, List.set_cons_succ, List.set_cons_zero]; rfl) rfl (OK.out.sect' 1 (by omega))⟩
  rw [if_neg h1] at RS
  rw [decide_eq_false h1] at d1
  clear h1
  by_cases h2 : st0.op.text = [46, 102, 97, 114]
  · rw [if_pos h2] at RS
    rw [decide_eq_true h2] at d2
    clear h2 d3 d4
    go_enter Tryz.func101, Tryz.ntmps101
    go_wp2
    go_end0
    rw [RS.out]
    exact ⟨rfl, D0.out.sets [(13, .int .i64 2)] { st0 with sect := 2 } (by simp only [setsA, asmCells, List.foldl_cons, List.foldl_nil, List.setIfInBounds_toArray, List.set_cons_succ, List.set_cons_zero]; rfl) rfl (OK.out.sect' 2 (by omega))⟩
  rw [if_neg h2] at RS
  rw [decide_eq_false h2] at d2
  clear h2
  by_cases h3 : st0.op.text = [46, 100, 97, 116, 97]
  · rw [if_pos h3] at RS
    rw [decide_eq_true h3] at d3
    clear h3 d4
    go_enter Tryz.func101, Tryz.ntmps101
    go_wp2
    go_end0
    rw [RS.out]
    exact ⟨rfl, D0.out.sets [(13, .int .i64 3)] { st0 with sect := 3 } (by simp only [setsA, asmCells, List.foldl_cons, List.foldl_nil, List.setIfInBounds_toArray, List.set_cons_succ, List.set_cons_zero]; rfl) rfl (OK.out.sect' 3 (by omega))⟩
  rw [if_neg h3] at RS
  rw [decide_eq_false h3] at d3
  clear h3
  by_cases h4 : st0.op.text = [46, 98, 115, 115]
  · rw [if_pos h4] at RS
    rw [decide_eq_true h4] at d4
    clear h4 
    go_enter Tryz.func101, Tryz.ntmps101
    go_wp2
    go_end0
    rw [RS.out]
    exact ⟨rfl, D0.out.sets [(13, .int .i64 4)] { st0 with sect := 4 } (by simp only [setsA, asmCells, List.foldl_cons, List.foldl_nil, List.setIfInBounds_toArray, List.set_cons_succ, List.set_cons_zero]; rfl) rfl (OK.out.sect' 4 (by omega))⟩
  rw [if_neg h4] at RS
  rw [decide_eq_false h4] at d4
  clear h4
  go_enter Tryz.func101, Tryz.ntmps101
  go_wp2
  go_end0
  rw [RS.out]
  exact ⟨rfl, D0.out⟩

set_option maxRecDepth 100000 in
set_option maxHeartbeats 4000000 in
theorem binding_any (B : Nat) (s : ByteArray) (b g : Nat) (st0 : As.St) (W : World) (h : AsmAt B s b g st0 W) :
    Calls Tryz.prog 105 #[.pointer (some ⟨b, 0, none⟩)] W fun en W' => en = .returned (.tuple #[]) ∧ Does B s b g W (As.binding (sl s) st0) W' := by
  have c11 := cell_optext h
  have c1 := hid (bind_any B s b g st0 1 W h)
  have c2 := hid (bind_any B s b g st0 2 W h)
  clear h
  have RS := hid (show As.binding (sl s) st0 = As.bind (sl s) (if st0.op.text = [46, 103, 108, 111, 98, 108] then 1 else 2) st0 from rfl)
  generalize As.binding (sl s) st0 = X at *
  have d1 : ((bs st0.op.text).toList == [46, 103, 108, 111, 98, 108]) = decide (st0.op.text = [46, 103, 108, 111, 98, 108]) := by rw [toList_bs, Bool.eq_iff_iff, beq_iff_eq, decide_eq_true_iff]
  by_cases h1 : st0.op.text = [46, 103, 108, 111, 98, 108]
  · rw [if_pos h1] at RS
    rw [decide_eq_true h1] at d1
    clear h1
    go_enter Tryz.func105, Tryz.ntmps105
    go_wp2_with fail
    refine c1.out.mono ?_
    rintro e VF ⟨rfl, hh⟩
    have DF := hid hh
    clear hh
    go_wp2
    (try simp only [Exit.inBlock, Exit.then]); refine bodyPost_ret (results_none rfl _ _ _) rfl ?_
    rw [RS.out]
    exact ⟨rfl, DF.out⟩
  · rw [if_neg h1] at RS
    rw [decide_eq_false h1] at d1
    clear h1
    go_enter Tryz.func105, Tryz.ntmps105
    go_wp2_with fail
    refine c2.out.mono ?_
    rintro e VF ⟨rfl, hh⟩
    have DF := hid hh
    clear hh
    go_wp2
    go_end0
    rw [RS.out]
    exact ⟨rfl, DF.out⟩

set_option maxRecDepth 100000 in
set_option maxHeartbeats 4000000 in
theorem word_any (B : Nat) (s : ByteArray) (b g : Nat) (st0 : As.St) (W : World) (h : AsmAt B s b g st0 W) :
    Calls Tryz.prog 102 #[.pointer (some ⟨b, 0, none⟩)] W fun en W' => en = .returned (.tuple #[]) ∧ Does B s b g W (As.word (sl s) st0) W' := by
  have D0 := hid h.does
  clear h
  obtain ⟨X, hX⟩ : ∃ X, X = As.word (sl s) st0 := ⟨_, rfl⟩
  rw [← hX]
  unfold As.word at hX
  dsimp only at hX
  have RS := hid hX
  clear hX
  go_enter Tryz.func102, Tryz.ntmps102
  obtain ⟨c2, c3, c4, c5⟩ := cell_b D0.out.1
  cases hk : (st0.tok.kind == 1)
  · have d : ((st0.tok.kind : Int) == 1) = false := by simp at hk ⊢; omega
    have d' : ((st0.tok.kind : Int) != 1) = true := by simp at hk ⊢; omega
    rw [hk] at RS
    rw [if_neg (by simp)] at RS
    clear hk
    go_wp2_with fail
    refine (aNumber_any B s b g st0 (-2147483648) 4294967295 _ D0.out.1).mono ?_
    rintro e V1 ⟨rfl, hh⟩
    have D1 := hid (D0.out.afterB hh)
    clear hh D0 c2 c3 c4 c5
    generalize As.number (sl s) (-2147483648) 4294967295 st0 = R1 at *
    obtain ⟨n, st1⟩ := R1
    dsimp only at RS D1 ⊢
    have AN := and_n32 n
    generalize n % 4294967296 = m at *
    go_wp2_with fail
    refine (lay_any B s b g st1 _ 1 [m] _ (D1.out.alloc _).1 (words1 V1 m) (by simp)).mono ?_
    rintro e VF ⟨rfl, hh⟩
    have DF := hid ((D1.out.alloc _).after hh)
    clear hh
    go_wp2
    first | go_end0 | ((try simp only [Exit.inBlock, Exit.then]); refine bodyPost_ret (results_none rfl _ _ _) rfl ?_)
    rw [RS.out]
    exact ⟨rfl, DF.out⟩
  · have d : ((st0.tok.kind : Int) == 1) = true := by simp at hk ⊢; omega
    have d' : ((st0.tok.kind : Int) != 1) = false := by simp at hk ⊢; omega
    rw [hk] at RS
    rw [if_pos rfl] at RS
    clear hk
    go_wp2_with fail
    refine (target_any B s b g st0 _ D0.out.1).mono ?_
    rintro e V1 ⟨rfl, hh⟩
    have D1 := hid (D0.out.after hh)
    clear hh D0 c2 c3 c4 c5
    generalize As.target (sl s) st0 = R1 at *
    obtain ⟨⟨sym, add⟩, st1⟩ := R1
    dsimp only at RS D1 ⊢
    go_wp2_with fail
    refine (layWith_any B s b g st1 1 sym add _ 1 [0] _ (D1.out.alloc _).1 (words1 V1 0) (by simp)).mono ?_
    rintro e VF ⟨rfl, hh⟩
    have DF := hid ((D1.out.alloc _).after hh)
    clear hh
    go_wp2
    first | go_end0 | ((try simp only [Exit.inBlock, Exit.then]); refine bodyPost_ret (results_none rfl _ _ _) rfl ?_)
    rw [RS.out]
    exact ⟨rfl, DF.out⟩

set_option maxRecDepth 100000 in
set_option maxHeartbeats 4000000 in
theorem space_any (B : Nat) (s : ByteArray) (b g : Nat) (st0 : As.St) (W : World) (h : AsmAt B s b g st0 W) :
    Calls Tryz.prog 103 #[.pointer (some ⟨b, 0, none⟩)] W fun en W' => en = .returned (.tuple #[]) ∧ Does B s b g W (As.space (sl s) st0) W' := by
  have D0 := hid h.does
  clear h
  obtain ⟨X, hX⟩ : ∃ X, X = As.space (sl s) st0 := ⟨_, rfl⟩
  rw [← hX]
  unfold As.space at hX
  dsimp only at hX
  have RS := hid hX
  clear hX
  go_enter Tryz.func103, Tryz.ntmps103
  have NB := number_bnd (sl s) 0 4800 st0 (by omega) (by omega)
  go_wp2_with fail
  refine (aNumber_any B s b g st0 0 4800 _ D0.out.1).mono ?_
  rintro e V1 ⟨rfl, hh⟩
  have D1 := hid (D0.out.afterB hh)
  clear hh D0
  generalize As.number (sl s) 0 4800 st0 = R1 at *
  obtain ⟨n, st1⟩ := R1
  dsimp only at RS D1 NB ⊢
  have c10 := cell_op D1.out.1
  have hpos := D1.out.1.ok.op.pos
  obtain ⟨m, hm⟩ := Int.eq_ofNat_of_zero_le NB.1
  subst hm
  have hm0 : (m : Int) ≤ 4800 := NB.2
  by_cases c : (m : Int) % 4 = 0
  · rw [if_pos c] at RS
    have d : ((m : Int) % 4 == 0) = true := by simp [c]
    have d' : ((m : Int) % 4 != 0) = false := by simp [c]
    have em : ((m : Int) / 4).toNat = m / 4 := by omega
    rw [em] at RS
    have hm4 := hid (show ((m : Int) / 4) = ((m / 4 : Nat) : Int) by omega)
    have hm5 := hid (show m / 4 ≤ 4096 by omega)
    clear c em
    go_wp2_with fail
    refine (repeated_lit 0 (m / 4) _ hm4.out _ hm5.out).mono ?_
    rintro e V2 ⟨⟨ao, cap, rfl, hw⟩, hg⟩
    have D2 := hid (D1.out.grown hg)
    have HWD := hid hw
    clear hg hw
    go_wp2_with fail
    refine (lay_rep B s b g st1 0 (m / 4) ao cap V2 D2.out.1 HWD.out hm5.out).mono ?_
    rintro e V3 ⟨rfl, h3⟩
    have D3 := hid (D2.out.after h3)
    clear h3
    go_wp2
    go_end0
    rw [RS.out]
    exact ⟨rfl, D3.out⟩
  · rw [if_neg c] at RS
    have d : ((m : Int) % 4 == 0) = false := by simp [c]
    have d' : ((m : Int) % 4 != 0) = true := by simp [c]
    clear c
    go_wp2_with fail
    refine (refuse_any B s b g st1 8 st1.op.pos V1 D1.out.1 (by omega) hpos).mono ?_
    rintro e V3 ⟨rfl, h3⟩
    have D3 := hid (D1.out.afterB h3)
    clear h3
    go_wp2
    (try simp only [Exit.inBlock, Exit.then]); refine bodyPost_ret (results_none rfl _ _ _) rfl ?_
    rw [RS.out]
    exact ⟨rfl, D3.out⟩

end Go.Proofs.YtmhbgnlfdiahpaaGreatDoor

namespace Go.Proofs.YtmhbgnlfdiahpaaGreatDoor
open Go.RowKit

set_option maxHeartbeats 1000000 in
theorem inCode_any (B : Nat) (s : ByteArray) (b g : Nat) (st : As.St) (W : World) (h : AsmAt B s b g st W) :
    Calls Tryz.prog 86 #[.pointer (some ⟨b, 0, none⟩)] W fun e W' => e = .returned (.bool (As.inCode st.sect)) ∧ W' = W := by
  have c := cell_sect h
  have hs := h.ok.sect
  clear h
  generalize st.sect = sect at *
  rcases (show sect = 1 ∨ sect = 2 ∨ sect = 3 ∨ sect = 4 by omega) with rfl | rfl | rfl | rfl
  all_goals
    go_enter Tryz.func86, Tryz.ntmps86
    go_wp2
    go_ret
    exact ⟨rfl, rfl⟩

theorem align_cells {B : Nat} {s : ByteArray} {b g : Nat} {V : World} {st : As.St} (h : AsmAt B s b g st V) (i : Nat) (hi : i < 4) : ∃ vt vf vd ag cs vs vr x, ObjOwn B V b g st.obj vt vf vd (.slice (some ⟨ag, 0, none⟩) 4 cs) vs vr ∧ V.cell? ⟨g, 4, none⟩ = some (.slice (some ⟨ag, 0, none⟩) 4 cs) ∧
    st.obj.align[i]? = some x ∧ V.cell? ⟨ag, i, none⟩ = some (.int .i64 x) ∧ (∀ o, V.frozen? ⟨ag, o, none⟩ = false) ∧ 4 ≤ cs := by
  have h4 := h.ok.align
  obtain ⟨vt, vf, vd, va, vs, vr, ho⟩ := h.own
  obtain ⟨as_, cs, rfl⟩ := own_form ho.align
  obtain ⟨ag, cur, rfl, hb, -, -, hcs⟩ := own_blk ho.align (by omega)
  obtain ⟨ag', off, hag, hc⟩ := IntsIn.of_own ho.align (by omega)
  simp only [Option.some.injEq, Addr.mk.injEq] at hag
  obtain ⟨rfl, rfl, -⟩ := hag
  have k := hc i (by omega)
  rw [Nat.zero_add] at k
  have g4 := ho.blk.cell 4
  simp only [List.getElem?_toArray, List.getElem?_cons_succ, List.getElem?_cons_zero] at g4
  rw [h4] at ho g4 hcs
  exact ⟨vt, vf, vd, ag, cs, vs, vr, st.obj.align[i]'(by omega), ho, g4, List.getElem?_eq_getElem (by omega), k, fun o => hb.free o, hcs⟩

set_option maxRecDepth 100000 in
set_option maxHeartbeats 4000000 in
theorem raiseBorder_any (B : Nat) (s : ByteArray) (b g : Nat) (st : As.St) (k : Int) (W : World) (h : AsmAt B s b g st W) :
    Calls Tryz.prog 130 #[.pointer (some ⟨b, 0, none⟩), .int .i64 k] W fun en W' => en = .returned (.tuple #[]) ∧ Does B s b g W (As.raiseBorder k st) W' := by
  have HW := hid h
  have c13 := cell_sect h
  have c14 := cell_obj h
  have hs := h.ok.sect
  obtain ⟨i, hi⟩ : ∃ i, i + 1 = st.sect := ⟨st.sect - 1, by omega⟩
  have hi4 : i < 4 := by omega
  obtain ⟨vt, vf, vd, ag, cs, vs, vr, x, ho, g4, hx, kx, hfz, hcs⟩ := align_cells h i hi4
  have fz := hfz i
  have HO := hid ho
  clear h ho hfz
  have RS := hid (show As.raiseBorder k st = if x < k then { st with obj := { st.obj with align := st.obj.align.set i k } } else st from by
    unfold As.raiseBorder
    rw [show st.sect - 1 = i by omega, hx]
    rfl)
  generalize As.raiseBorder k st = X at *
  have e1 : (st.sect : Int) = (i : Int) + 1 := by omega
  rw [e1] at c13
  have d1 : decide ((i : Int) < 0) = false := by simp
  have d2 : decide ((4 : Int) ≤ (i : Int)) = false := by simp; omega
  have d3 : decide (4 ≤ i) = false := by simp; omega
  have g1 : (0 : Int) ≤ (i : Int) := by omega
  have g2 : (i : Int) < 4 := by omega
  clear hs hi hx e1
  by_cases c : x < k
  · have d : decide (x < k) = true := by simp [c]
    rw [if_pos c] at RS
    have P := hid (HW.out.does.after (HW.out.putAlign HO.out i hi4 k))
    clear c
    go_enter Tryz.func130, Tryz.ntmps130
    go_wp2
    go_end0
    rw [RS.out]
    exact ⟨rfl, P.out⟩
  · have d : decide (x < k) = false := by simp; omega
    rw [if_neg c] at RS
    clear c
    go_enter Tryz.func130, Tryz.ntmps130
    go_wp2
    go_end0
    rw [RS.out]
    exact ⟨rfl, HW.out.does⟩

theorem number_ok (s : List UInt8) (lo hi : Int) (st : As.St) (h : As.failed (As.number s lo hi st).2 = false) : lo ≤ (As.number s lo hi st).1 ∧ (As.number s lo hi st).1 ≤ hi := by
  have key : ∀ neg pos st, As.failed (As.numberFrom s neg pos lo hi st).2 = false → lo ≤ (As.numberFrom s neg pos lo hi st).1 ∧ (As.numberFrom s neg pos lo hi st).1 ≤ hi := by
    intro neg pos st hf
    unfold As.numberFrom at hf ⊢
    generalize (if neg then -(st.tok.n : Int) else (st.tok.n : Int)) = x at *
    split at hf
    · rename_i hk
      rw [if_pos hk]
      by_cases h : x < lo ∨ hi < x
      · rw [if_pos h] at hf
        rw [refuse_failed _ _ _ (by omega)] at hf
        cases hf
      · rw [if_neg h]; simp only; omega
    · rw [refuse_failed _ _ _ (by omega)] at hf
      cases hf
  unfold As.number at h ⊢
  split at h
  · rename_i hm; rw [if_pos hm]; exact key _ _ _ h
  · rename_i hm; rw [if_neg hm]; exact key _ _ _ h

end Go.Proofs.YtmhbgnlfdiahpaaGreatDoor

namespace Go.Proofs.YtmhbgnlfdiahpaaGreatDoor
open Go.RowKit

set_option maxRecDepth 100000 in
set_option maxHeartbeats 8000000 in
theorem align_any (B : Nat) (s : ByteArray) (b g : Nat) (st0 : As.St) (W : World) (h : AsmAt B s b g st0 W) :
    Calls Tryz.prog 104 #[.pointer (some ⟨b, 0, none⟩)] W fun en W' => en = .returned (.tuple #[]) ∧ Does B s b g W (As.align (sl s) st0) W' := by
  have D0 := hid h.does
  clear h
  obtain ⟨X, hX⟩ : ∃ X, X = As.align (sl s) st0 := ⟨_, rfl⟩
  rw [← hX]
  unfold As.align at hX
  dsimp only at hX
  have RS := hid hX
  clear hX
  have NO := hid (number_ok (sl s) 2 4 st0)
  go_enter Tryz.func104, Tryz.ntmps104
  go_wp2_with fail
  refine (aNumber_any B s b g st0 2 4 _ D0.out.1).mono ?_
  rintro e V1 ⟨rfl, hh⟩
  have D1 := hid (D0.out.afterB hh)
  clear hh D0
  generalize As.number (sl s) 2 4 st0 = R1 at *
  obtain ⟨n, st1⟩ := R1
  dsimp only at RS D1 NO ⊢
  go_wp2_with fail
  refine (failed_any B s b g st1 V1 D1.out.1).mono ?_
  rintro e w1 ⟨rfl, rfl⟩
  cases hf : As.failed st1
  · rw [hf, if_neg (by simp)] at RS
    have hn := NO.out hf
    clear hf NO
    have cI := hid (fun V hV => inCode_any B s b g st1 V hV)
    have hsb := secLen_bnd D1.out.1.ok
    rcases (show n = 2 ∨ n = 3 ∨ n = 4 by omega) with rfl | rfl | rfl
    · clear hn
      have RS2 := hid (show X = As.raiseBorder 2 (As.alignTo 4 st1) from RS.out)
      clear RS
      go_wp2_with fail
      refine (cI.out w1 D1.out.1).mono ?_
      rintro e w2 ⟨rfl, rfl⟩
      cases hc : As.inCode st1.sect
      · have RT := hid (show As.alignTo 4 st1 = As.lay (List.replicate (((4 : Int) - 4 * As.secLen st1.obj st1.sect % 4) % 4 / 4).toNat 0) st1 from by unfold As.alignTo; rw [hc]; rfl)
        clear hc
        have cL := hid (fun V hV => length_any B s b g st1 V hV)
        have HD0 := hid (fun n => D1.out.drewN n)
        have c13 := cell_sect D1.out.1
        have c14 := cell_obj D1.out.1
        generalize As.secLen st1.obj st1.sect = q at *
        obtain ⟨qn, rfl⟩ := Int.eq_ofNat_of_zero_le hsb.1
        have hq2 : (qn : Int) ≤ 1200 := hsb.2
        have hq3 : (0 : Int) ≤ 4 * (qn : Int) := by omega
        have EC := hid (show (((4 : Int) - 4 * (qn : Int) % 4) % 4 / 4) = (((((4 : Int) - 4 * (qn : Int) % 4) % 4 / 4).toNat : Nat) : Int) by omega)
        have HC := hid (show (((4 : Int) - 4 * (qn : Int) % 4) % 4 / 4).toNat ≤ 4096 by omega)
        have r0 : (0 : Int) ≤ 4 * (qn : Int) % 4 := by omega
        have r1 : 4 * (qn : Int) % 4 < 4 := by omega
        generalize (((4 : Int) - 4 * (qn : Int) % 4) % 4 / 4).toNat = cnt at *
        go_wp2
        go_quiet ((go_at_call 58; exact Calls.quiet_of_same (cL.out _ (HD0.out _).1)))
        have D2 := hid (HD0.out nq)
        clear HD0 c13 c14 cL
        generalize w2.drewN nq = V2 at *
        go_wp2_with fail
        refine (repeated_lit 0 cnt _ (by have e := EC.out; omega) _ HC.out).mono ?_
        rintro e V3 ⟨⟨ao, cap, rfl, hw⟩, hg⟩
        have D3 := hid (D2.out.grown hg)
        have HWD := hid hw
        clear hg hw D2
        go_wp2_with fail
        refine (lay_rep B s b g st1 0 cnt ao cap V3 D3.out.1 HWD.out HC.out).mono ?_
        rintro e V4 ⟨rfl, h4⟩
        have D4 := hid (D3.out.after h4)
        clear h4
        rw [← RT.out] at D4
        go_wp2_with fail
        refine (raiseBorder_any B s b g _ 2 V4 D4.out.1).mono ?_
        rintro e V5 ⟨rfl, h5⟩
        have D5 := hid (D4.out.after h5)
        clear h5
        go_wp2
        go_end0
        rw [RS2.out]
        exact ⟨rfl, D5.out⟩
      · have RT := hid (show As.alignTo 4 st1 = st1 from by unfold As.alignTo; rw [hc]; rfl)
        clear hc
        rw [RT.out] at RS2
        go_wp2_with fail
        refine (raiseBorder_any B s b g _ 2 w2 D1.out.1).mono ?_
        rintro e V5 ⟨rfl, h5⟩
        have D5 := hid (D1.out.after h5)
        clear h5
        go_wp2
        go_end0
        rw [RS2.out]
        exact ⟨rfl, D5.out⟩
    · clear hn
      have RS2 := hid (show X = As.raiseBorder 3 (As.alignTo 8 st1) from RS.out)
      clear RS
      go_wp2_with fail
      refine (cI.out w1 D1.out.1).mono ?_
      rintro e w2 ⟨rfl, rfl⟩
      cases hc : As.inCode st1.sect
      · have RT := hid (show As.alignTo 8 st1 = As.lay (List.replicate (((8 : Int) - 4 * As.secLen st1.obj st1.sect % 8) % 8 / 4).toNat 0) st1 from by unfold As.alignTo; rw [hc]; rfl)
        clear hc
        have cL := hid (fun V hV => length_any B s b g st1 V hV)
        have HD0 := hid (fun n => D1.out.drewN n)
        have c13 := cell_sect D1.out.1
        have c14 := cell_obj D1.out.1
        generalize As.secLen st1.obj st1.sect = q at *
        obtain ⟨qn, rfl⟩ := Int.eq_ofNat_of_zero_le hsb.1
        have hq2 : (qn : Int) ≤ 1200 := hsb.2
        have hq3 : (0 : Int) ≤ 4 * (qn : Int) := by omega
        have EC := hid (show (((8 : Int) - 4 * (qn : Int) % 8) % 8 / 4) = (((((8 : Int) - 4 * (qn : Int) % 8) % 8 / 4).toNat : Nat) : Int) by omega)
        have HC := hid (show (((8 : Int) - 4 * (qn : Int) % 8) % 8 / 4).toNat ≤ 4096 by omega)
        have r0 : (0 : Int) ≤ 4 * (qn : Int) % 8 := by omega
        have r1 : 4 * (qn : Int) % 8 < 8 := by omega
        generalize (((8 : Int) - 4 * (qn : Int) % 8) % 8 / 4).toNat = cnt at *
        go_wp2
        go_quiet ((go_at_call 58; exact Calls.quiet_of_same (cL.out _ (HD0.out _).1)))
        have D2 := hid (HD0.out nq)
        clear HD0 c13 c14 cL
        generalize w2.drewN nq = V2 at *
        go_wp2_with fail
        refine (repeated_lit 0 cnt _ (by have e := EC.out; omega) _ HC.out).mono ?_
        rintro e V3 ⟨⟨ao, cap, rfl, hw⟩, hg⟩
        have D3 := hid (D2.out.grown hg)
        have HWD := hid hw
        clear hg hw D2
        go_wp2_with fail
        refine (lay_rep B s b g st1 0 cnt ao cap V3 D3.out.1 HWD.out HC.out).mono ?_
        rintro e V4 ⟨rfl, h4⟩
        have D4 := hid (D3.out.after h4)
        clear h4
        rw [← RT.out] at D4
        go_wp2_with fail
        refine (raiseBorder_any B s b g _ 3 V4 D4.out.1).mono ?_
        rintro e V5 ⟨rfl, h5⟩
        have D5 := hid (D4.out.after h5)
        clear h5
        go_wp2
        go_end0
        rw [RS2.out]
        exact ⟨rfl, D5.out⟩
      · have RT := hid (show As.alignTo 8 st1 = As.layWith 6 0 4 (List.replicate 1 19) st1 from by unfold As.alignTo; rw [hc]; rfl)
        clear hc
        go_wp2_with fail
        refine (repeated_lit 19 1 _ rfl _ (by omega)).mono ?_
        rintro e V3 ⟨⟨ao, cap, rfl, hw⟩, hg⟩
        have D3 := hid (D1.out.grown hg)
        have HWD := hid hw
        clear hg hw
        go_wp2_with fail
        refine (layWith_rep B s b g st1 6 0 4 19 1 ao cap V3 D3.out.1 HWD.out (by omega)).mono ?_
        rintro e V4 ⟨rfl, h4⟩
        have D4 := hid (D3.out.after h4)
        clear h4
        rw [← RT.out] at D4
        go_wp2_with fail
        refine (raiseBorder_any B s b g _ 3 V4 D4.out.1).mono ?_
        rintro e V5 ⟨rfl, h5⟩
        have D5 := hid (D4.out.after h5)
        clear h5
        go_wp2
        go_end0
        rw [RS2.out]
        exact ⟨rfl, D5.out⟩
    · clear hn
      have RS2 := hid (show X = As.raiseBorder 4 (As.alignTo 16 st1) from RS.out)
      clear RS
      go_wp2_with fail
      refine (cI.out w1 D1.out.1).mono ?_
      rintro e w2 ⟨rfl, rfl⟩
      cases hc : As.inCode st1.sect
      · have RT := hid (show As.alignTo 16 st1 = As.lay (List.replicate (((16 : Int) - 4 * As.secLen st1.obj st1.sect % 16) % 16 / 4).toNat 0) st1 from by unfold As.alignTo; rw [hc]; rfl)
        clear hc
        have cL := hid (fun V hV => length_any B s b g st1 V hV)
        have HD0 := hid (fun n => D1.out.drewN n)
        have c13 := cell_sect D1.out.1
        have c14 := cell_obj D1.out.1
        generalize As.secLen st1.obj st1.sect = q at *
        obtain ⟨qn, rfl⟩ := Int.eq_ofNat_of_zero_le hsb.1
        have hq2 : (qn : Int) ≤ 1200 := hsb.2
        have hq3 : (0 : Int) ≤ 4 * (qn : Int) := by omega
        have EC := hid (show (((16 : Int) - 4 * (qn : Int) % 16) % 16 / 4) = (((((16 : Int) - 4 * (qn : Int) % 16) % 16 / 4).toNat : Nat) : Int) by omega)
        have HC := hid (show (((16 : Int) - 4 * (qn : Int) % 16) % 16 / 4).toNat ≤ 4096 by omega)
        have r0 : (0 : Int) ≤ 4 * (qn : Int) % 16 := by omega
        have r1 : 4 * (qn : Int) % 16 < 16 := by omega
        generalize (((16 : Int) - 4 * (qn : Int) % 16) % 16 / 4).toNat = cnt at *
        go_wp2
        go_quiet ((go_at_call 58; exact Calls.quiet_of_same (cL.out _ (HD0.out _).1)))
        have D2 := hid (HD0.out nq)
        clear HD0 c13 c14 cL
        generalize w2.drewN nq = V2 at *
        go_wp2_with fail
        refine (repeated_lit 0 cnt _ (by have e := EC.out; omega) _ HC.out).mono ?_
        rintro e V3 ⟨⟨ao, cap, rfl, hw⟩, hg⟩
        have D3 := hid (D2.out.grown hg)
        have HWD := hid hw
        clear hg hw D2
        go_wp2_with fail
        refine (lay_rep B s b g st1 0 cnt ao cap V3 D3.out.1 HWD.out HC.out).mono ?_
        rintro e V4 ⟨rfl, h4⟩
        have D4 := hid (D3.out.after h4)
        clear h4
        rw [← RT.out] at D4
        go_wp2_with fail
        refine (raiseBorder_any B s b g _ 4 V4 D4.out.1).mono ?_
        rintro e V5 ⟨rfl, h5⟩
        have D5 := hid (D4.out.after h5)
        clear h5
        go_wp2
        go_end0
        rw [RS2.out]
        exact ⟨rfl, D5.out⟩
      · have RT := hid (show As.alignTo 16 st1 = As.layWith 6 0 12 (List.replicate 3 19) st1 from by unfold As.alignTo; rw [hc]; rfl)
        clear hc
        go_wp2_with fail
        refine (repeated_lit 19 3 _ rfl _ (by omega)).mono ?_
        rintro e V3 ⟨⟨ao, cap, rfl, hw⟩, hg⟩
        have D3 := hid (D1.out.grown hg)
        have HWD := hid hw
        clear hg hw
        go_wp2_with fail
        refine (layWith_rep B s b g st1 6 0 12 19 3 ao cap V3 D3.out.1 HWD.out (by omega)).mono ?_
        rintro e V4 ⟨rfl, h4⟩
        have D4 := hid (D3.out.after h4)
        clear h4
        rw [← RT.out] at D4
        go_wp2_with fail
        refine (raiseBorder_any B s b g _ 4 V4 D4.out.1).mono ?_
        rintro e V5 ⟨rfl, h5⟩
        have D5 := hid (D4.out.after h5)
        clear h5
        go_wp2
        go_end0
        rw [RS2.out]
        exact ⟨rfl, D5.out⟩
  · rw [hf, if_pos rfl] at RS
    clear hf
    go_wp2
    (try simp only [Exit.inBlock, Exit.then]); refine bodyPost_ret (results_none rfl _ _ _) rfl ?_
    rw [RS.out]
    exact ⟨rfl, D1.out⟩

end Go.Proofs.YtmhbgnlfdiahpaaGreatDoor

namespace Go.Proofs.YtmhbgnlfdiahpaaGreatDoor
open Go.RowKit

set_option maxRecDepth 100000 in
set_option maxHeartbeats 16000000 in
theorem dirShape_any (t : List UInt8) (w : World) :
    Calls Tryz.prog 85 #[.string (bs t)] w fun e w' => e = .returned (.int .i64 (As.dirShape t : Nat)) ∧ w' = w := by
  have RS := hid (show As.dirShape t = (
  if t = [46, 116, 101, 120, 116] then 15 else
  if t = [46, 102, 97, 114] then 15 else
  if t = [46, 100, 97, 116, 97] then 15 else
  if t = [46, 98, 115, 115] then 15 else
  if t = [46, 119, 111, 114, 100] then 16 else
  if t = [46, 115, 112, 97, 99, 101] then 17 else
  if t = [46, 97, 108, 105, 103, 110] then 18 else
  if t = [46, 103, 108, 111, 98, 108] then 19 else
  if t = [46, 119, 101, 97, 107] then 19 else
  0) from rfl)
  generalize As.dirShape t = X at *
  have e : ∀ l : List UInt8, ((bs t).toList == l) = decide (t = l) := fun l => by rw [toList_bs, Bool.eq_iff_iff, beq_iff_eq, decide_eq_true_iff]
  by_cases h : t = [46, 116, 101, 120, 116]
  · rw [if_pos h] at RS
    have d0 := e [46, 116, 101, 120, 116]
    rw [decide_eq_true h] at d0
    clear h e
    go_enter Tryz.func85, Tryz.ntmps85
    go_wp2
    go_ret
    exact ⟨by rw [RS.out]; rfl, rfl⟩
  have d0 := e [46, 116, 101, 120, 116]
  rw [if_neg h] at RS
  rw [decide_eq_false h] at d0
  clear h
  by_cases h : t = [46, 102, 97, 114]
  · rw [if_pos h] at RS
    have d1 := e [46, 102, 97, 114]
    rw [decide_eq_true h] at d1
    clear h e
    go_enter Tryz.func85, Tryz.ntmps85
    go_wp2
    go_ret
    exact ⟨by rw [RS.out]; rfl, rfl⟩
  have d1 := e [46, 102, 97, 114]
  rw [if_neg h] at RS
  rw [decide_eq_false h] at d1
  clear h
  by_cases h : t = [46, 100, 97, 116, 97]
  · rw [if_pos h] at RS
    have d2 := e [46, 100, 97, 116, 97]
    rw [decide_eq_true h] at d2
    clear h e
    go_enter Tryz.func85, Tryz.ntmps85
    go_wp2
    go_ret
    exact ⟨by rw [RS.out]; rfl, rfl⟩
  have d2 := e [46, 100, 97, 116, 97]
  rw [if_neg h] at RS
  rw [decide_eq_false h] at d2
  clear h
  by_cases h : t = [46, 98, 115, 115]
  · rw [if_pos h] at RS
    have d3 := e [46, 98, 115, 115]
    rw [decide_eq_true h] at d3
    clear h e
    go_enter Tryz.func85, Tryz.ntmps85
    go_wp2
    go_ret
    exact ⟨by rw [RS.out]; rfl, rfl⟩
  have d3 := e [46, 98, 115, 115]
  rw [if_neg h] at RS
  rw [decide_eq_false h] at d3
  clear h
  by_cases h : t = [46, 119, 111, 114, 100]
  · rw [if_pos h] at RS
    have d4 := e [46, 119, 111, 114, 100]
    rw [decide_eq_true h] at d4
    clear h e
    go_enter Tryz.func85, Tryz.ntmps85
    go_wp2
    go_ret
    exact ⟨by rw [RS.out]; rfl, rfl⟩
  have d4 := e [46, 119, 111, 114, 100]
  rw [if_neg h] at RS
  rw [decide_eq_false h] at d4
  clear h
  by_cases h : t = [46, 115, 112, 97, 99, 101]
  · rw [if_pos h] at RS
    have d5 := e [46, 115, 112, 97, 99, 101]
    rw [decide_eq_true h] at d5
    clear h e
    go_enter Tryz.func85, Tryz.ntmps85
    go_wp2
    go_ret
    exact ⟨by rw [RS.out]; rfl, rfl⟩
  have d5 := e [46, 115, 112, 97, 99, 101]
  rw [if_neg h] at RS
  rw [decide_eq_false h] at d5
  clear h
  by_cases h : t = [46, 97, 108, 105, 103, 110]
  · rw [if_pos h] at RS
    have d6 := e [46, 97, 108, 105, 103, 110]
    rw [decide_eq_true h] at d6
    clear h e
    go_enter Tryz.func85, Tryz.ntmps85
    go_wp2
    go_ret
    exact ⟨by rw [RS.out]; rfl, rfl⟩
  have d6 := e [46, 97, 108, 105, 103, 110]
  rw [if_neg h] at RS
  rw [decide_eq_false h] at d6
  clear h
  by_cases h : t = [46, 103, 108, 111, 98, 108]
  · rw [if_pos h] at RS
    have d7 := e [46, 103, 108, 111, 98, 108]
    rw [decide_eq_true h] at d7
    clear h e
    go_enter Tryz.func85, Tryz.ntmps85
    go_wp2
    go_ret
    exact ⟨by rw [RS.out]; rfl, rfl⟩
  have d7 := e [46, 103, 108, 111, 98, 108]
  rw [if_neg h] at RS
  rw [decide_eq_false h] at d7
  clear h
  by_cases h : t = [46, 119, 101, 97, 107]
  · rw [if_pos h] at RS
    have d8 := e [46, 119, 101, 97, 107]
    rw [decide_eq_true h] at d8
    clear h e
    go_enter Tryz.func85, Tryz.ntmps85
    go_wp2
    go_ret
    exact ⟨by rw [RS.out]; rfl, rfl⟩
  have d8 := e [46, 119, 101, 97, 107]
  rw [if_neg h] at RS
  rw [decide_eq_false h] at d8
  clear h
  clear e
  go_enter Tryz.func85, Tryz.ntmps85
  go_wp2
  go_ret
  exact ⟨by rw [RS.out]; rfl, rfl⟩

end Go.Proofs.YtmhbgnlfdiahpaaGreatDoor
