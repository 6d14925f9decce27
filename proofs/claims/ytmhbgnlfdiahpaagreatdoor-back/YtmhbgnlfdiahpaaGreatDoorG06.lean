/- The scanner: the next token. -/
/- The scanner. -/
/- The assembler: tokens used up. -/
/- The assembler: names of registers, points. -/
import Derived.Test.YtmhbgnlfdiahpaaGreatDoorG05
namespace Go.Proofs.YtmhbgnlfdiahpaaGreatDoor
open Go.RowKit

theorem BlkAt.drew {W : World} {g : Nat} {cs : Array Value} {t : TypeId} (h : BlkAt W g cs t) : BlkAt W.drew g cs t := h
theorem NumSt.begin {s : ByteArray} {b : Nat} {tail : List Value} {p : Nat} {w : World} (h : ScAt s b tail p w) : NumSt s b tail w p ((w.alloc (.cells #[.int .i64 0, .int .i64 0, .string ⟨#[]⟩, .int .i64 0] 49)).alloc (.cells #[.int .i64 0, .int .i64 0, .string ⟨#[]⟩] 25)) := by
  refine ⟨(BlkAt.new w _ _).grown (World.grownBy_alloc _ _ none) (by simp), ?_, (h.grown (World.grownBy_alloc _ _ none)).grown (World.grownBy_alloc _ _ none), grown_trans (World.grownBy_alloc _ _ _) (World.grownBy_alloc _ _ _)⟩
  have := BlkAt.new (w.alloc (.cells #[.int .i64 0, .int .i64 0, .string ⟨#[]⟩, .int .i64 0] 49)) #[.int .i64 0, .int .i64 0, .string ⟨#[]⟩] 25
  rw [show (w.alloc (.cells #[.int .i64 0, .int .i64 0, .string ⟨#[]⟩, .int .i64 0] 49)).heap.size = w.heap.size + 1 by simp] at this
  exact this
theorem NumSt.call {s : ByteArray} {b : Nat} {tail : List Value} {w : World} {k k' : Nat} {W W' : World} (h : NumSt s b tail w k W) (hb : b < w.heap.size) (hsc : ScAt s b tail k' W') (hg : W.grownBy W' (some b)) : NumSt s b tail w k' W' :=
  ⟨h.t.grown hg (by simp; omega), h.f.grown hg (by simp; omega), hsc, grown_trans h.gr hg⟩

set_option maxRecDepth 100000 in
set_option maxHeartbeats 4000000 in
theorem next_any (s : ByteArray) (b : Nat) (tail : List Value) (p : Nat) (w : World) (h : ScAt s b tail p w) (hs : s.size ≤ 1000) (hp : p ≤ s.size) :
    Calls Tryz.prog 55 #[.pointer (some ⟨b, 0, none⟩)] w fun e w' => e = .returned (scanRet (As.next (sl s) p)) ∧ ScAt s b tail (As.next (sl s) p).2.2 w' ∧ w.grownBy w' (some b) := by
  have hbl := BlkAt.lt h
  have B0 := hid (NumSt.begin h)
  have hqs : As.skip As.blank (sl s) p ≤ s.size := by have := skip_le (f := As.blank) (s := sl s) (k := p) (by rw [sl_length]; exact hp); rw [sl_length] at this; exact this
  have cB := hid (fun W hW => passBlanks_any s b tail p W hW hs hp)
  have RR := hid (show As.next (sl s) p = As.nextAt (sl s) (As.skip As.blank (sl s) p) from rfl)
  clear h
  generalize As.next (sl s) p = R at *
  generalize As.skip As.blank (sl s) p = q at *
  have cE := hid (fun W hW => ended_any s b tail q W hW hs hqs)
  have cN := hid (fun W hW => scanNum_any s b tail q W hW hs hqs)
  have cW := hid (fun W hW => passWord_any s b tail q W hW hs hqs)
  go_enter Tryz.func55, Tryz.ntmps55
  go_wp2_with fail
  refine Calls.at_world (NumSt s b tail w p) B0.out ?_
  clear B0
  intro V h0
  refine (cB.out V h0.sc).mono ?_
  rintro e V1 ⟨rfl, hsc, hg⟩
  have H1 := hid (h0.call hbl hsc hg)
  clear h0 hsc hg cB V
  have c1 := H1.out.sc.c1
  go_wp2_with fail
  refine (cE.out V1 H1.out.sc).mono ?_
  rintro e V2 ⟨rfl, nn, rfl⟩
  have H2 := hid (H1.out.drewN nn)
  clear H1 cE c1
  generalize V1.drewN nn = V2 at *
  by_cases hlt : q < s.size
  · have GQ := hid (show (sl s)[q]? = some (s[q]'hlt) from by rw [List.getElem?_eq_getElem (by rw [sl_length]; exact hlt)]; rfl)
    have RR2 := hid (show R = (if As.ends (s[q]'hlt) then (⟨4, q, [], 0⟩, (0, 0), q) else if As.isDig (s[q]'hlt) then As.scanNum (sl s) q else if As.inWord (s[q]'hlt) then (⟨1, q, ((sl s).drop q).takeWhile As.inWord, 0⟩, (0, 0), As.skip As.inWord (sl s) q) else if As.isSign (s[q]'hlt) then (⟨3, q, [s[q]'hlt], 0⟩, (0, 0), q + 1) else (As.Tok.nil, (2, q), q)) from by
      rw [RR.out]; unfold As.nextAt; rw [GQ.out])
    rw [show ((sl s)[q]?.map As.ends).getD true = As.ends (s[q]'hlt) from by rw [GQ.out]; rfl]
    clear RR GQ
    cases hE : As.ends (s[q]'hlt)
    · simp only [hE, Bool.false_eq_true, if_false] at RR2
      clear hE
      have c0 := H2.out.sc.c0
      have c1 := H2.out.sc.c1
      have f1 := H2.out.sc.f1
      have t0 := H2.out.t.cell 0
      have t1 := H2.out.t.cell 1
      have t2 := H2.out.t.cell 2
      have t3 := H2.out.t.cell 3
      have v0 := H2.out.t.free 0
      have v1 := H2.out.t.free 1
      have v2 := H2.out.t.free 2
      have v3 := H2.out.t.free 3
      have x0 := H2.out.f.cell 0
      have x1 := H2.out.f.cell 1
      have x2 := H2.out.f.cell 2
      have y0 := H2.out.f.free 0
      have y1 := H2.out.f.free 1
      have y2 := H2.out.f.free 2
      simp only [List.getElem?_toArray, List.getElem?_cons_succ, List.getElem?_cons_zero] at t0 t1 t2 t3 x0 x1 x2
      have g1 : (0 : Int) ≤ (q : Int) := by omega
      have g2 : (q : Int) < (s.size : Int) := by omega
      have cD := hid (fun W => digit_any (s[q]'hlt) W)
      have cI := hid (fun W => inWord_any (s[q]'hlt) W)
      have cS := hid (fun W => isSign_any (s[q]'hlt) W)
      go_wp2_with fail
      refine (cD.out _).mono ?_
      rintro e w1 ⟨rfl, rfl⟩
      clear cD
      cases hD : As.isDig (s[q]'hlt)
      · simp only [hD, Bool.false_eq_true, if_false] at RR2
        clear hD
        go_wp2_with fail
        refine (cI.out _).mono ?_
        rintro e w1 ⟨rfl, rfl⟩
        clear cI
        cases hI : As.inWord (s[q]'hlt)
        · simp only [hI, Bool.false_eq_true, if_false] at RR2
          clear hI
          go_wp2_with fail
          refine (cS.out _).mono ?_
          rintro e w1 ⟨rfl, rfl⟩
          clear cS
          cases hS : As.isSign (s[q]'hlt)
          · simp only [hS, Bool.false_eq_true, if_false] at RR2
            clear hS
            have RF := hid RR2.out
            go_wp2
            have F := H2.out.put hbl (.int .i64 0) (.int .i64 0) (.string ⟨#[]⟩) (.int .i64 0) (.int .i64 2) (.int .i64 q) (.string ⟨#[]⟩)
            have e0 := F.1.cell 0
            have e1 := F.1.cell 1
            have e2 := F.1.cell 2
            have e3 := F.1.cell 3
            have h0 := F.2.1.cell 0
            have h1 := F.2.1.cell 1
            have h2 := F.2.1.cell 2
            simp only [List.getElem?_toArray, List.getElem?_cons_succ, List.getElem?_cons_zero] at e0 e1 e2 e3 h0 h1 h2
            refine bodyPost_ret (v := scanRet R) ?_ rfl ⟨rfl, by rw [RF.out]; exact F.2.2.1, F.2.2.2⟩
            rw [RF.out]
            clear F t0 t1 t2 t3 v0 v1 v2 v3 x0 x1 x2 y0 y1 y2 H2
            simp only [sets, List.foldl_cons, List.foldl_nil] at e0 e1 e2 e3 h0 h1 h2
            generalize World.setCell _ _ _ = WF at *
            simp [results, Tryz.results55, go_sem, scanRet, tokA, fltA, As.Tok.nil, bs, e0, e1, e2, e3, h0, h1, h2]
          · simp only [hS, if_true] at RR2
            clear hS
            have RF := hid RR2.out
            have EX := hid (show s.extract q (q + 1) = bs [s[q]'hlt] from by rw [extract_bs, Nat.add_sub_cancel_left]; exact congrArg bs (by rw [List.drop_eq_getElem_cons (by rw [sl_length]; exact hlt)]; rfl))
            have g3 : (q : Int) + 1 ≤ (s.size : Int) := by omega
            have g4 : (q : Int) ≤ (q : Int) + 1 := by omega
            go_wp2
            go_region
            go_wp2
            rw [EX.out]
            have F := (show NumSt s b tail w (q + 1) (w1.setCell ⟨b, 1, none⟩ (.int .i64 ((q : Int) + 1))) from H2.out.step hbl (q + 1)).put hbl (.int .i64 3) (.int .i64 q) (.string (bs [s[q]'hlt])) (.int .i64 0) (.int .i64 0) (.int .i64 0) (.string ⟨#[]⟩)
            have e0 := F.1.drew.cell 0
            have e1 := F.1.drew.cell 1
            have e2 := F.1.drew.cell 2
            have e3 := F.1.drew.cell 3
            have h0 := F.2.1.drew.cell 0
            have h1 := F.2.1.drew.cell 1
            have h2 := F.2.1.drew.cell 2
            simp only [List.getElem?_toArray, List.getElem?_cons_succ, List.getElem?_cons_zero] at e0 e1 e2 e3 h0 h1 h2
            refine bodyPost_ret (v := scanRet R) ?_ rfl ⟨rfl, by rw [RF.out]; exact BlkAt.drew F.2.2.1, grown_drew F.2.2.2⟩
            rw [RF.out]
            clear F t0 t1 t2 t3 v0 v1 v2 v3 x0 x1 x2 y0 y1 y2 H2
            simp only [sets, List.foldl_cons, List.foldl_nil] at e0 e1 e2 e3 h0 h1 h2
            generalize World.drew _ = WF at *
            simp [results, Tryz.results55, go_sem, scanRet, tokA, fltA, e0, e1, e2, e3, h0, h1, h2]
        · simp only [hI, if_true] at RR2
          clear hI
          have RF := hid RR2.out
          have hr := skip_le (f := As.inWord) (s := sl s) (k := q) (by rw [sl_length]; omega)
          rw [sl_length] at hr
          have hr2 := skip_ge As.inWord (sl s) q
          have EX := hid (show s.extract q (As.skip As.inWord (sl s) q) = bs (((sl s).drop q).takeWhile As.inWord) from by
            rw [extract_bs]
            unfold As.skip
            rw [Nat.add_sub_cancel_left]
            exact congrArg bs (List.prefix_iff_eq_take.1 (List.takeWhile_prefix As.inWord)).symm)
          clear t0 t1 t2 t3 v0 v1 v2 v3 x0 x1 x2 y0 y1 y2 c0 c1 f1
          go_wp2_with fail
          refine (cW.out _ H2.out.sc).mono ?_
          rintro e V3 ⟨rfl, hsc, hg⟩
          have H3 := hid (H2.out.call hbl hsc hg)
          clear hsc hg cW H2
          generalize As.skip As.inWord (sl s) q = r at *
          generalize ((sl s).drop q).takeWhile As.inWord = tx at *
          have g3 : (q : Int) ≤ (r : Int) := by omega
          have g4 : (r : Int) ≤ (s.size : Int) := by omega
          have c0 := H3.out.sc.c0
          have c1 := H3.out.sc.c1
          have f1 := H3.out.sc.f1
          have t0 := H3.out.t.cell 0
          have t1 := H3.out.t.cell 1
          have t2 := H3.out.t.cell 2
          have t3 := H3.out.t.cell 3
          have v0 := H3.out.t.free 0
          have v1 := H3.out.t.free 1
          have v2 := H3.out.t.free 2
          have v3 := H3.out.t.free 3
          have x0 := H3.out.f.cell 0
          have x1 := H3.out.f.cell 1
          have x2 := H3.out.f.cell 2
          have y0 := H3.out.f.free 0
          have y1 := H3.out.f.free 1
          have y2 := H3.out.f.free 2
          simp only [List.getElem?_toArray, List.getElem?_cons_succ, List.getElem?_cons_zero] at t0 t1 t2 t3 x0 x1 x2
          go_wp2
          go_region
          go_wp2
          rw [EX.out]
          have F := H3.out.put hbl (.int .i64 1) (.int .i64 q) (.string (bs tx)) (.int .i64 0) (.int .i64 0) (.int .i64 0) (.string ⟨#[]⟩)
          have e0 := F.1.drew.cell 0
          have e1 := F.1.drew.cell 1
          have e2 := F.1.drew.cell 2
          have e3 := F.1.drew.cell 3
          have h0 := F.2.1.drew.cell 0
          have h1 := F.2.1.drew.cell 1
          have h2 := F.2.1.drew.cell 2
          simp only [List.getElem?_toArray, List.getElem?_cons_succ, List.getElem?_cons_zero] at e0 e1 e2 e3 h0 h1 h2
          refine bodyPost_ret (v := scanRet R) ?_ rfl ⟨rfl, by rw [RF.out]; exact BlkAt.drew F.2.2.1, grown_drew F.2.2.2⟩
          rw [RF.out]
          clear F t0 t1 t2 t3 v0 v1 v2 v3 x0 x1 x2 y0 y1 y2 H3
          simp only [sets, List.foldl_cons, List.foldl_nil] at e0 e1 e2 e3 h0 h1 h2
          generalize World.drew _ = WF at *
          simp [results, Tryz.results55, go_sem, scanRet, tokA, fltA, e0, e1, e2, e3, h0, h1, h2]
      · simp only [hD, if_true] at RR2
        clear hD
        have RF := hid RR2.out
        clear t0 t1 t2 t3 v0 v1 v2 v3 x0 x1 x2 y0 y1 y2 c0 c1 f1
        go_wp2_with fail
        refine (cN.out _ H2.out.sc).mono ?_
        rintro e V3 ⟨rfl, hsc, hg⟩
        have H3 := hid (H2.out.call hbl hsc hg)
        clear hsc hg cN H2
        generalize As.scanNum (sl s) q = R3 at *
        obtain ⟨⟨kk, pp, tt, nn⟩, ⟨fe, fa⟩, rr⟩ := R3
        simp only [scanRet, tokA, fltA]
        have c0 := H3.out.sc.c0
        have c1 := H3.out.sc.c1
        have f1 := H3.out.sc.f1
        have t0 := H3.out.t.cell 0
        have t1 := H3.out.t.cell 1
        have t2 := H3.out.t.cell 2
        have t3 := H3.out.t.cell 3
        have v0 := H3.out.t.free 0
        have v1 := H3.out.t.free 1
        have v2 := H3.out.t.free 2
        have v3 := H3.out.t.free 3
        have x0 := H3.out.f.cell 0
        have x1 := H3.out.f.cell 1
        have x2 := H3.out.f.cell 2
        have y0 := H3.out.f.free 0
        have y1 := H3.out.f.free 1
        have y2 := H3.out.f.free 2
        simp only [List.getElem?_toArray, List.getElem?_cons_succ, List.getElem?_cons_zero] at t0 t1 t2 t3 x0 x1 x2
        go_wp2
        have F := H3.out.put hbl (.int .i64 kk) (.int .i64 pp) (.string (bs tt)) (.int .i64 nn) (.int .i64 fe) (.int .i64 fa) (.string ⟨#[]⟩)
        have e0 := F.1.cell 0
        have e1 := F.1.cell 1
        have e2 := F.1.cell 2
        have e3 := F.1.cell 3
        have h0 := F.2.1.cell 0
        have h1 := F.2.1.cell 1
        have h2 := F.2.1.cell 2
        simp only [List.getElem?_toArray, List.getElem?_cons_succ, List.getElem?_cons_zero] at e0 e1 e2 e3 h0 h1 h2
        refine bodyPost_ret (v := scanRet R) ?_ rfl ⟨rfl, by rw [RF.out]; exact F.2.2.1, F.2.2.2⟩
        rw [RF.out]
        clear F t0 t1 t2 t3 v0 v1 v2 v3 x0 x1 x2 y0 y1 y2 H3
        simp only [sets, List.foldl_cons, List.foldl_nil] at e0 e1 e2 e3 h0 h1 h2
        generalize World.setCell _ _ _ = WF at *
        simp [results, Tryz.results55, go_sem, scanRet, tokA, fltA, e0, e1, e2, e3, h0, h1, h2]
    · simp only [hE, if_true] at RR2
      clear hE
      have RF := hid RR2.out
      have c0 := H2.out.sc.c0
      have c1 := H2.out.sc.c1
      have f1 := H2.out.sc.f1
      have t0 := H2.out.t.cell 0
      have t1 := H2.out.t.cell 1
      have t2 := H2.out.t.cell 2
      have t3 := H2.out.t.cell 3
      have v0 := H2.out.t.free 0
      have v1 := H2.out.t.free 1
      have v2 := H2.out.t.free 2
      have v3 := H2.out.t.free 3
      have x0 := H2.out.f.cell 0
      have x1 := H2.out.f.cell 1
      have x2 := H2.out.f.cell 2
      have y0 := H2.out.f.free 0
      have y1 := H2.out.f.free 1
      have y2 := H2.out.f.free 2
      simp only [List.getElem?_toArray, List.getElem?_cons_succ, List.getElem?_cons_zero] at t0 t1 t2 t3 x0 x1 x2
      go_wp2
      have F := H2.out.put hbl (.int .i64 4) (.int .i64 q) (.string ⟨#[]⟩) (.int .i64 0) (.int .i64 0) (.int .i64 0) (.string ⟨#[]⟩)
      have e0 := F.1.cell 0
      have e1 := F.1.cell 1
      have e2 := F.1.cell 2
      have e3 := F.1.cell 3
      have h0 := F.2.1.cell 0
      have h1 := F.2.1.cell 1
      have h2 := F.2.1.cell 2
      simp only [List.getElem?_toArray, List.getElem?_cons_succ, List.getElem?_cons_zero] at e0 e1 e2 e3 h0 h1 h2
      refine bodyPost_ret (v := scanRet R) ?_ rfl ⟨rfl, by rw [RF.out]; exact F.2.2.1, F.2.2.2⟩
      rw [RF.out]
      clear F t0 t1 t2 t3 v0 v1 v2 v3 x0 x1 x2 y0 y1 y2 H2
      simp only [sets, List.foldl_cons, List.foldl_nil] at e0 e1 e2 e3 h0 h1 h2
      generalize World.setCell _ _ _ = WF at *
      simp [results, Tryz.results55, go_sem, scanRet, tokA, fltA, bs, e0, e1, e2, e3, h0, h1, h2]
  · have RF := hid (show R = (⟨4, q, [], 0⟩, (0, 0), q) from by rw [RR.out]; unfold As.nextAt; rw [List.getElem?_eq_none (by rw [sl_length]; omega)])
    rw [show ((sl s)[q]?.map As.ends).getD true = true from by rw [List.getElem?_eq_none (by rw [sl_length]; omega)]; rfl]
    have c0 := H2.out.sc.c0
    have c1 := H2.out.sc.c1
    have f1 := H2.out.sc.f1
    have t0 := H2.out.t.cell 0
    have t1 := H2.out.t.cell 1
    have t2 := H2.out.t.cell 2
    have t3 := H2.out.t.cell 3
    have v0 := H2.out.t.free 0
    have v1 := H2.out.t.free 1
    have v2 := H2.out.t.free 2
    have v3 := H2.out.t.free 3
    have x0 := H2.out.f.cell 0
    have x1 := H2.out.f.cell 1
    have x2 := H2.out.f.cell 2
    have y0 := H2.out.f.free 0
    have y1 := H2.out.f.free 1
    have y2 := H2.out.f.free 2
    simp only [List.getElem?_toArray, List.getElem?_cons_succ, List.getElem?_cons_zero] at t0 t1 t2 t3 x0 x1 x2
    go_wp2
    have F := H2.out.put hbl (.int .i64 4) (.int .i64 q) (.string ⟨#[]⟩) (.int .i64 0) (.int .i64 0) (.int .i64 0) (.string ⟨#[]⟩)
    have e0 := F.1.cell 0
    have e1 := F.1.cell 1
    have e2 := F.1.cell 2
    have e3 := F.1.cell 3
    have h0 := F.2.1.cell 0
    have h1 := F.2.1.cell 1
    have h2 := F.2.1.cell 2
    simp only [List.getElem?_toArray, List.getElem?_cons_succ, List.getElem?_cons_zero] at e0 e1 e2 e3 h0 h1 h2
    refine bodyPost_ret (v := scanRet R) ?_ rfl ⟨rfl, by rw [RF.out]; exact F.2.2.1, F.2.2.2⟩
    rw [RF.out]
    clear F t0 t1 t2 t3 v0 v1 v2 v3 x0 x1 x2 y0 y1 y2 H2
    simp only [sets, List.foldl_cons, List.foldl_nil] at e0 e1 e2 e3 h0 h1 h2
    generalize World.setCell _ _ _ = WF at *
    simp [results, Tryz.results55, go_sem, scanRet, tokA, fltA, bs, e0, e1, e2, e3, h0, h1, h2]

end Go.Proofs.YtmhbgnlfdiahpaaGreatDoor

namespace Go.Proofs.YtmhbgnlfdiahpaaGreatDoor
open Go.RowKit

set_option maxHeartbeats 2000000 in
theorem lineEnd_any (s : ByteArray) (b : Nat) (tail : List Value) (p : Nat) (w : World) (h : ScAt s b tail p w) (hs : s.size ≤ 1000) (hp : p ≤ s.size) :
    Calls Tryz.prog 43 #[.pointer (some ⟨b, 0, none⟩)] w fun e w' => e = .returned (.bool (As.lineEnd (sl s) p).1) ∧ ScAt s b tail (As.lineEnd (sl s) p).2 w' ∧ w.grownBy w' (some b) := by
  have H := hid h
  clear h
  have SL := hid (sl_length s)
  go_enter Tryz.func43, Tryz.ntmps43
  go_wp2
  go_loopw [] (fun wr => ∃ k : Nat, k ≤ s.size ∧ ScAt s b tail k wr ∧ As.skip As.notEnd (sl s) k = As.skip As.notEnd (sl s) p ∧ w.grownBy wr (some b)) (fun wr => s.size - posOf b wr)
  case atStart => exact ⟨p, hp, H.out, rfl, World.grownBy.refl _ _⟩
  case round =>
    obtain ⟨k, hk, hsc, hsk, hgr⟩ := hrel
    have c0 := hsc.c0
    have c1 := hsc.c1
    have f1 := hsc.f1
    have HS := hid hsc
    have HK := hid hsk
    have HG := hid hgr
    clear hsc hsk hgr
    by_cases hlt : k < s.size
    · have d : decide ((k : Int) < (s.size : Int)) = true := by simp; omega
      have g1 : (0 : Int) ≤ (k : Int) := by omega
      have g2 : (k : Int) < (s.size : Int) := by omega
      have HL := hid (show k < (sl s).length by rw [SL.out]; exact hlt)
      have GET := hid (sl_get s k hlt)
      by_cases e1 : (s[k]'hlt).toNat = 10
      · have d1 : (((s[k]'hlt).toNat : Int) == 10) = true := by simp; omega
        have d2 : (((s[k]'hlt).toNat : Int) != 10) = false := by simp; omega
        have d3 : decide ((s.size : Int) ≤ (k : Int)) = false := by simp; omega
        have E := hid (skip_stop (f := As.notEnd) HL.out (by rw [GET.out]; unfold As.notEnd; rw [e1]; rfl))
        clear e1
        go_wp2
        go_quiet (fail)
        go_wp2
        go_quiet (fail)
        go_wp2
        go_ret
        have F : As.lineEnd (sl s) p = (true, k + 1) := by unfold As.lineEnd; rw [← HK.out, E.out, if_pos HL.out]
        rw [F]
        exact ⟨rfl, HS.out.step _ (k + 1), grown_step HG.out _ _⟩
      · have d1 : (((s[k]'hlt).toNat : Int) == 10) = false := by simp; omega
        have d2 : (((s[k]'hlt).toNat : Int) != 10) = true := by simp; omega
        have E := hid (skip_go (f := As.notEnd) HL.out (by rw [GET.out]; unfold As.notEnd; rw [beq_eq_false_iff_ne.2 e1]; rfl))
        clear e1
        go_wp2
        go_quiet (fail)
        go_wp2
        go_roundw
        case rel => exact ⟨k + 1, by omega, HS.out.step _ (k + 1), by rw [← E.out, HK.out], grown_step HG.out _ _⟩
        case measure => exact meas_step HS.out _ hlt
    · have d : decide ((k : Int) < (s.size : Int)) = false := by simp; omega
      have d3 : decide ((s.size : Int) ≤ (k : Int)) = true := by simp; omega
      have E := hid (skip_end (f := As.notEnd) (s := sl s) (k := k) (by rw [SL.out]; omega))
      go_wp2
      go_quiet (fail)
      go_wp2
      go_quiet (fail)
      go_wp2
      go_ret
      have F : As.lineEnd (sl s) p = (false, k) := by unfold As.lineEnd; rw [← HK.out, E.out, if_neg (by rw [SL.out]; exact hlt)]
      rw [F]
      exact ⟨rfl, (HS.out.drewN _).drewN _, grown_drewN (grown_drewN HG.out _) _⟩

end Go.Proofs.YtmhbgnlfdiahpaaGreatDoor

namespace Go.Proofs.YtmhbgnlfdiahpaaGreatDoor
open Go.RowKit

theorem nextAt_ok (s : ByteArray) (q : Nat) (hs : s.size ≤ 1000) (hq : q ≤ s.size) : TokOk (As.nextAt (sl s) q).1 ∧ (As.nextAt (sl s) q).2.1.1 ≤ 99 ∧ (As.nextAt (sl s) q).2.1.2 ≤ 1000 ∧ (As.nextAt (sl s) q).2.2 ≤ s.size ∧ q ≤ (As.nextAt (sl s) q).2.2 := by
  have tok0 := tokNil_ok
  by_cases hlt : q < s.size
  · have e : (sl s)[q]? = some (s[q]'hlt) := by rw [List.getElem?_eq_getElem (by rw [sl_length]; exact hlt)]; rfl
    have hlen : ∀ f : UInt8 → Bool, (((sl s).drop q).takeWhile f).length ≤ 1000 := fun f => by
      have h1 := (List.takeWhile_prefix f (l := (sl s).drop q)).length_le
      rw [List.length_drop, sl_length] at h1
      omega
    have hsk : ∀ f : UInt8 → Bool, As.skip f (sl s) q ≤ s.size := fun f => by
      have := skip_le (f := f) (s := sl s) (k := q) (by rw [sl_length]; omega)
      rw [sl_length] at this
      exact this
    unfold As.nextAt
    rw [e]
    simp only
    split
    · exact ⟨⟨by simp, by simp; omega, by simp, by simp⟩, by simp, by simp, hq, Nat.le_refl _⟩
    split
    · obtain ⟨w1, w2, w3, w4⟩ := while_facts As.isDig s q hq _ rfl
      unfold As.scanNum
      split
      · exact ⟨tok0, by simp, by simp; omega, by simp; omega, by simp⟩
      split
      · exact ⟨tok0, by simp, by have := hsk As.isDig; simp; omega, hsk _, skip_ge _ _ _⟩
      · refine ⟨⟨by simp, by simp; omega, hlen _, ?_⟩, by simp, by simp, hsk _, skip_ge _ _ _⟩
        have := dec_le _ w1 10 (by omega)
        rw [List.take_of_length_le (by omega)] at this
        exact this
    split
    · exact ⟨⟨by simp, by simp; omega, hlen _, by simp⟩, by simp, by simp, hsk _, skip_ge _ _ _⟩
    split
    · exact ⟨⟨by simp, by simp; omega, by simp, by simp⟩, by simp, by simp, by simp; omega, by simp⟩
    · exact ⟨tok0, by simp, by simp; omega, hq, Nat.le_refl _⟩
  · have e : (sl s)[q]? = none := List.getElem?_eq_none (by rw [sl_length]; omega)
    unfold As.nextAt
    rw [e]
    exact ⟨⟨by simp, by simp; omega, by simp, by simp⟩, by simp, by simp, hq, Nat.le_refl _⟩

theorem next_ok (s : ByteArray) (p : Nat) (hs : s.size ≤ 1000) (hp : p ≤ s.size) : TokOk (As.next (sl s) p).1 ∧ (As.next (sl s) p).2.1.1 ≤ 99 ∧ (As.next (sl s) p).2.1.2 ≤ 1000 ∧ (As.next (sl s) p).2.2 ≤ s.size ∧ p ≤ (As.next (sl s) p).2.2 := by
  have hq := skip_le (f := As.blank) (s := sl s) (k := p) (by rw [sl_length]; exact hp)
  rw [sl_length] at hq
  obtain ⟨a, b, c, d, e⟩ := nextAt_ok s (As.skip As.blank (sl s) p) hs hq
  have h2 := skip_ge As.blank (sl s) p
  exact ⟨a, b, c, d, Nat.le_trans h2 e⟩

set_option maxHeartbeats 1000000 in
theorem tokIs_any (t : As.Tok) (c : List UInt8) (w : World) :
    Calls Tryz.prog 39 #[tokA t, .string (bs c)] w fun e w' => e = .returned (.bool (t.is c)) ∧ w.grownBy w' none := by
  obtain ⟨kind, pos, text, n⟩ := t
  have E := hid (show As.Tok.is ⟨kind, pos, text, n⟩ c = (kind == 3 && text == c) from rfl)
  generalize As.Tok.is ⟨kind, pos, text, n⟩ c = x at *
  unfold tokA
  simp only
  have G := hid (fun o : Obj => World.grownBy_alloc w o none)
  cases hk : (kind == 3)
  · have d : ((kind : Int) == 3) = false := by simp at hk ⊢; omega
    rw [hk] at E
    clear hk
    go_enter Tryz.func39, Tryz.ntmps39
    go_wp2
    go_ret
    exact ⟨by rw [E.out]; rfl, G.out _⟩
  · have d : ((kind : Int) == 3) = true := by simp at hk ⊢; omega
    rw [hk] at E
    clear hk
    cases ht : (text == c)
    · have b1 : ((bs text).toList == (bs c).toList) = false := by rw [toList_bs, toList_bs]; exact ht
      rw [ht] at E
      clear ht
      go_enter Tryz.func39, Tryz.ntmps39
      go_wp2
      go_ret
      exact ⟨by rw [E.out]; rfl, G.out _⟩
    · have b1 : ((bs text).toList == (bs c).toList) = true := by rw [toList_bs, toList_bs]; exact ht
      rw [ht] at E
      clear ht
      go_enter Tryz.func39, Tryz.ntmps39
      go_wp2
      go_ret
      exact ⟨by rw [E.out]; rfl, G.out _⟩

def asmTail (g : Nat) (st : As.St) : List Value :=
  [.int .i64 st.tok.kind, .int .i64 st.tok.pos, .string (bs st.tok.text), .int .i64 st.tok.n, .int .i64 st.fe, .int .i64 st.fa, .string ⟨#[]⟩,
    .int .i64 st.op.kind, .int .i64 st.op.pos, .string (bs st.op.text), .int .i64 st.op.n, .int .i64 st.sect, .pointer (some ⟨g, 0, none⟩)]

theorem BlkAt.new1 (W : World) (o : Obj) (cs : Array Value) (t : TypeId) : BlkAt ((W.alloc o).alloc (.cells cs t)) (W.heap.size + 1) cs t := by
  have := BlkAt.new (W.alloc o) cs t
  rw [show (W.alloc o).heap.size = W.heap.size + 1 by simp] at this
  exact this

section
variable {B : Nat} {s : ByteArray} {b g : Nat} {st : As.St} {W W' : World}
theorem AsmAt.sc (h : AsmAt B s b g st W) : ScAt s b (asmTail g st) st.p W := h.blk
theorem StOk.p' (h : StOk s st) (q : Nat) (hq : q ≤ s.size) : StOk s { st with p := q } :=
  ⟨h.size, hq, h.tok, h.fe, h.fa, h.op, h.sect, h.text, h.far, h.data, h.bss, h.align, h.syms, h.rels⟩
theorem AsmAt.scanned (h : AsmAt B s b g st W) {q : Nat} (hsc : ScAt s b (asmTail g st) q W') (hg : W.grownBy W' (some b)) (hq : q ≤ s.size) : DoesB B s b g W { st with p := q } W' :=
  ⟨h.put _ hsc hg rfl (h.ok.p' q hq), hg⟩
end

set_option maxRecDepth 100000 in
set_option maxHeartbeats 2000000 in
theorem advance_any (B : Nat) (s : ByteArray) (b g : Nat) (st : As.St) (W : World) (h : AsmAt B s b g st W) :
    Calls Tryz.prog 37 #[.pointer (some ⟨b, 0, none⟩)] W fun en W' => en = .returned (.tuple #[]) ∧ DoesB B s b g W (As.advance (sl s) st) W' := by
  have cF := hid (failed_any B s b g st W h)
  have H := hid h
  clear h
  cases hf : As.failed st
  · have cN := hid (next_any s b (asmTail g st) st.p W H.out.sc H.out.ok.size H.out.ok.p)
    obtain ⟨o1, o2, o3, o4, -⟩ := next_ok s st.p H.out.ok.size H.out.ok.p
    have RA := hid (show As.advance (sl s) st = if (As.next (sl s) st.p).2.1.1 == 0 then { st with p := (As.next (sl s) st.p).2.2, tok := (As.next (sl s) st.p).1 } else As.refuse (As.next (sl s) st.p).2.1.1 (As.next (sl s) st.p).2.1.2 { st with p := (As.next (sl s) st.p).2.2 } from by unfold As.advance; rw [hf]; rfl)
    generalize As.next (sl s) st.p = R at *
    obtain ⟨⟨kk, pp, tt, nn⟩, ⟨fe, fa⟩, rr⟩ := R
    simp only at o1 o2 o3 o4 RA
    rw [hf] at cF
    clear hf
    go_enter Tryz.func37, Tryz.ntmps37
    go_wp2_with fail
    refine cF.out.mono ?_
    rintro e w1 ⟨rfl, rfl⟩
    clear cF
    go_wp2_with fail
    refine cN.out.mono ?_
    rintro e V ⟨rfl, hsc, hg⟩
    simp only [scanRet, tokA, fltA] at hsc ⊢
    have hd : DoesB B s b g w1 { st with p := rr } V := H.out.scanned hsc hg o4
    clear hsc hg cN H
    have HD := hid hd
    have H1 := hid hd.1
    clear hd
    cases hz : (fe == 0)
    · have d : ((fe : Int) == 0) = false := by simp at hz ⊢; omega
      have d' : ((fe : Int) != 0) = true := by simp at hz ⊢; omega
      rw [hz] at RA
      clear hz
      go_wp2_with fail
      refine (refuse_any B s b g _ fe fa _ ((HD.out.alloc _).alloc _).1 o2 o3).mono ?_
      rintro e V2 ⟨rfl, h2⟩
      have HF := hid (((HD.out.alloc _).alloc _).after h2)
      clear h2
      go_wp2
      (try simp only [Exit.inBlock, Exit.then]); refine bodyPost_ret (results_none rfl _ _ _) rfl ?_
      rw [RA.out]
      exact ⟨rfl, HF.out⟩
    · have d : ((fe : Int) == 0) = true := by simp at hz ⊢; omega
      have d' : ((fe : Int) != 0) = false := by simp at hz ⊢; omega
      rw [hz] at RA
      clear hz
      have k2 := H1.out.blk.free 2
      have k3 := H1.out.blk.free 3
      have k4 := H1.out.blk.free 4
      have k5 := H1.out.blk.free 5
      have c2 := asm_cell H1.out 2
      have c3 := asm_cell H1.out 3
      have c4 := asm_cell H1.out 4
      have c5 := asm_cell H1.out 5
      simp only [asmCells, List.getElem?_toArray, List.getElem?_cons_succ, List.getElem?_cons_zero] at c2 c3 c4 c5
      have hbl := H1.out.blk.lt
      have hn1 : b ≠ V.heap.size := by omega
      have hn2 : b ≠ V.heap.size + 1 := by omega
      go_wp2
      go_end0
      rw [RA.out]
      have F := HD.out.sets [(2, .int .i64 kk), (3, .int .i64 pp), (4, .string (bs tt)), (5, .int .i64 nn)] { st with p := rr, tok := ⟨kk, pp, tt, nn⟩ }
        (by simp only [setsA, asmCells, List.foldl_cons, List.foldl_nil, List.setIfInBounds_toArray, List.set_cons_succ, List.set_cons_zero]) rfl (H1.out.ok.tok' _ o1 _ _ H1.out.ok.fe H1.out.ok.fa)
      exact ⟨rfl, (F.alloc _).alloc _⟩
  · have R := hid (show As.advance (sl s) st = st by unfold As.advance; rw [hf]; rfl)
    rw [hf] at cF
    clear hf
    go_enter Tryz.func37, Tryz.ntmps37
    go_wp2_with fail
    refine cF.out.mono ?_
    rintro e w1 ⟨rfl, rfl⟩
    go_wp2
    (try simp only [Exit.inBlock, Exit.then]); refine bodyPost_ret (results_none rfl _ _ _) rfl ?_
    rw [R.out]
    exact ⟨rfl, H.out.doesB⟩

set_option maxRecDepth 100000 in
set_option maxHeartbeats 2000000 in
theorem takeWord_any (B : Nat) (s : ByteArray) (b g : Nat) (st : As.St) (W : World) (h : AsmAt B s b g st W) :
    Calls Tryz.prog 38 #[.pointer (some ⟨b, 0, none⟩)] W fun en W' => en = .returned (tokA (As.takeWord (sl s) st).1) ∧ DoesB B s b g W (As.takeWord (sl s) st).2 W' := by
  have H := hid h
  have hbl := h.blk.lt
  have c2 := asm_cell h 2
  have c3 := asm_cell h 3
  have c4 := asm_cell h 4
  have c5 := asm_cell h 5
  simp only [asmCells, List.getElem?_toArray, List.getElem?_cons_succ, List.getElem?_cons_zero] at c2 c3 c4 c5
  clear h
  have hn1 : b ≠ W.heap.size := by omega
  have hn2 : b ≠ W.heap.size + 1 := by omega
  cases hk : (st.tok.kind == 1)
  · have d : ((st.tok.kind : Int) == 1) = false := by simp at hk ⊢; omega
    have d' : ((st.tok.kind : Int) != 1) = true := by simp at hk ⊢; omega
    have R := hid (show As.takeWord (sl s) st = (As.Tok.nil, st) by unfold As.takeWord; rw [hk]; rfl)
    clear hk
    go_enter Tryz.func38, Tryz.ntmps38
    go_wp2
    have F := BlkAt.new W #[.int .i64 0, .int .i64 0, .string ⟨#[]⟩, .int .i64 0] 49
    have e0 := F.cell 0
    have e1 := F.cell 1
    have e2 := F.cell 2
    have e3 := F.cell 3
    simp only [List.getElem?_toArray, List.getElem?_cons_succ, List.getElem?_cons_zero] at e0 e1 e2 e3
    rw [R.out]
    refine bodyPost_ret (v := tokA As.Tok.nil) ?_ rfl ⟨rfl, H.out.doesB.alloc _⟩
    clear F
    generalize World.alloc _ _ = WF at *
    simp [results, Tryz.results38, go_sem, tokA, As.Tok.nil, bs, e0, e1, e2, e3]
  · have d : ((st.tok.kind : Int) == 1) = true := by simp at hk ⊢; omega
    have d' : ((st.tok.kind : Int) != 1) = false := by simp at hk ⊢; omega
    have R := hid (show As.takeWord (sl s) st = (st.tok, As.advance (sl s) st) by unfold As.takeWord; rw [hk]; rfl)
    clear hk
    go_enter Tryz.func38, Tryz.ntmps38
    go_wp2_with fail
    refine (advance_any B s b g st _ ((H.out.doesB.alloc _).alloc _).1).mono ?_
    rintro e V ⟨rfl, hd⟩
    have L1 := hid ((((BlkAt.new W #[.int .i64 0, .int .i64 0, .string ⟨#[]⟩, .int .i64 0] 49).grown (World.grownBy_alloc _ (.cells #[.int .i64 st.tok.kind, .int .i64 st.tok.pos, .string (bs st.tok.text), .int .i64 st.tok.n] 49) none) (by simp)).grown hd.2 (by simp; omega)))
    have L2 := hid ((BlkAt.new1 W (.cells #[.int .i64 0, .int .i64 0, .string ⟨#[]⟩, .int .i64 0] 49) #[.int .i64 st.tok.kind, .int .i64 st.tok.pos, .string (bs st.tok.text), .int .i64 st.tok.n] 49).grown hd.2 (by simp; omega))
    have HD := hid (((H.out.doesB.alloc _).alloc _).after hd)
    clear hd c2 c3 c4 c5
    have m0 := L2.out.cell 0
    have m1 := L2.out.cell 1
    have m2 := L2.out.cell 2
    have m3 := L2.out.cell 3
    have t0 := L1.out.cell 0
    have t1 := L1.out.cell 1
    have t2 := L1.out.cell 2
    have t3 := L1.out.cell 3
    have v0 := L1.out.free 0
    have v1 := L1.out.free 1
    have v2 := L1.out.free 2
    have v3 := L1.out.free 3
    simp only [List.getElem?_toArray, List.getElem?_cons_succ, List.getElem?_cons_zero] at m0 m1 m2 m3 t0 t1 t2 t3
    go_wp2
    rw [R.out]
    have D := HD.out.local L1.out (by unfold LocT; decide) H.out.size (Nat.le_refl _) [(0, .int .i64 st.tok.kind), (1, .int .i64 st.tok.pos), (2, .string (bs st.tok.text)), (3, .int .i64 st.tok.n)]
    have F := sets_blk [(0, .int .i64 st.tok.kind), (1, .int .i64 st.tok.pos), (2, .string (bs st.tok.text)), (3, .int .i64 st.tok.n)] L1.out
    have e0 := F.cell 0
    have e1 := F.cell 1
    have e2 := F.cell 2
    have e3 := F.cell 3
    simp only [setsA, List.foldl_cons, List.foldl_nil, List.setIfInBounds_toArray, List.set_cons_succ, List.set_cons_zero, List.getElem?_toArray, List.getElem?_cons_succ, List.getElem?_cons_zero] at e0 e1 e2 e3
    refine bodyPost_ret (v := tokA st.tok) ?_ rfl ⟨rfl, D⟩
    clear D F t0 t1 t2 t3 v0 v1 v2 v3 m0 m1 m2 m3
    simp only [sets, List.foldl_cons, List.foldl_nil] at e0 e1 e2 e3
    generalize World.setCell _ _ _ = WF at *
    simp [results, Tryz.results38, go_sem, tokA, e0, e1, e2, e3]

end Go.Proofs.YtmhbgnlfdiahpaaGreatDoor

namespace Go.Proofs.YtmhbgnlfdiahpaaGreatDoor
open Go.RowKit

set_option maxHeartbeats 1000000 in
theorem hasPoint_any (s : ByteArray) (w : World) (hs : s.size ≤ 1000) :
    Calls Tryz.prog 82 #[.string s] w fun e w' => e = .returned (.bool (As.hasPoint (sl s))) ∧ w' = w := by
  have HP := hid (show As.hasPoint (sl s) = (sl s).any (fun c => c.toNat == 46) from rfl)
  generalize As.hasPoint (sl s) = x at *
  go_enter Tryz.func82, Tryz.ntmps82
  go_wp2
  go_loop [3] (fun i => ∃ k : Nat, k ≤ s.size ∧ i = .int .i64 k ∧ ∀ j (hj : j < s.size), j < k → (s[j]'hj).toNat ≠ 46) (fun i => s.size - (intOf i).toNat)
  case atStart => exact ⟨0, Nat.zero_le _, rfl, fun j _ hj => absurd hj (Nat.not_lt_zero j)⟩
  case round =>
    obtain ⟨k, hk, rfl, hall⟩ := hrel
    have HA := hid hall
    clear hall
    by_cases hlt : k < s.size
    · by_cases e1 : (s[k]'hlt).toNat = 46
      · have d1 : (((s[k]'hlt).toNat : Int) == 46) = true := by simp; omega
        have E := hid (show x = true by rw [HP.out, List.any_eq_true]; exact ⟨s[k]'hlt, by rw [← sl_get s k hlt]; exact List.getElem_mem _, by rw [e1]; rfl⟩)
        clear e1
        go_wp2
        go_ret
        exact ⟨by rw [E.out]; rfl, rfl⟩
      · have d1 : (((s[k]'hlt).toNat : Int) == 46) = false := by simp; omega
        have E := hid e1
        clear e1
        go_wp2
        go_round
        case rel => exact ⟨k + 1, by omega, by go_num, fun j hj hjk => (Nat.lt_succ_iff_lt_or_eq.1 hjk).elim (fun h => HA.out j hj h) (fun h => by subst h; exact E.out)⟩
        case measure => simp [intOf]; omega
    · have E := hid (show x = false from by
        rw [HP.out, List.any_eq_false]
        intro c hc
        obtain ⟨j, hj, rfl⟩ := List.getElem_of_mem hc
        have hj' : j < s.size := by rw [sl_length] at hj; exact hj
        have := HA.out j hj' (by omega)
        simp only [beq_iff_eq]
        exact this)
      go_wp2
      go_ret
      exact ⟨by rw [E.out]; rfl, rfl⟩

theorem regOf_spec (l : List UInt8) : As.regOf l = if 2 ≤ l.length ∧ l.length ≤ 3 ∧ (l[0]?.map (·.toNat)) = some 120 ∧ ¬ ((l[1]?.map (·.toNat)) = some 48 ∧ 2 < l.length) ∧ (∀ c ∈ l.drop 1, As.isDig c = true) ∧ As.dec (l.drop 1) ≤ 31 then some (As.dec (l.drop 1)) else none := by
  match l with
  | [] => simp [As.regOf]
  | [a] => simp [As.regOf]
  | [x, a] =>
    simp only [As.regOf, List.length_cons, List.length_nil, List.getElem?_cons_zero, Option.map_some, Option.some.injEq, List.drop_succ_cons, List.drop_zero, List.mem_singleton, forall_eq, As.dec, List.foldl_cons, List.foldl_nil]
    by_cases h : x.toNat = 120 ∧ As.isDig a = true
    · have h2 := h.2
      unfold As.isDig at h2
      simp at h2
      rw [if_pos h, if_pos ⟨by omega, by omega, h.1, by simp, h.2, by omega⟩]
      simp
    · rw [if_neg h, if_neg (fun k => h ⟨k.2.2.1, k.2.2.2.2.1⟩)]
  | [x, a, b] =>
    simp only [As.regOf, List.length_cons, List.length_nil, List.getElem?_cons_zero, List.getElem?_cons_succ, Option.map_some, Option.some.injEq, List.drop_succ_cons, List.drop_zero, List.mem_cons, List.mem_nil_iff, or_false, forall_eq_or_imp, forall_eq, As.dec, List.foldl_cons, List.foldl_nil]
    by_cases h : x.toNat = 120 ∧ As.isDig a = true ∧ a.toNat ≠ 48 ∧ As.isDig b = true ∧ 10 * (a.toNat - 48) + (b.toNat - 48) ≤ 31
    · rw [if_pos h, if_pos ⟨by omega, by omega, h.1, fun k => h.2.2.1 k.1, ⟨h.2.1, h.2.2.2.1⟩, by omega⟩]
      simp
    · rw [if_neg h, if_neg (fun k => h ⟨k.2.2.1, k.2.2.2.2.1.1, fun e => k.2.2.2.1 ⟨e, by omega⟩, k.2.2.2.2.1.2, by have := k.2.2.2.2.2; omega⟩)]
  | a :: b :: c :: d :: l =>
    rw [if_neg (fun k => by have := k.2.1; simp at this)]
    rfl

def regRet (r : Option Nat) : Value := .tuple #[.int .i64 (r.getD 0), .bool r.isSome]

set_option maxRecDepth 100000 in
set_option maxHeartbeats 2000000 in
theorem registerNamed_any (s : ByteArray) (w : World) (hs : s.size ≤ 1000) :
    Calls Tryz.prog 83 #[.string s] w fun e w' => e = .returned (regRet (As.regOf (sl s))) ∧ w' = w := by
  have SP := hid (regOf_spec (sl s))
  generalize As.regOf (sl s) = R at *
  have SL := hid (sl_length s)
  have no : Hid (R = none → regRet R = .tuple #[.int .i64 0, .bool false]) := fun h => by rw [h]; rfl
  by_cases c1 : s.size < 2
  · have D : decide ((s.size : Int) < 2) = true := by simp; omega
    have RN := hid (show R = none by rw [SP.out, if_neg (fun k => by have := k.1; rw [SL.out] at this; omega)])
    clear c1
    go_enter Tryz.func83, Tryz.ntmps83
    go_wp2
    go_ret2
    exact ⟨by rw [no.out RN.out]; rfl, rfl⟩
  by_cases c2 : 3 < s.size
  · have D1 : decide ((s.size : Int) < 2) = false := by simp; omega
    have D : decide ((3 : Int) < (s.size : Int)) = true := by simp; omega
    have RN := hid (show R = none by rw [SP.out, if_neg (fun k => by have := k.2.1; rw [SL.out] at this; omega)])
    clear c1 c2
    go_enter Tryz.func83, Tryz.ntmps83
    go_wp2
    go_ret2
    exact ⟨by rw [no.out RN.out]; rfl, rfl⟩
  have D1 : decide ((s.size : Int) < 2) = false := by simp; omega
  have D2 : decide ((3 : Int) < (s.size : Int)) = false := by simp; omega
  have h0 : 0 < s.size := by omega
  have h1 : 1 < s.size := by omega
  have g0 : (0 : Int) < (s.size : Int) := by omega
  have g1 : (1 : Int) < (s.size : Int) := by omega
  have E0 := hid (show ((sl s)[0]?.map (·.toNat)) = some (s[0]'h0).toNat by rw [List.getElem?_eq_getElem (by rw [SL.out]; exact h0)]; rfl)
  have E1 := hid (show ((sl s)[1]?.map (·.toNat)) = some (s[1]'h1).toNat by rw [List.getElem?_eq_getElem (by rw [SL.out]; exact h1)]; rfl)
  by_cases c3 : ¬ (s[0]'h0).toNat = 120
  · have D3 : (((s[0]'h0).toNat : Int) == 120) = false := by simp; omega
    have D4 : (((s[0]'h0).toNat : Int) != 120) = true := by simp; omega
    have RN := hid (show R = none by rw [SP.out, if_neg (fun k => by have := k.2.2.1; rw [E0.out] at this; exact c3 (Option.some.inj this))])
    clear c1 c2 c3
    go_enter Tryz.func83, Tryz.ntmps83
    go_wp2
    go_ret2
    exact ⟨by rw [no.out RN.out]; rfl, rfl⟩
  have D3 : (((s[0]'h0).toNat : Int) == 120) = true := by simp; omega
  have D4 : (((s[0]'h0).toNat : Int) != 120) = false := by simp; omega
  have C3 := hid (show (s[0]'h0).toNat = 120 by omega)
  clear c3
  by_cases c4 : (s[1]'h1).toNat = 48 ∧ 2 < s.size
  · have D5 : (((s[1]'h1).toNat : Int) == 48) = true := by simp; omega
    have D6 : decide ((2 : Int) < (s.size : Int)) = true := by simp; omega
    have RN := hid (show R = none by rw [SP.out, if_neg (fun k => k.2.2.2.1 ⟨by rw [E1.out, c4.1], by rw [SL.out]; exact c4.2⟩)])
    clear c1 c2 c4
    go_enter Tryz.func83, Tryz.ntmps83
    go_wp2
    go_ret2
    exact ⟨by rw [no.out RN.out]; rfl, rfl⟩
  have C4 := hid c4
  have DS := hid (show ((sl s).drop 1).length = s.size - 1 by rw [List.length_drop, SL.out])
  have DL := hid (show ((sl s).drop 1).length ≤ 2 by rw [DS.out]; omega)
  have DG := hid (show ∀ j (h : j < ((sl s).drop 1).length) (hk : j + 1 < s.size), s[j + 1]'hk = ((sl s).drop 1)[j] from fun j h hk => by
    rw [List.getElem_drop]
    have : 1 + j = j + 1 := by omega
    simp only [this]
    rfl)
  have RS := hid (show (∀ c ∈ (sl s).drop 1, As.isDig c = true) → As.dec ((sl s).drop 1) ≤ 31 → R = some (As.dec ((sl s).drop 1)) from fun a b => by
    rw [SP.out, if_pos ⟨by rw [SL.out]; omega, by rw [SL.out]; omega, by rw [E0.out, C3.out], fun k => C4.out ⟨by have := k.1; rw [E1.out] at this; exact Option.some.inj this, by have := k.2; rw [SL.out] at this; exact this⟩, a, b⟩])
  have RN1 := hid (show (¬ ∀ c ∈ (sl s).drop 1, As.isDig c = true) → R = none from fun a => by rw [SP.out, if_neg (fun k => a k.2.2.2.2.1)])
  have RN2 := hid (show (¬ As.dec ((sl s).drop 1) ≤ 31) → R = none from fun a => by rw [SP.out, if_neg (fun k => a k.2.2.2.2.2)])
  have yes : Hid (∀ r : Nat, R = some r → regRet R = .tuple #[.int .i64 r, .bool true]) := fun r h => by rw [h]; rfl
  clear SP E0 C3 C4
  generalize (sl s).drop 1 = ds at *
  clear E1
  by_cases c5 : (s[1]'h1).toNat = 48
  · have D5 : (((s[1]'h1).toNat : Int) == 48) = true := by simp; omega
    have D6 : decide ((2 : Int) < (s.size : Int)) = false := by simp; omega
    clear c1 c2 c4 c5
    go_enter Tryz.func83, Tryz.ntmps83
    go_wp2
    go_loop [4, 5] (fun r i => ∃ j : Nat, j ≤ ds.length ∧ i = .int .i64 (j + 1 : Nat) ∧ r = .int .i64 (As.dec (ds.take j)) ∧ ∀ c ∈ ds.take j, As.isDig c = true) (fun _ i => s.size - (intOf i).toNat)
    case atStart => exact ⟨0, Nat.zero_le _, rfl, rfl, by simp⟩
    case round =>
      obtain ⟨j, hj, rfl, rfl, hall⟩ := hrel
      have HA := hid hall
      have hb := dec_lt (ds.take j) hall
      have hl : (ds.take j).length ≤ 2 := by rw [List.length_take]; have := DL.out; omega
      have hb2 : As.dec (ds.take j) ≤ 100 := by
        have h3 : 10 ^ (ds.take j).length ≤ 10 ^ 2 := Nat.pow_le_pow_right (by decide) hl
        omega
      clear hb hl hall
      have HDT := hid (dec_take ds j)
      have HTF := hid (fun h : ds.length ≤ j => List.take_of_length_le h)
      generalize hn : As.dec (ds.take j) = n at *
      have HN := hid hn
      clear hn
      generalize hm : j + 1 = m at *
      have HM := hid hm
      clear hm
      by_cases hlt : m < s.size
      · have hlt2 : (m : Int) < (s.size : Int) := by omega
        have hj2 : j < ds.length := by have := DS.out; have := HM.out; omega
        have EG := hid (show (s[m]'hlt) = ds[j] from by have e := HM.out; subst e; exact DG.out j hj2 hlt)
        have cD := hid (fun W => digit_any (s[m]'hlt) W)
        cases hd : As.isDig (s[m]'hlt)
        · have RN := hid (RN1.out (fun k => by have := k ds[j] (List.getElem_mem hj2); rw [← EG.out, hd] at this; exact Bool.false_ne_true this))
          rw [hd] at cD
          clear hd
          go_wp2_with fail
          refine (cD.out _).mono ?_
          rintro e w1 ⟨rfl, rfl⟩
          go_wp2
          go_ret2
          exact ⟨by rw [no.out RN.out]; rfl, rfl⟩
        · have HD := hid hd
          rw [hd] at cD
          clear hd
          go_wp2_with fail
          refine (cD.out _).mono ?_
          rintro e w1 ⟨rfl, rfl⟩
          go_wp2
          go_round
          case rel =>
            refine ⟨j + 1, by omega, by have := HM.out; go_num, ?_, ?_⟩
            · rw [HM.out, HDT.out hj2, ← EG.out]
              have := HD.out
              unfold As.isDig at this
              simp at this
              congr 1
              omega
            · intro c hc
              rw [List.take_succ_eq_append_getElem hj2, List.mem_append, List.mem_singleton] at hc
              rcases hc with hc | rfl
              · exact HA.out c hc
              · rw [← EG.out]; exact HD.out
          case measure => simp [intOf]; omega
      · have hlt2 : (s.size : Int) ≤ (m : Int) := by omega
        have hj2 : ds.length ≤ j := by have := DS.out; have := HM.out; omega
        have ED := hid (show ds.take j = ds from HTF.out hj2)
        by_cases h31 : n ≤ 31
        · have D7 : decide ((31 : Int) < (n : Int)) = false := by simp; omega
          have RY := hid (yes.out n (by rw [RS.out (by rw [← ED.out]; exact HA.out) (by rw [← ED.out, HN.out]; exact h31), ← HN.out, ED.out]))
          clear h31
          go_wp2
          go_ret2
          exact ⟨by rw [RY.out]; rfl, rfl⟩
        · have D7 : decide ((31 : Int) < (n : Int)) = true := by simp; omega
          have RN := hid (RN2.out (by rw [← ED.out, HN.out]; exact h31))
          clear h31
          go_wp2
          go_ret2
          exact ⟨by rw [no.out RN.out]; rfl, rfl⟩
  · have D5 : (((s[1]'h1).toNat : Int) == 48) = false := by simp; omega
    clear c1 c2 c4 c5
    go_enter Tryz.func83, Tryz.ntmps83
    go_wp2
    go_loop [4, 5] (fun r i => ∃ j : Nat, j ≤ ds.length ∧ i = .int .i64 (j + 1 : Nat) ∧ r = .int .i64 (As.dec (ds.take j)) ∧ ∀ c ∈ ds.take j, As.isDig c = true) (fun _ i => s.size - (intOf i).toNat)
    case atStart => exact ⟨0, Nat.zero_le _, rfl, rfl, by simp⟩
    case round =>
      obtain ⟨j, hj, rfl, rfl, hall⟩ := hrel
      have HA := hid hall
      have hb := dec_lt (ds.take j) hall
      have hl : (ds.take j).length ≤ 2 := by rw [List.length_take]; have := DL.out; omega
      have hb2 : As.dec (ds.take j) ≤ 100 := by
        have h3 : 10 ^ (ds.take j).length ≤ 10 ^ 2 := Nat.pow_le_pow_right (by decide) hl
        omega
      clear hb hl hall
      have HDT := hid (dec_take ds j)
      have HTF := hid (fun h : ds.length ≤ j => List.take_of_length_le h)
      generalize hn : As.dec (ds.take j) = n at *
      have HN := hid hn
      clear hn
      generalize hm : j + 1 = m at *
      have HM := hid hm
      clear hm
      by_cases hlt : m < s.size
      · have hlt2 : (m : Int) < (s.size : Int) := by omega
        have hj2 : j < ds.length := by have := DS.out; have := HM.out; omega
        have EG := hid (show (s[m]'hlt) = ds[j] from by have e := HM.out; subst e; exact DG.out j hj2 hlt)
        have cD := hid (fun W => digit_any (s[m]'hlt) W)
        cases hd : As.isDig (s[m]'hlt)
        · have RN := hid (RN1.out (fun k => by have := k ds[j] (List.getElem_mem hj2); rw [← EG.out, hd] at this; exact Bool.false_ne_true this))
          rw [hd] at cD
          clear hd
          go_wp2_with fail
          refine (cD.out _).mono ?_
          rintro e w1 ⟨rfl, rfl⟩
          go_wp2
          go_ret2
          exact ⟨by rw [no.out RN.out]; rfl, rfl⟩
        · have HD := hid hd
          rw [hd] at cD
          clear hd
          go_wp2_with fail
          refine (cD.out _).mono ?_
          rintro e w1 ⟨rfl, rfl⟩
          go_wp2
          go_round
          case rel =>
            refine ⟨j + 1, by omega, by have := HM.out; go_num, ?_, ?_⟩
            · rw [HM.out, HDT.out hj2, ← EG.out]
              have := HD.out
              unfold As.isDig at this
              simp at this
              congr 1
              omega
            · intro c hc
              rw [List.take_succ_eq_append_getElem hj2, List.mem_append, List.mem_singleton] at hc
              rcases hc with hc | rfl
              · exact HA.out c hc
              · rw [← EG.out]; exact HD.out
          case measure => simp [intOf]; omega
      · have hlt2 : (s.size : Int) ≤ (m : Int) := by omega
        have hj2 : ds.length ≤ j := by have := DS.out; have := HM.out; omega
        have ED := hid (show ds.take j = ds from HTF.out hj2)
        by_cases h31 : n ≤ 31
        · have D7 : decide ((31 : Int) < (n : Int)) = false := by simp; omega
          have RY := hid (yes.out n (by rw [RS.out (by rw [← ED.out]; exact HA.out) (by rw [← ED.out, HN.out]; exact h31), ← HN.out, ED.out]))
          clear h31
          go_wp2
          go_ret2
          exact ⟨by rw [RY.out]; rfl, rfl⟩
        · have D7 : decide ((31 : Int) < (n : Int)) = true := by simp; omega
          have RN := hid (RN2.out (by rw [← ED.out, HN.out]; exact h31))
          clear h31
          go_wp2
          go_ret2
          exact ⟨by rw [no.out RN.out]; rfl, rfl⟩

theorem cell_b {B : Nat} {s : ByteArray} {b g : Nat} {st : As.St} {W : World} (h : AsmAt B s b g st W) :
    W.cell? ⟨b, 2, none⟩ = some (.int .i64 st.tok.kind) ∧ W.cell? ⟨b, 3, none⟩ = some (.int .i64 st.tok.pos) ∧ W.cell? ⟨b, 4, none⟩ = some (.string (bs st.tok.text)) ∧ W.cell? ⟨b, 5, none⟩ = some (.int .i64 st.tok.n) := by
  have c2 := asm_cell h 2
  have c3 := asm_cell h 3
  have c4 := asm_cell h 4
  have c5 := asm_cell h 5
  simp only [asmCells, List.getElem?_toArray, List.getElem?_cons_succ, List.getElem?_cons_zero] at c2 c3 c4 c5
  exact ⟨c2, c3, c4, c5⟩

set_option maxHeartbeats 1000000 in
theorem aNextLine_any (B : Nat) (s : ByteArray) (b g : Nat) (st : As.St) (W : World) (h : AsmAt B s b g st W) :
    Calls Tryz.prog 17 #[.pointer (some ⟨b, 0, none⟩)] W fun en W' => en = .returned (.bool (As.nextLine (sl s) st).1) ∧ DoesB B s b g W (As.nextLine (sl s) st).2 W' := by
  have cF := hid (failed_any B s b g st W h)
  have H := hid h
  clear h
  cases hf : As.failed st
  · have cN := hid (lineEnd_any s b (asmTail g st) st.p W H.out.sc H.out.ok.size H.out.ok.p)
    have o4 : (As.lineEnd (sl s) st.p).2 ≤ s.size := by
      have := skip_le (f := As.notEnd) (s := sl s) (k := st.p) (by rw [sl_length]; exact H.out.ok.p)
      rw [sl_length] at this
      unfold As.lineEnd
      split
      · rename_i hx
        rw [sl_length] at hx
        exact hx
      · exact this
    have RA := hid (show As.nextLine (sl s) st = ((As.lineEnd (sl s) st.p).1, { st with p := (As.lineEnd (sl s) st.p).2 }) from by unfold As.nextLine; rw [hf]; rfl)
    generalize As.nextLine (sl s) st = X at *
    generalize As.lineEnd (sl s) st.p = R at *
    rw [hf] at cF
    clear hf
    go_enter Tryz.func17, Tryz.ntmps17
    go_wp2_with fail
    refine cF.out.mono ?_
    rintro e w1 ⟨rfl, rfl⟩
    clear cF
    go_wp2_with fail
    refine cN.out.mono ?_
    rintro e V ⟨rfl, hsc, hg⟩
    have HD := hid (H.out.scanned hsc hg o4)
    clear hsc hg cN
    go_wp2
    go_ret
    rw [RA.out]
    exact ⟨rfl, HD.out⟩
  · have R := hid (show As.nextLine (sl s) st = (false, st) by unfold As.nextLine; rw [hf]; rfl)
    rw [hf] at cF
    clear hf
    go_enter Tryz.func17, Tryz.ntmps17
    go_wp2_with fail
    refine cF.out.mono ?_
    rintro e w1 ⟨rfl, rfl⟩
    go_wp2
    go_ret
    rw [R.out]
    exact ⟨rfl, H.out.doesB⟩

set_option maxHeartbeats 1000000 in
theorem sign_any (B : Nat) (s : ByteArray) (b g : Nat) (st : As.St) (c : List UInt8) (W : World) (h : AsmAt B s b g st W) :
    Calls Tryz.prog 117 #[.pointer (some ⟨b, 0, none⟩), .string (bs c)] W fun en W' => en = .returned (.tuple #[]) ∧ DoesB B s b g W (As.sign (sl s) c st) W' := by
  have H := hid h
  obtain ⟨c2, c3, c4, c5⟩ := cell_b h
  clear h
  have cI := hid (tokIs_any st.tok c W)
  have hpos := H.out.ok.tok.pos
  unfold tokA at cI
  have RS := hid (show As.sign (sl s) c st = if st.tok.is c then As.advance (sl s) st else As.refuse 3 st.tok.pos st from rfl)
  generalize As.sign (sl s) c st = X at *
  go_enter Tryz.func117, Tryz.ntmps117
  go_wp2_with fail
  refine cI.out.mono ?_
  rintro e V ⟨rfl, hg⟩
  have HD := hid (H.out.doesB.grown hg)
  clear hg cI c2 c3 c4 c5
  obtain ⟨c2, c3, c4, c5⟩ := cell_b HD.out.1
  cases hi : st.tok.is c
  · rw [hi] at RS
    clear hi
    go_wp2_with fail
    refine (refuse_any B s b g st 3 st.tok.pos V HD.out.1 (by omega) hpos).mono ?_
    rintro e V2 ⟨rfl, h2⟩
    have HF := hid (HD.out.after h2)
    clear h2
    go_wp2
    (try simp only [Exit.inBlock, Exit.then]); refine bodyPost_ret (results_none rfl _ _ _) rfl ?_
    rw [RS.out]
    exact ⟨rfl, HF.out⟩
  · rw [hi] at RS
    clear hi
    go_wp2_with fail
    refine (advance_any B s b g st V HD.out.1).mono ?_
    rintro e V2 ⟨rfl, h2⟩
    have HF := hid (HD.out.after h2)
    clear h2
    go_wp2
    go_end0
    rw [RS.out]
    exact ⟨rfl, HF.out⟩

theorem small1000 {n : Nat} (h : n ≤ 1000) (l : List UInt8) (hl : l.length = n) : (bs l).size ≤ 1000 := by rw [bs_size]; omega

set_option maxHeartbeats 1000000 in
theorem register_any (B : Nat) (s : ByteArray) (b g : Nat) (st : As.St) (W : World) (h : AsmAt B s b g st W) :
    Calls Tryz.prog 116 #[.pointer (some ⟨b, 0, none⟩)] W fun en W' => en = .returned (.int .i64 (As.register (sl s) st).1) ∧ DoesB B s b g W (As.register (sl s) st).2 W' := by
  have H := hid h
  obtain ⟨c2, c3, c4, c5⟩ := cell_b h
  clear h
  have hpos := H.out.ok.tok.pos
  cases hk : (st.tok.kind == 1)
  · have d : ((st.tok.kind : Int) == 1) = false := by simp at hk ⊢; omega
    have d' : ((st.tok.kind : Int) != 1) = true := by simp at hk ⊢; omega
    have RS := hid (show As.register (sl s) st = (0, As.refuse 3 st.tok.pos st) by unfold As.register; rw [hk]; rfl)
    generalize As.register (sl s) st = X at *
    clear hk
    go_enter Tryz.func116, Tryz.ntmps116
    go_wp2_with fail
    refine (refuse_any B s b g st 3 st.tok.pos W H.out (by omega) hpos).mono ?_
    rintro e V2 ⟨rfl, h2⟩
    have HF := hid h2
    clear h2
    go_wp2
    go_ret
    rw [RS.out]
    exact ⟨rfl, HF.out⟩
  · have d : ((st.tok.kind : Int) == 1) = true := by simp at hk ⊢; omega
    have d' : ((st.tok.kind : Int) != 1) = false := by simp at hk ⊢; omega
    have cR := hid (registerNamed_any (bs st.tok.text) W (by rw [bs_size]; exact H.out.ok.tok.text))
    rw [sl_bs] at cR
    have RS := hid (show As.register (sl s) st = match As.regOf st.tok.text with
      | none => (0, As.refuse 7 st.tok.pos st)
      | some r => (r, As.advance (sl s) st) by unfold As.register; rw [hk]; rfl)
    generalize As.register (sl s) st = X at *
    clear hk
    go_enter Tryz.func116, Tryz.ntmps116
    go_wp2_with fail
    refine cR.out.mono ?_
    rintro e w1 ⟨rfl, rfl⟩
    cases hr : As.regOf st.tok.text with
    | none =>
      rw [hr] at RS
      clear hr cR
      simp only [regRet, Option.getD_none, Option.isSome_none]
      go_wp2_with fail
      refine (refuse_any B s b g st 7 st.tok.pos w1 H.out (by omega) hpos).mono ?_
      rintro e V2 ⟨rfl, h2⟩
      have HF := hid h2
      clear h2
      go_wp2
      go_ret
      rw [RS.out]
      exact ⟨rfl, HF.out⟩
    | some r =>
      rw [hr] at RS
      clear hr cR
      simp only [regRet, Option.getD_some, Option.isSome_some]
      go_wp2_with fail
      refine (advance_any B s b g st w1 H.out).mono ?_
      rintro e V2 ⟨rfl, h2⟩
      have HF := hid h2
      clear h2
      go_wp2
      go_ret
      rw [RS.out]
      exact ⟨rfl, HF.out⟩

end Go.Proofs.YtmhbgnlfdiahpaaGreatDoor
