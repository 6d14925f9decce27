/- Linking: names that are there twice, or not. -/
/- Walks over package machine: registers, what is computed. -/
/- Walks over package machine: jumps, loads, stores. -/
/- Walks over package machine: words of data, what is asked for. -/
/- Walks over package machine: print, read, call. -/
/- Linking: what takes part. -/
/- Linking: members of an archive. -/
import Derived.Test.YtnfgdlkiialnnaaGreatDoorG07
import Derived.Deep.CutRange
import Derived.Deep.RegionHeld3
import Derived.Test.YtnfgdlkiialnnaaGreatDoorG04
import Derived.Deep.RegionWith
import Derived.Test.YtnfgdlkiialnnaaGreatDoorG03
import Derived.Deep.LoopGhost
namespace Go.Proofs.YtnfgdlkiialnnaaGreatDoor
open Go.RowKit

def lfA (f : Ln.Flt) : Value := .agg #[.int .i64 f.e, .int .i64 f.at_, .string (bs f.name)]
theorem twiceAt_drop (os r : List Lk.Obj) (k : Nat) (h : k < r.length) : Ln.twiceAt os k (r.drop k) = match Ln.twiceIn os k r[k].syms with | some f => f | none => Ln.twiceAt os (k + 1) (r.drop (k + 1)) := by
 rw [List.drop_eq_getElem_cons h, Ln.twiceAt]
 cases Ln.twiceIn os k r[k].syms <;> rfl
theorem twiceIn_drop (os : List Lk.Obj) (i : Nat) (ys : List Lk.Sym) (k : Nat) (h : k < ys.length) : Ln.twiceIn os i (ys.drop k) = if ys[k].bind ≠ 1 ∨ ys[k].sect = 0 then Ln.twiceIn os i (ys.drop (k + 1)) else if (Ln.find (os.take i) ys[k].name 1).mod.isSome then some ⟨33, i, ys[k].name⟩ else Ln.twiceIn os i (ys.drop (k + 1)) := by
 rw [List.drop_eq_getElem_cons h, Ln.twiceIn]
theorem wantedAt_drop (os r : List Lk.Obj) (k : Nat) (h : k < r.length) : Ln.wantedAt os k (r.drop k) = match Ln.wantedIn os k r[k].syms with | some f => f | none => Ln.wantedAt os (k + 1) (r.drop (k + 1)) := by
 rw [List.drop_eq_getElem_cons h, Ln.wantedAt]
 cases Ln.wantedIn os k r[k].syms <;> rfl
theorem wantedIn_drop (os : List Lk.Obj) (i : Nat) (ys : List Lk.Sym) (k : Nat) (h : k < ys.length) : Ln.wantedIn os i (ys.drop k) = if Ln.wanted ys[k] = false then Ln.wantedIn os i (ys.drop (k + 1)) else if (Ln.named os ys[k].name).mod.isSome then Ln.wantedIn os i (ys.drop (k + 1)) else some ⟨34, i, ys[k].name⟩ := by
 rw [List.drop_eq_getElem_cons h, Ln.wantedIn]
theorem named_lt (os : List Lk.Obj) (n : List UInt8) (i : Nat) (h : (Ln.named os n).mod = some i) : i < os.length := by
 unfold Ln.named at h
 split at h
 ·exact find_lt os n 1 i h
 ·exact find_lt os n 2 i h

set_option maxRecDepth 100000 in
set_option maxHeartbeats 8000000 in
theorem checkTwice_any (P : Nat) (ao : Option Addr) (cap : Nat) (bl : List Nat) (os : List Lk.Obj) (w : World) (hp : w.cell? ⟨P, 3, none⟩ = some (.slice ao bl.length cap)) (h : ModsIn w ao bl os) (hcap : bl.length ≤ cap) (hcm : cap ≤ maxLen) :
  Calls Tryz.prog 63 #[.pointer (some ⟨P, 0, none⟩)] w fun e w' => e = .returned (lfA (Ln.checkTwice os)) ∧ w.grownBy w' none := by
 have H := hid h
 have HL := hid h.len
 have hbl : bl.length ≤ 4096 := by rw [h.len]; exact h.few
 have HP := hid hp
 have G0 := hid (World.grownBy_alloc w (.cells #[.int .i64 0, .int .i64 0, .string ⟨#[]⟩] 45) none)
 have B0 := hid (BlkAt.new w #[.int .i64 0, .int .i64 0, .string ⟨#[]⟩] 45)
 have c3 := gcell hp G0.out
 have hPw := World.block_lt_of_cell? w _ hp
 have hcm2 := hcm
 unfold maxLen at hcm2
 clear h hp hcm
 go_enter Tryz.func63, Tryz.ntmps63
 go_wp2
 generalize w.alloc (.cells #[.int .i64 0, .int .i64 0, .string ⟨#[]⟩] 45) = W1 at *
 go_loopw [13] (fun i wr => ∃ k : Nat, k ≤ bl.length ∧ i = .int .i64 k ∧ Ln.checkTwice os = Ln.twiceAt os k (os.drop k) ∧ W1.grownBy wr none) (fun i _ => bl.length - (intOf i).toNat)
 case atStart => exact ⟨0, Nat.zero_le _, rfl, rfl, World.grownBy.refl _ _⟩
 case round =>
  obtain ⟨k, hk, rfl, hf, hgr⟩ := hrel
  have HF := hid hf
  have HG := hid hgr
  clear hf hgr
  by_cases hlt : k < bl.length
  ·have hko : k < os.length := by rw [← HL.out]; exact hlt
   have MI := H.out.kept (grown_trans G0.out HG.out)
   obtain ⟨g0, off, hao, hc⟩ := MI.ptrs (by omega)
   subst hao
   obtain ⟨og, hm0, hob⟩ := MI.mod k hlt hko
   have ck := hc k hlt
   obtain ⟨at_, ct, af, cf, ad, cd, aa, ca, as_, cs, ar, cr, hb, -, -, -, -, q5, -⟩ := hob.open
   have S := hid (SymsIn.of_own q5)
   have k5 := hb.cell 5
   simp only [List.getElem?_toArray, List.getElem?_cons_succ, List.getElem?_cons_zero] at k5
   have hns := MI.syms os[k] (List.getElem_mem hko)
   have FD := hid (twiceAt_drop os os k hko)
   clear hc hob hb q5 MI c3
   generalize os[k].syms = ys at *
   generalize bl[k] = bk at *
   have g1 : (k : Int) < (bl.length : Int) := by omega
   obtain ⟨U, hU⟩ : ∃ U : World, U = wr := ⟨_, rfl⟩
   subst hU
   go_wp2
   go_loopw [26] (fun i wr => ∃ j : Nat, j ≤ ys.length ∧ i = .int .i64 j ∧ Ln.twiceIn os k ys = Ln.twiceIn os k (ys.drop j) ∧ U.grownBy wr none) (fun i _ => ys.length - (intOf i).toNat)
   case atStart => exact ⟨0, Nat.zero_le _, rfl, rfl, World.grownBy.refl _ _⟩
   case round =>
    obtain ⟨j, hj, rfl, hf2, hgr2⟩ := hrel
    have HF2 := hid hf2
    have HG2 := hid hgr2
    clear hf2 hgr2 ck hm0 k5
    by_cases hlt2 : j < ys.length
    ·obtain ⟨sg, hsg, hgs, hcs⟩ := S.out.grown HG2.out (by omega)
     subst hsg
     obtain ⟨q0, q1, q2, q3⟩ := hcs j hlt2
     clear hcs
     have g2 : (j : Int) < (ys.length : Int) := by omega
     have FI := hid (show Ln.twiceIn os k ys = _ from HF2.out.trans (twiceIn_drop os k ys j hlt2))
     generalize ys[j] = y at *
     have BX := hid (BlkAt.new wr #[.string (bs y.name), .int .i64 y.bind, .int .i64 y.sect, .int .i64 y.off] 124)
     have GA := hid (World.grownBy_alloc wr (.cells #[.string (bs y.name), .int .i64 y.bind, .int .i64 y.sect, .int .i64 y.off] 124) none)
     have GW := hid (grown_trans HG2.out GA.out)
     have c3 := gcell HP.out (grown_trans G0.out (grown_trans HG.out GW.out))
     by_cases e1 : y.bind = 1
     ·obtain ⟨yn, yb, yt, yo⟩ := y
      dsimp only at *
      subst e1
      by_cases e2 : yt = 0
      ·have b2 : (yt == 0) = true := by simpa using e2
       have E := hid (show Ln.twiceIn os k ys = Ln.twiceIn os k (ys.drop (j + 1)) by rw [FI.out, if_pos (.inr e2)])
       go_wp2
       go_roundw
       case rel => exact ⟨j + 1, by omega, by go_num, E.out, grown_trans HG2.out (World.grownBy_alloc _ _ none)⟩
       case measure => simp [intOf]; omega
      ·have b2 : (yt == 0) = false := by simpa using e2
       have FI2 := hid (show Ln.twiceIn os k ys = if (Ln.find (os.take k) yn 1).mod.isSome then some ⟨33, k, yn⟩ else Ln.twiceIn os k (ys.drop (j + 1)) by rw [FI.out, if_neg (fun h => h.elim (fun a => a rfl) e2)])
       have cF := hid (fun W (hg : (wr.alloc (.cells #[.string (bs yn), .int .i64 1, .int .i64 yt, .int .i64 yo] 124)).grownBy W none) => find_any (some ⟨g0, off, none⟩) cap (bl.take k) (os.take k) yn 1 W (((H.out.kept (grown_trans G0.out (grown_trans HG.out GW.out))).kept hg).take k))
       have FL := hid (fun i (hi : (Ln.find (os.take k) yn 1).mod = some i) => show i < (bl.take k).length by rw [List.length_take, HL.out, ← List.length_take]; exact find_lt (os.take k) yn 1 i hi)
       rw [show (bl.take k).length = k by rw [List.length_take]; omega] at cF
       generalize Ln.find (os.take k) yn 1 = F1 at *
       obtain ⟨m1, s1, o1⟩ := F1
       unfold spotA at cF
       dsimp only at cF FI2 FL
       generalize hqq : ptrOf (bl.take k) m1 = qq at *
       have HQQ := hid hqq
       clear hqq
       have x0 := hid (show (wr.alloc (.cells #[.string (bs yn), .int .i64 1, .int .i64 yt, .int .i64 yo] 124)).cell? ⟨wr.heap.size, 0, none⟩ = some (.string (bs yn)) from BX.out.cell 0)
       have C3 := hid c3
       have hxlt : wr.heap.size < (wr.alloc (.cells #[.string (bs yn), .int .i64 1, .int .i64 yt, .int .i64 yo] 124)).heap.size := BX.out.lt
       have HXL := hid hxlt
       clear hxlt
       go_wp2
       generalize hV : wr.alloc (.cells #[.string (bs yn), .int .i64 1, .int .i64 yt, .int .i64 yo] 124) = V at *
       generalize hX : wr.heap.size = X at *
       have y0' := x0.out
       have y1' := C3.out
       have hXV := HXL.out
       have gk : (k : Int) ≤ (cap : Int) := by omega
       go_cut [7] from 38 to 46 (fun v wx => ∃ b5, v = .pointer (some ⟨b5, 0, none⟩) ∧ BlkAt wx b5 #[.pointer qq, .int .i64 s1, .int .i64 o1] 115 ∧ V.grownBy wx none ∧ V.heap.size ≤ b5)
       case first =>
        refine wp_region_held_drew (S := (fun w' => w'.cell? ⟨P, 3, none⟩ = some (.slice (some ⟨g0, off, none⟩) bl.length cap) ∧ w'.cell? ⟨X, 0, none⟩ = some (.string (bs yn)))) (by kernel_rfl) ⟨y1', y0'⟩ ?_
        intro hS
        refine wpAnyH_take (i := 0) (v := ?_) rfl (by kernel_rfl) (by kernel_rfl) (by kernel_rfl) (fun _ _ _ h => h) (Or.inl ⟨by kernel_rfl, ?_⟩) hS ?_
        rotate_left
        ·intro w' hw'; obtain ⟨y0, y1⟩ := hw'; go_simp; with_reducible rfl
        refine wpAnyH_take (i := 1) (v := ?_) rfl (by kernel_rfl) (by kernel_rfl) (by kernel_rfl) (fun _ _ _ h => h) (Or.inl ⟨by kernel_rfl, ?_⟩) hS ?_
        rotate_left
        ·intro w' hw'; obtain ⟨y0, y1⟩ := hw'; go_simp; with_reducible rfl
        refine wpAnyH_take (i := 2) (v := ?_) rfl (by kernel_rfl) (by kernel_rfl) (by kernel_rfl) (fun _ _ _ h => h) (Or.inl ⟨by kernel_rfl, ?_⟩) hS ?_
        rotate_left
        ·intro w' hw'; obtain ⟨y0, y1⟩ := hw'; go_simp; with_reducible rfl
        refine wpAnyH_take (i := 3) (v := ?_) rfl (by kernel_rfl) (by kernel_rfl) (by kernel_rfl) (fun _ _ _ h => h) (Or.inl ⟨by kernel_rfl, ?_⟩) hS ?_
        rotate_left
        ·intro w' hw'; obtain ⟨y0, y1⟩ := hw'; go_simp; with_reducible rfl
        refine wpAnyH_take (i := 4) (v := ?_) rfl (by kernel_rfl) (by kernel_rfl) (by kernel_rfl) (fun _ _ _ h => h) (Or.inl ⟨by kernel_rfl, ?_⟩) hS ?_
        rotate_left
        ·intro w' hw'; obtain ⟨y0, y1⟩ := hw'; go_simp; with_reducible rfl
        refine wpAnyH_take (i := 5) (v := .slice (some ⟨g0, off, none⟩) k cap) rfl (by kernel_rfl) (by kernel_rfl) (by kernel_rfl) (fun _ _ _ h => h) (Or.inl ⟨by kernel_rfl, ?_⟩) hS ?_
        ·intro w' hw'; obtain ⟨y0, y1⟩ := hw'; go_simp
        refine wpAnyH_take (i := 6) (v := ?_) rfl (by kernel_rfl) (by kernel_rfl) (by kernel_rfl) (fun _ _ _ h => h) (Or.inl ⟨by kernel_rfl, ?_⟩) hS ?_
        rotate_left
        ·intro w' hw'; obtain ⟨y0, y1⟩ := hw'; go_simp; with_reducible rfl
        refine wpAnyH_take (i := 7) (v := ?_) rfl (by kernel_rfl) (by kernel_rfl) (by kernel_rfl) (fun _ _ _ h => h) (Or.inl ⟨by kernel_rfl, ?_⟩) hS ?_
        rotate_left
        ·intro w' hw'; obtain ⟨y0, y1⟩ := hw'; go_simp; with_reducible rfl
        refine wpAnyH_ready (rs := [8, 9]) (by kernel_rfl) (by simp) ?_
        refine AllReadyH.cons rfl (fun K hK => ?_) (AllReadyH.cons rfl (fun K hK => ?_) AllReadyH.nil)
        ·go_simp
         refine (cF.out _ (grown_drewN (World.grownBy.refl V none) 1)).mono ?_
         rintro e w1 ⟨rfl, hq⟩
         have hq1 := grown_trans (grown_drewN (World.grownBy.refl V none) 1) hq
         refine hK.out _ _ ⟨gcell y1' hq1, gcell y0' hq1⟩ (fun hS2 => ?_)
         clear hK K
         refine wpAnyH_ready (rs := [9]) (by kernel_rfl) (by simp) ?_
         refine AllReadyH.cons rfl (fun K hK => ?_) AllReadyH.nil
         go_simp
         have hz := grown_trans hq1 (World.grownBy_alloc w1 (.cells #[.pointer none, .int .i64 0, .int .i64 0] 115) none)
         refine hK.out _ _ ⟨gcell y1' hz, gcell y0' hz⟩ (fun hS3 => ?_)
         clear hK K
         refine wpAnyH_ready (rs := [10]) (by kernel_rfl) (by simp) ?_
         refine AllReadyH.cons rfl (fun K hK => ?_) AllReadyH.nil
         go_simp
         have hy := grown_trans hq1 (World.grownBy_alloc w1 (.cells #[.pointer qq, .int .i64 s1, .int .i64 o1] 115) none)
         refine hK.out _ _ ⟨gcell y1' hy, gcell y0' hy⟩ (fun hS4 => ?_)
         clear hK K
         refine wpAnyH_done (by kernel_rfl) ?_ _
         try simp only [Act.put, List.getElem_toArray, List.getElem_cons_succ, List.getElem_cons_zero]
         go_wp2_with fail
         go_meet
         exact ⟨_, rfl, BlkAt.new w1 #[.pointer qq, .int .i64 s1, .int .i64 o1] 115, hy, hq1.size⟩
        ·go_simp
         have hz := grown_drewN (World.grownBy_alloc V (.cells #[.pointer none, .int .i64 0, .int .i64 0] 115) none) 1
         refine hK.out _ _ ⟨gcell y1' hz, gcell y0' hz⟩ (fun hS2 => ?_)
         clear hK K
         refine wpAnyH_ready (rs := [8]) (by kernel_rfl) (by simp) ?_
         refine AllReadyH.cons rfl (fun K hK => ?_) AllReadyH.nil
         go_simp
         refine (cF.out _ hz).mono ?_
         rintro e w1 ⟨rfl, hq⟩
         have hq1 := grown_trans hz hq
         have BN := hid (((BlkAt.new V #[.pointer none, .int .i64 0, .int .i64 0] 115).drewN 1).grown hq (by simp))
         have n0 : w1.cell? ⟨V.heap.size, 0, none⟩ = some (.pointer none) := BN.out.cell 0
         have n1 : w1.cell? ⟨V.heap.size, 1, none⟩ = some (.int .i64 0) := BN.out.cell 1
         have n2 : w1.cell? ⟨V.heap.size, 2, none⟩ = some (.int .i64 0) := BN.out.cell 2
         have f0 := BN.out.free 0
         have f1 := BN.out.free 1
         have f2 := BN.out.free 2
         refine hK.out _ _ ⟨gcell y1' hq1, gcell y0' hq1⟩ (fun hS3 => ?_)
         clear hK K
         refine wpAnyH_ready (rs := [10]) (by kernel_rfl) (by simp) ?_
         refine AllReadyH.cons rfl (fun K hK => ?_) AllReadyH.nil
         go_simp
         have hy := sets3_grown hq1 V.heap.size (Nat.le_refl _) (.pointer qq) (.int .i64 s1) (.int .i64 o1)
         refine hK.out _ _ ⟨gcell y1' hy, gcell y0' hy⟩ (fun hS4 => ?_)
         clear hK K
         refine wpAnyH_done (by kernel_rfl) ?_ _
         try simp only [Act.put, List.getElem_toArray, List.getElem_cons_succ, List.getElem_cons_zero]
         go_wp2_with fail
         go_meet
         exact ⟨_, rfl, ((BN.out.set 0 (.pointer qq)).set 1 (.int .i64 s1)).set 2 (.int .i64 o1), hy, Nat.le_refl _⟩
       case rest =>
       obtain ⟨b5, rfl, hb5, hg5, hb5l⟩ := hcut
       have Q5 := hid hb5
       have G5 := hid (grown_trans GW.out hg5)
       have B5 := hid (BX.out.grown hg5 (by simp))
       have x0' := B5.out.cell 0
       have t0 := Q5.out.cell 0
       simp only [List.getElem?_toArray, List.getElem?_cons_zero] at x0' t0
       clear hb5 hg5 cF
       cases m1 with
       | none =>
        have E := hid (show Ln.twiceIn os k ys = Ln.twiceIn os k (ys.drop (j + 1)) from FI2.out)
        obtain rfl : none = qq := HQQ.out
        go_wp2
        go_roundw
        case rel => exact ⟨j + 1, by omega, by go_num, E.out, G5.out⟩
        case measure => simp [intOf]; omega
       | some i =>
        have hi := FL.out i rfl
        obtain rfl : some ⟨(bl.take k)[i], 0, none⟩ = qq := by rw [← HQQ.out, ptrOf_some hi]
        generalize (bl.take k)[i] = bi at *
        have E := hid (show Ln.checkTwice os = ⟨33, k, yn⟩ by rw [HF.out, FD.out, FI2.out]; rfl)
        have BR := hid (B0.out.grown (grown_trans HG.out G5.out) (by simp))
        have hRl := BR.out.lt
        have z0 := BR.out.cell 0
        have z1 := BR.out.cell 1
        have z2 := BR.out.cell 2
        simp only [List.getElem?_toArray, List.getElem?_cons_succ, List.getElem?_cons_zero] at z0 z1 z2
        have f0 := BR.out.free 0
        have f1 := BR.out.free 1
        have f2 := BR.out.free 2
        go_wp2
        have F := ((BR.out.set 0 (.int .i64 33)).set 1 (.int .i64 k)).set 2 (.string (bs yn))
        have h0 := F.cell 0
        have h1 := F.cell 1
        have h2 := F.cell 2
        simp only [List.setIfInBounds_toArray, List.set_cons_succ, List.set_cons_zero, List.getElem?_toArray, List.getElem?_cons_succ, List.getElem?_cons_zero] at h0 h1 h2
        refine bodyPost_ret (v := lfA ⟨33, k, yn⟩) ?_ rfl ⟨by rw [E.out], sets3_grown (grown_trans G0.out (grown_trans HG.out G5.out)) _ (Nat.le_refl _) _ _ _⟩
        clear F z0 z1 z2 f0 f1 f2
        generalize World.setCell _ _ _ = WF at *
        simp [results, Tryz.results63, go_sem, lfA, h0, h1, h2]
     ·have b1 : (y.bind == 1) = false := by simpa using e1
      have E := hid (show Ln.twiceIn os k ys = Ln.twiceIn os k (ys.drop (j + 1)) by rw [FI.out, if_pos (.inl e1)])
      clear e1
      go_wp2
      go_roundw
      case rel => exact ⟨j + 1, by omega, by go_num, E.out, grown_trans HG2.out (World.grownBy_alloc _ _ none)⟩
      case measure => simp [intOf]; omega
    ·obtain rfl : j = ys.length := by omega
     have E := hid (show Ln.twiceIn os k ys = none by rw [HF2.out, List.drop_length]; rfl)
     have g3 : decide ((ys.length : Int) < (ys.length : Int)) = false := by simp
     go_wp2
     go_roundw
     case rel => exact ⟨k + 1, by omega, by go_num, by rw [HF.out, FD.out, E.out], grown_trans HG.out HG2.out⟩
     case measure => simp [intOf]; omega
  ·obtain rfl : k = bl.length := by omega
   have E := hid (show Ln.checkTwice os = Ln.ok by rw [HF.out, HL.out, List.drop_length]; rfl)
   have g3 : decide ((bl.length : Int) < (bl.length : Int)) = false := by simp
   have BR := hid (B0.out.grown HG.out (by simp))
   have z0 : wr.cell? ⟨w.heap.size, 0, none⟩ = some (.int .i64 0) := BR.out.cell 0
   have z1 : wr.cell? ⟨w.heap.size, 1, none⟩ = some (.int .i64 0) := BR.out.cell 1
   have z2 : wr.cell? ⟨w.heap.size, 2, none⟩ = some (.string ⟨#[]⟩) := BR.out.cell 2
   have f0 := BR.out.free 0
   have f1 := BR.out.free 1
   have f2 := BR.out.free 2
   go_wp2
   have F := ((BR.out.set 0 (.int .i64 0)).set 1 (.int .i64 0)).set 2 (.string ⟨#[]⟩)
   have h0 := F.cell 0
   have h1 := F.cell 1
   have h2 := F.cell 2
   simp only [List.setIfInBounds_toArray, List.set_cons_succ, List.set_cons_zero, List.getElem?_toArray, List.getElem?_cons_succ, List.getElem?_cons_zero] at h0 h1 h2
   refine bodyPost_ret (v := lfA Ln.ok) ?_ rfl ⟨by rw [E.out], sets3_grown (grown_trans G0.out HG.out) _ (Nat.le_refl _) _ _ _⟩
   clear F z0 z1 z2 f0 f1 f2
   generalize World.setCell _ _ _ = WF at *
   simp [results, Tryz.results63, go_sem, lfA, Ln.ok, bs, h0, h1, h2]

set_option maxRecDepth 100000 in
set_option maxHeartbeats 8000000 in
theorem checkWanted_any (P : Nat) (ao : Option Addr) (cap : Nat) (bl : List Nat) (os : List Lk.Obj) (w : World) (hp : w.cell? ⟨P, 3, none⟩ = some (.slice ao bl.length cap)) (h : ModsIn w ao bl os) :
  Calls Tryz.prog 64 #[.pointer (some ⟨P, 0, none⟩)] w fun e w' => e = .returned (lfA (Ln.checkWanted os)) ∧ w.grownBy w' none := by
 have H := hid h
 have HL := hid h.len
 have hbl : bl.length ≤ 4096 := by rw [h.len]; exact h.few
 have HP := hid hp
 have G0 := hid (World.grownBy_alloc w (.cells #[.int .i64 0, .int .i64 0, .string ⟨#[]⟩] 45) none)
 have B0 := hid (BlkAt.new w #[.int .i64 0, .int .i64 0, .string ⟨#[]⟩] 45)
 have c3 := gcell hp G0.out
 have hPw := World.block_lt_of_cell? w _ hp
 have cW := hid (fun y W => wanted_any y W)
 have cNm := hid (fun nm W (hg : w.grownBy W none) => lNamed_any P ao cap bl os nm W (gcell hp hg) (h.kept hg))
 unfold symA at cW
 clear h hp
 go_enter Tryz.func64, Tryz.ntmps64
 go_wp2
 generalize w.alloc (.cells #[.int .i64 0, .int .i64 0, .string ⟨#[]⟩] 45) = W1 at *
 go_loopw [13] (fun i wr => ∃ k : Nat, k ≤ bl.length ∧ i = .int .i64 k ∧ Ln.checkWanted os = Ln.wantedAt os k (os.drop k) ∧ W1.grownBy wr none) (fun i _ => bl.length - (intOf i).toNat)
 case atStart => exact ⟨0, Nat.zero_le _, rfl, rfl, World.grownBy.refl _ _⟩
 case round =>
  obtain ⟨k, hk, rfl, hf, hgr⟩ := hrel
  have HF := hid hf
  have HG := hid hgr
  clear hf hgr
  by_cases hlt : k < bl.length
  ·have hko : k < os.length := by rw [← HL.out]; exact hlt
   have MI := H.out.kept (grown_trans G0.out HG.out)
   obtain ⟨g0, off, hao, hc⟩ := MI.ptrs (by omega)
   subst hao
   obtain ⟨og, hm0, hob⟩ := MI.mod k hlt hko
   have ck := hc k hlt
   obtain ⟨at_, ct, af, cf, ad, cd, aa, ca, as_, cs, ar, cr, hb, -, -, -, -, q5, -⟩ := hob.open
   have S := hid (SymsIn.of_own q5)
   have k5 := hb.cell 5
   simp only [List.getElem?_toArray, List.getElem?_cons_succ, List.getElem?_cons_zero] at k5
   have hns := MI.syms os[k] (List.getElem_mem hko)
   have FD := hid (wantedAt_drop os os k hko)
   clear hc hob hb q5 MI c3
   generalize os[k].syms = ys at *
   generalize bl[k] = bk at *
   have g1 : (k : Int) < (bl.length : Int) := by omega
   obtain ⟨U, hU⟩ : ∃ U : World, U = wr := ⟨_, rfl⟩
   subst hU
   go_wp2
   go_loopw [26] (fun i wr => ∃ j : Nat, j ≤ ys.length ∧ i = .int .i64 j ∧ Ln.wantedIn os k ys = Ln.wantedIn os k (ys.drop j) ∧ U.grownBy wr none) (fun i _ => ys.length - (intOf i).toNat)
   case atStart => exact ⟨0, Nat.zero_le _, rfl, rfl, World.grownBy.refl _ _⟩
   case round =>
    obtain ⟨j, hj, rfl, hf2, hgr2⟩ := hrel
    have HF2 := hid hf2
    have HG2 := hid hgr2
    clear hf2 hgr2 ck hm0 k5
    by_cases hlt2 : j < ys.length
    ·obtain ⟨sg, hsg, hgs, hcs⟩ := S.out.grown HG2.out (by omega)
     subst hsg
     obtain ⟨q0, q1, q2, q3⟩ := hcs j hlt2
     clear hcs
     have g2 : (j : Int) < (ys.length : Int) := by omega
     have FI := hid (show Ln.wantedIn os k ys = _ from HF2.out.trans (wantedIn_drop os k ys j hlt2))
     generalize ys[j] = y at *
     have BX := hid (BlkAt.new wr #[.string (bs y.name), .int .i64 y.bind, .int .i64 y.sect, .int .i64 y.off] 124)
     have GA := hid (World.grownBy_alloc wr (.cells #[.string (bs y.name), .int .i64 y.bind, .int .i64 y.sect, .int .i64 y.off] 124) none)
     have GW := hid (grown_trans HG2.out GA.out)
     have c3 := gcell HP.out (grown_trans G0.out (grown_trans HG.out GW.out))
     have cY := hid (cW.out y)
     have cN := hid (fun W hg => cNm.out y.name W hg)
     have FL := hid (fun i (hi : (Ln.named os y.name).mod = some i) => show i < bl.length by rw [HL.out]; exact named_lt os y.name i hi)
     go_wp2_with fail
     refine (cY.out _).mono ?_
     rintro e U4 ⟨rfl, h4⟩
     have G4 := hid (grown_trans GW.out h4)
     have B4 := hid (BX.out.grown h4 (by simp))
     have x0 : U4.cell? ⟨wr.heap.size, 0, none⟩ = some (.string (bs y.name)) := B4.out.cell 0
     clear h4 cY c3 q0 q1 q2 q3
     cases e1 : Ln.wanted y
     ·have E := hid (show Ln.wantedIn os k ys = Ln.wantedIn os k (ys.drop (j + 1)) by rw [FI.out, if_pos e1])
      clear e1
      go_wp2
      go_roundw
      case rel => exact ⟨j + 1, by omega, by go_num, E.out, G4.out⟩
      case measure => simp [intOf]; omega
     ·have FI2 := hid (show Ln.wantedIn os k ys = if (Ln.named os y.name).mod.isSome then Ln.wantedIn os k (ys.drop (j + 1)) else some ⟨34, k, y.name⟩ by rw [FI.out, if_neg (by rw [e1]; decide)])
      clear e1
      generalize Ln.named os y.name = F1 at *
      obtain ⟨m1, s1, o1⟩ := F1
      unfold spotA at cN
      dsimp only at cN FI2 FL
      go_wp2_with fail
      refine (cN.out _ (grown_trans G0.out (grown_trans HG.out G4.out))).mono ?_
      rintro e U5 ⟨rfl, h5⟩
      have G5 := hid (grown_trans G4.out h5)
      have B5 := hid (B4.out.grown h5 (by simp))
      clear h5 cN x0
      have x0 : U5.cell? ⟨wr.heap.size, 0, none⟩ = some (.string (bs y.name)) := B5.out.cell 0
      have hx := B5.out.lt
      have hxn : wr.heap.size ≠ U5.heap.size := by omega
      cases m1 with
      | some i =>
       have hi := FL.out i rfl
       rw [ptrOf_some hi]
       generalize bl[i] = bi at *
       have E := hid (show Ln.wantedIn os k ys = Ln.wantedIn os k (ys.drop (j + 1)) from FI2.out)
       go_wp2
       go_roundw
       case rel => exact ⟨j + 1, by omega, by go_num, E.out, grown_trans G5.out (World.grownBy_alloc _ _ none)⟩
       case measure => simp [intOf]; omega
      | none =>
       rw [show ptrOf bl none = none from rfl]
       have E := hid (show Ln.checkWanted os = ⟨34, k, y.name⟩ by rw [HF.out, FD.out, FI2.out]; rfl)
       have BR := hid (B0.out.grown (grown_trans HG.out G5.out) (by simp))
       have hRl := BR.out.lt
       have z0 : U5.cell? ⟨w.heap.size, 0, none⟩ = some (.int .i64 0) := BR.out.cell 0
       have z1 : U5.cell? ⟨w.heap.size, 1, none⟩ = some (.int .i64 0) := BR.out.cell 1
       have z2 : U5.cell? ⟨w.heap.size, 2, none⟩ = some (.string ⟨#[]⟩) := BR.out.cell 2
       have f0 := BR.out.free 0
       have f1 := BR.out.free 1
       have f2 := BR.out.free 2
       have hne5 : w.heap.size ≠ U5.heap.size := by omega
       go_wp2
       have F := (((BR.out.set 0 (.int .i64 34)).set 1 (.int .i64 k)).set 2 (.string (bs y.name))).grown (World.grownBy_alloc _ (.cells #[.pointer none, .int .i64 s1, .int .i64 o1] 115) none) (by simp)
       have h0 := F.cell 0
       have h1 := F.cell 1
       have h2 := F.cell 2
       simp only [List.setIfInBounds_toArray, List.set_cons_succ, List.set_cons_zero, List.getElem?_toArray, List.getElem?_cons_succ, List.getElem?_cons_zero] at h0 h1 h2
       refine bodyPost_ret (v := lfA ⟨34, k, y.name⟩) ?_ rfl ⟨by rw [E.out], grown_trans (sets3_grown (grown_trans G0.out (grown_trans HG.out G5.out)) _ (Nat.le_refl _) _ _ _) (World.grownBy_alloc _ _ none)⟩
       clear F z0 z1 z2 f0 f1 f2
       generalize World.alloc _ _ = WF at *
       simp [results, Tryz.results64, go_sem, lfA, h0, h1, h2]
    ·obtain rfl : j = ys.length := by omega
     have E := hid (show Ln.wantedIn os k ys = none by rw [HF2.out, List.drop_length]; rfl)
     have g3 : decide ((ys.length : Int) < (ys.length : Int)) = false := by simp
     go_wp2
     go_roundw
     case rel => exact ⟨k + 1, by omega, by go_num, by rw [HF.out, FD.out, E.out], grown_trans HG.out HG2.out⟩
     case measure => simp [intOf]; omega
  ·obtain rfl : k = bl.length := by omega
   have E := hid (show Ln.checkWanted os = Ln.ok by rw [HF.out, HL.out, List.drop_length]; rfl)
   have g3 : decide ((bl.length : Int) < (bl.length : Int)) = false := by simp
   have BR := hid (B0.out.grown HG.out (by simp))
   have z0 : wr.cell? ⟨w.heap.size, 0, none⟩ = some (.int .i64 0) := BR.out.cell 0
   have z1 : wr.cell? ⟨w.heap.size, 1, none⟩ = some (.int .i64 0) := BR.out.cell 1
   have z2 : wr.cell? ⟨w.heap.size, 2, none⟩ = some (.string ⟨#[]⟩) := BR.out.cell 2
   have f0 := BR.out.free 0
   have f1 := BR.out.free 1
   have f2 := BR.out.free 2
   go_wp2
   have F := ((BR.out.set 0 (.int .i64 0)).set 1 (.int .i64 0)).set 2 (.string ⟨#[]⟩)
   have h0 := F.cell 0
   have h1 := F.cell 1
   have h2 := F.cell 2
   simp only [List.setIfInBounds_toArray, List.set_cons_succ, List.set_cons_zero, List.getElem?_toArray, List.getElem?_cons_succ, List.getElem?_cons_zero] at h0 h1 h2
   refine bodyPost_ret (v := lfA Ln.ok) ?_ rfl ⟨by rw [E.out], sets3_grown (grown_trans G0.out HG.out) _ (Nat.le_refl _) _ _ _⟩
   clear F z0 z1 z2 f0 f1 f2
   generalize World.setCell _ _ _ = WF at *
   simp [results, Tryz.results64, go_sem, lfA, Ln.ok, bs, h0, h1, h2]

end Go.Proofs.YtnfgdlkiialnnaaGreatDoor

namespace Go.Proofs.YtnfgdlkiialnnaaGreatDoor
open Go.RowKit

end Go.Proofs.YtnfgdlkiialnnaaGreatDoor

namespace Go.Proofs.YtnfgdlkiialnnaaGreatDoor
open Go.RowKit

section
variable {W0 W : World} {b g : Nat} {vin vd vo : Value} {st : Mc.St}
end

end Go.Proofs.YtnfgdlkiialnnaaGreatDoor

namespace Go.Proofs.YtnfgdlkiialnnaaGreatDoor
open Go.RowKit

theorem own_some {w : World} {base : Nat} {e : TypeId} {n cap : Nat} {ao : Option Addr} {xs : List Value} (h : w.ownsRow base e 1 (.slice ao n cap) n xs) (h0 : 0 < n) : ∃ sg, ao = some ⟨sg, 0, none⟩ ∧ (∀ o, w.frozen? ⟨sg, o, none⟩ = false) ∧ n ≤ cap ∧ cap ≤ maxLen ∧ ∀ i, i < n → w.cell? ⟨sg, i, none⟩ = xs[i]? := by
 rcases h.2 with ⟨h1, h2⟩ | ⟨g', cap', cur, hv, _, hg, h3, h4, h5, h6⟩
 ·omega
 ·simp only [Value.slice.injEq] at hv
  obtain ⟨rfl, _, rfl⟩ := hv
  refine ⟨g', rfl, fun o => (show BlkAt w g' cur e from hg).free o, h3, h4, fun i hi => ?_⟩
  rw [(show BlkAt w g' cur e from hg).cell i, ← h6, List.getElem?_take]
  simp [hi]

section
variable {W0 W : World} {b g : Nat} {vin vo : Value} {st : Mc.St}
end

end Go.Proofs.YtnfgdlkiialnnaaGreatDoor

namespace Go.Proofs.YtnfgdlkiialnnaaGreatDoor
open Go.RowKit

section
variable {P : Program} (w : World)
theorem wpList_append_at {ops : Array Oper} {rest : List Oper} {o : Oper} {a : Act} {Q : Exit → Act → World → Prop} (hgd : o.guard = none) (s x : Operand) (t : TypeId)
  (ho : o.op = .call { callee := .builtin .append, args := #[s, x], argTypes := #[t, t] })
  (base : Nat) (e : TypeId) (i : TypeInfo) (z : Value) (size bytes : Nat) (ht : P.underlying t = some (.slice e)) (hi : P.info? e = some i) (hz : i.zero = some z)
  (hsize : i.size = size) (hby : i.bytes = bytes) (hzs : z.cells.size = size) (hsz : 0 < size)
  (v : Value) (n : Nat) (xs : List Value) (hs : a.eval s = v) (hown : w.ownsRow base e size v n xs)
  (ad : Addr) (m c : Nat) (news : List Value) (hx : a.eval x = .slice (some ad) m c) (hl : news.length = m * size) (hnews : ∀ j u, news[j]? = some u → w.cell? (ad.add j) = some u) (h1 : ∀ u ∈ news, u.oneCell' = true)
  (h63 : n + m ≤ maxLen) (hbytes : (n + m) * bytes ≤ 140737488355328) (hbase : base ≤ w.heap.size)
  (h : ∀ v' w', w'.ownsRow base e size v' (n + m) (xs ++ news) → w.grownBy w' v.ownBlock → (v'.ownBlock = v.ownBlock ∨ v'.ownBlock = some w.heap.size) → wpList P ops Q rest (a.put o.dst v') w') : wpList P ops Q (o :: rest) a w := by
 refine wpList_plain hgd fun K hK => ?_
 obtain ⟨v', w', hr, h2, h3, -, h5⟩ := run_append_own_at (P := P) w base t o.type e i z size bytes ht hi hz hsize hby hzs hsz v n xs hown ad m c news hl hnews h1 h63 hbytes hbase
 unfold Oper.wp execOp
 simp only [ho, resolve, invoke, builtin, Sem.run_bind, Sem.run_pure, Result.andThen_ok, List.map_toArray, List.map_cons, List.map_nil, hs, hx, hr]
 exact hK _ _ (h v' w' h2 h3 h5)
end

section
variable {W0 W w3 : World} {b g : Nat} {vin vd vo v' : Value} {st : Mc.St} {ob : Obj}
end

end Go.Proofs.YtnfgdlkiialnnaaGreatDoor

namespace Go.Proofs.YtnfgdlkiialnnaaGreatDoor
open Go.RowKit

def ptrV (b : Nat) : Value := .pointer (some ⟨b, 0, none⟩)
def modZ (g : Nat) : Array Value := #[ptrV g, .slice none 0 0, .slice none 0 0, .slice none 0 0, .slice none 0 0, .int .i64 0, .int .i64 0]

structure GatAt (W0 : World) (P : Nat) (bt bf bd : Int) (vm : Value) (bl gl : List Nat) (os : List Lk.Obj) (W : World) : Prop where
 blk : BlkAt W P #[.int .i64 bt, .int .i64 bf, .int .i64 bd, vm, .pointer none, .int .i64 0, .int .i64 0, .int .i64 0] 117
 row : W.ownsRow W0.heap.size 113 1 vm bl.length (bl.map ptrV)
 lenG : gl.length = bl.length
 lenO : os.length = bl.length
 mods : ∀ i (h : i < bl.length), BlkAt W bl[i] (modZ (gl[i]'(by rw [lenG]; exact h))) 122
 objs : ∀ i (h : i < bl.length), ObjAt W (gl[i]'(by rw [lenG]; exact h)) (os[i]'(by rw [lenO]; exact h))
 few : bl.length ≤ 4096
 syms : ∀ o ∈ os, o.syms.length ≤ 65535
 lo : W0.heap.size ≤ P
 los : ∀ b ∈ bl, W0.heap.size ≤ b
 gr : W0.grownBy W none
 nd : bl.Nodup

/-- the block that is written is of this type -/
def RowT (W : World) (row : Option Nat) (e : TypeId) : Prop := ∀ k, row = some k → ∃ cur, BlkAt W k cur e
theorem RowT.own {W : World} {B size n : Nat} {e : TypeId} {v : Value} {xs : List Value} (h : W.ownsRow B e size v n xs) : RowT W v.ownBlock e := by
 intro k hk
 rcases h.2 with ⟨h1, _⟩ | ⟨g, cap, cur, hv, _, hg, _⟩
 ·rw [h1] at hk; simp [Value.ownBlock] at hk
 ·rw [hv] at hk
  simp only [Value.ownBlock, Option.some.injEq] at hk
  subst hk
  exact ⟨cur, hg⟩
theorem RowT.blk {W : World} {b : Nat} {cs : Array Value} {e : TypeId} (h : BlkAt W b cs e) : RowT W (some b) e := fun k hk => by
 simp only [Option.some.injEq] at hk
 subst hk
 exact ⟨cs, h⟩
theorem blk_ty {W W' : World} {row : Option Nat} {e t : TypeId} {b : Nat} {cs : Array Value} (h : BlkAt W b cs t) (hg : W.grownBy W' row) (hr : RowT W row e) (hne : t ≠ e) : BlkAt W' b cs t :=
 h.grown hg (fun c => by
  obtain ⟨cur, hc⟩ := hr b c.symm
  have := hc.symm.trans h
  simp at this
  exact hne this.2.symm)
theorem own_ty {W W' : World} {row : Option Nat} {e t : TypeId} {B size n : Nat} {v : Value} {xs : List Value} (h : W.ownsRow B t size v n xs) (hg : W.grownBy W' row) (hr : RowT W row e) (hne : t ≠ e) : W'.ownsRow B t size v n xs :=
 h.kept hg (by
  cases hv : v.ownBlock with
  | none => exact .inl rfl
  | some k =>
   right
   intro c
   obtain ⟨cur, hc⟩ := RowT.own h k hv
   obtain ⟨cur2, hc2⟩ := hr k c.symm
   have := hc.symm.trans hc2
   simp at this
   exact hne this.2)
theorem obj_ty {W W' : World} {row : Option Nat} {e : TypeId} {g : Nat} {o : Lk.Obj} (h : ObjAt W g o) (hg : W.grownBy W' row) (hr : RowT W row e) (h1 : 90 ≠ e) (h2 : 3 ≠ e) (h3 : 124 ≠ e) (h4 : 139 ≠ e) : ObjAt W' g o := by
 obtain ⟨vt, vf, vd, va, vs, vr, hb, q1, q2, q3, q4, q5, q6⟩ := h
 exact ⟨vt, vf, vd, va, vs, vr, blk_ty hb hg hr h1, own_ty q1 hg hr h2, own_ty q2 hg hr h2, own_ty q3 hg hr h2, own_ty q4 hg hr h2, own_ty q5 hg hr h3, own_ty q6 hg hr h4⟩

/-- blocks of all types but these are kept -/
def Frame (ts : List TypeId) (W W' : World) : Prop := ∀ k cs t, BlkAt W k cs t → t ∉ ts → BlkAt W' k cs t
theorem Frame.grown {ts : List TypeId} {W W' : World} (h : W.grownBy W' none) : Frame ts W W' := fun _ _ _ hb _ => hb.grown h (by simp)
theorem Frame.trans {ts : List TypeId} {A B C : World} (h : Frame ts A B) (k : Frame ts B C) : Frame ts A C := fun b cs t hb ht => k b cs t (h b cs t hb ht) ht
theorem Frame.row {ts : List TypeId} {W W' : World} {row : Option Nat} {e : TypeId} (h : W.grownBy W' row) (hr : RowT W row e) (he : e ∈ ts) : Frame ts W W' := fun _ _ _ hb ht => blk_ty hb h hr (fun c => ht (c ▸ he))
theorem Frame.own {ts : List TypeId} {W W' : World} (h : Frame ts W W') {B size n : Nat} {t : TypeId} {v : Value} {xs : List Value} (ho : W.ownsRow B t size v n xs) (ht : t ∉ ts) : W'.ownsRow B t size v n xs := by
 refine ⟨ho.1, ?_⟩
 rcases ho.2 with q | ⟨g, cap, cur, hv, hb, hg, r⟩
 ·exact .inl q
 ·exact .inr ⟨g, cap, cur, hv, hb, h g cur t hg ht, r⟩
theorem Frame.obj {ts : List TypeId} {W W' : World} (h : Frame ts W W') {g : Nat} {o : Lk.Obj} (ho : ObjAt W g o) (h1 : 90 ∉ ts) (h2 : 3 ∉ ts) (h3 : 124 ∉ ts) (h4 : 139 ∉ ts) : ObjAt W' g o := by
 obtain ⟨vt, vf, vd, va, vs, vr, hb, q1, q2, q3, q4, q5, q6⟩ := ho
 exact ⟨vt, vf, vd, va, vs, vr, h _ _ _ hb h1, h.own q1 h2, h.own q2 h2, h.own q3 h2, h.own q4 h2, h.own q5 h3, h.own q6 h4⟩

theorem Tryz.infoPtrMod : (Tryz.prog.info? 113).map (fun i => (i.zero, i.size, i.bytes)) = some (some (.pointer none), 1, 8) := by kernel_rfl

section
variable {W0 W W' : World} {P : Nat} {bt bf bd : Int} {vm : Value} {bl gl : List Nat} {os : List Lk.Obj}
theorem GatAt.kept (h : GatAt W0 P bt bf bd vm bl gl os W) (hg : W.grownBy W' none) : GatAt W0 P bt bf bd vm bl gl os W' :=
 ⟨h.blk.grown hg (by simp), h.row.kept hg (by cases vm.ownBlock <;> simp), h.lenG, h.lenO, fun i hi => (h.mods i hi).grown hg (by simp), fun i hi => (h.objs i hi).kept hg, h.few, h.syms, h.lo, h.los, grown_trans h.gr hg, h.nd⟩
theorem GatAt.ty {row : Option Nat} {e : TypeId} (h : GatAt W0 P bt bf bd vm bl gl os W) (hg : W.grownBy W' row) (hr : RowT W row e) (hlo : ∀ k, row = some k → W0.heap.size ≤ k) (h1 : 117 ≠ e) (h2 : 113 ≠ e) (h3 : 122 ≠ e) (h4 : 90 ≠ e) (h5 : 3 ≠ e) (h6 : 124 ≠ e) (h7 : 139 ≠ e) : GatAt W0 P bt bf bd vm bl gl os W' :=
 ⟨blk_ty h.blk hg hr h1, own_ty h.row hg hr h2, h.lenG, h.lenO, fun i hi => blk_ty (h.mods i hi) hg hr h3, fun i hi => obj_ty (h.objs i hi) hg hr h4 h5 h6 h7, h.few, h.syms, h.lo, h.los, grown_hi h.gr hg hlo, h.nd⟩
theorem GatAt.modsIn {am : Option Addr} {cm : Nat} (h : GatAt W0 P bt bf bd (.slice am bl.length cm) bl gl os W) : ModsIn W am bl os := by
 refine ⟨fun hp => ?_, h.lenO.symm, fun i h1 h2 => ⟨_, (h.mods i h1).cell 0, h.objs i h1⟩, by rw [h.lenO]; exact h.few, h.syms⟩
 obtain ⟨sg, hs, -, -, -, hc⟩ := own_some h.row hp
 refine ⟨sg, 0, hs, fun i hi => ?_⟩
 rw [Nat.zero_add, hc i hi, List.getElem?_map, List.getElem?_eq_getElem hi]
 rfl
/-- a module more -/
theorem GatAt.more {og : Nat} {o : Lk.Obj} {w3 : World} {v' : Value} (h : GatAt W0 P bt bf bd vm bl gl os W) (ho : ObjAt W og o) (hf : bl.length < 4096) (hs : o.syms.length ≤ 65535)
  (hown : w3.ownsRow W0.heap.size 113 1 v' (bl.length + 1) (bl.map ptrV ++ [ptrV W.heap.size])) (hg : ((W.alloc (.cells (modZ og) 122)).alloc (.cells #[ptrV W.heap.size] 113)).grownBy w3 vm.ownBlock) :
  GatAt W0 P bt bf bd v' (bl ++ [W.heap.size]) (gl ++ [og]) (os ++ [o]) (w3.setCell ⟨P, 3, none⟩ v') := by
 have A1 := World.grownBy_alloc W (.cells (modZ og) 122) none
 have A2 := World.grownBy_alloc (W.alloc (.cells (modZ og) 122)) (.cells #[ptrV W.heap.size] 113) none
 have A := grown_trans A1 A2
 have hA := h.kept A
 have RT := RowT.own hA.row
 have BM := (BlkAt.new W (modZ og) 122).grown A2 (by simp)
 have b3 := blk_ty hA.blk hg RT (by decide)
 have RP := RowT.blk b3
 have gs := grown_set w3 P 3 v'
 have hlt := h.gr.size
 have hrow : ∀ k, vm.ownBlock = some k → W0.heap.size ≤ k := fun k e => (h.row.lt k e).1
 refine ⟨?_, ?_, by simp [h.lenG], by simp [h.lenO], ?_, ?_, by simp; omega, ?_, h.lo, ?_, ?_, ?_⟩
 ·have := b3.set 3 v'
  rw [List.setIfInBounds_toArray] at this
  exact this
 ·have := own_ty hown gs RP (by decide)
  simpa using this
 ·intro i hi
  have hg1 : (gl ++ [og])[i]? = some ((gl ++ [og])[i]'(by simp [h.lenG]; simpa using hi)) := List.getElem?_eq_getElem _
  by_cases hlt2 : i < bl.length
  ·have e1 : (bl ++ [W.heap.size])[i] = bl[i] := List.getElem_append_left hlt2
   have e2 : (gl ++ [og])[i]'(by simp [h.lenG]; omega) = gl[i]'(by rw [h.lenG]; exact hlt2) := List.getElem_append_left _
   rw [e1, e2]
   exact blk_ty (blk_ty (hA.mods i hlt2) hg RT (by decide)) gs RP (by decide)
  ·have hi2 : i = bl.length := by simp at hi; omega
   subst hi2
   have e1 : (bl ++ [W.heap.size])[bl.length] = W.heap.size := by simp
   have e2 : (gl ++ [og])[bl.length]'(by simp [h.lenG]) = og := by simp [← h.lenG]
   rw [e1, e2]
   exact blk_ty (blk_ty BM hg RT (by decide)) gs RP (by decide)
 ·intro i hi
  by_cases hlt2 : i < bl.length
  ·have e1 : (os ++ [o])[i]'(by simp [h.lenO]; omega) = os[i]'(by rw [h.lenO]; exact hlt2) := List.getElem_append_left _
   have e2 : (gl ++ [og])[i]'(by simp [h.lenG]; omega) = gl[i]'(by rw [h.lenG]; exact hlt2) := List.getElem_append_left _
   rw [e1, e2]
   exact obj_ty (obj_ty (hA.objs i hlt2) hg RT (by decide) (by decide) (by decide) (by decide)) gs RP (by decide) (by decide) (by decide) (by decide)
  ·have hi2 : i = bl.length := by simp at hi; omega
   subst hi2
   have e1 : (os ++ [o])[bl.length]'(by simp [h.lenO]) = o := by simp [← h.lenO]
   have e2 : (gl ++ [og])[bl.length]'(by simp [h.lenG]) = og := by simp [← h.lenG]
   rw [e1, e2]
   exact obj_ty (obj_ty (ho.kept A) hg RT (by decide) (by decide) (by decide) (by decide)) gs RP (by decide) (by decide) (by decide) (by decide)
 ·intro x hx
  rcases List.mem_append.1 hx with hx | hx
  ·exact h.syms x hx
  ·simp at hx; subst hx; exact hs
 ·intro x hx
  rcases List.mem_append.1 hx with hx | hx
  ·exact h.los x hx
  ·simp at hx; subst hx; exact hlt
 ·exact grown_hi (grown_hi (grown_trans h.gr A) hg hrow) gs (by intro k e; simp at e; have := h.lo; omega)
 ·rw [List.nodup_append]
  refine ⟨h.nd, by simp, fun a ha b hb => ?_⟩
  simp at hb
  subst hb
  obtain ⟨i, hi, rfl⟩ := List.getElem_of_mem ha
  exact Nat.ne_of_lt (h.mods i hi).lt
end

set_option maxRecDepth 100000 in
set_option maxHeartbeats 8000000 in
theorem take_any (W0 : World) (P : Nat) (bt bf bd : Int) (vm : Value) (bl gl : List Nat) (os : List Lk.Obj) (og : Nat) (o : Lk.Obj) (W : World) (h : GatAt W0 P bt bf bd vm bl gl os W) (ho : ObjAt W og o) (hf : bl.length < 4096) (hs : o.syms.length ≤ 65535) :
  Calls Tryz.prog 90 #[ptrV P, ptrV og] W fun e W' => e = .returned (.tuple #[]) ∧ (∃ vm' b, GatAt W0 P bt bf bd vm' (bl ++ [b]) (gl ++ [og]) (os ++ [o]) W') ∧ Frame [113, 117] W W' := by
 obtain ⟨i0, hi, hz0, hz1, hz2⟩ := info_parts Tryz.infoPtrMod
 obtain ⟨am, cm, rfl⟩ := own_form h.row
 have H := hid h
 have HO := hid ho
 have c3 : W.cell? ⟨P, 3, none⟩ = some (.slice am bl.length cm) := h.blk.cell 3
 have hP := h.blk.lt
 have hcap := own_cap h.row
 have hsz := h.gr.size
 have SZ : (W.alloc (.cells (modZ og) 122)).heap.size = W.heap.size + 1 := Array.size_push _
 have CN := hid (show ∀ j u, [ptrV W.heap.size][j]? = some u → ((W.alloc (.cells (modZ og) 122)).alloc (.cells #[ptrV W.heap.size] 113)).cell? ((⟨W.heap.size + 1, 0, none⟩ : Addr).add j) = some u by
  have := cell_one_new (W.alloc (.cells (modZ og) 122)) (ptrV W.heap.size) 113
  rw [SZ] at this
  exact this)
 have HR := hid ((h.kept (grown_trans (World.grownBy_alloc W (.cells (modZ og) 122) none) (World.grownBy_alloc _ (.cells #[ptrV W.heap.size] 113) none))).row)
 have HB := hid ((h.kept (grown_trans (World.grownBy_alloc W (.cells (modZ og) 122) none) (World.grownBy_alloc _ (.cells #[ptrV W.heap.size] 113) none))).blk)
 have HS := hid (show W0.heap.size ≤ ((W.alloc (.cells (modZ og) 122)).alloc (.cells #[ptrV W.heap.size] 113)).heap.size from (h.kept (grown_trans (World.grownBy_alloc W (.cells (modZ og) 122) none) (World.grownBy_alloc _ (.cells #[ptrV W.heap.size] 113) none))).gr.size)
 clear h ho SZ
 unfold ptrV
 go_enter Tryz.func90, Tryz.ntmps90
 go_wp2_with (at_builtin; refine wpList_append_at _ rfl _ _ 112 rfl W0.heap.size 113 i0 (.pointer none) 1 8 Tryz.underlying112 hi hz0 hz1 hz2 rfl (by decide) _ _ _ rfl HR.out ⟨W.heap.size + 1, 0, none⟩ 1 1 [ptrV W.heap.size] rfl rfl CN.out (by intro u hu; simp at hu; subst hu; rfl) (by unfold maxLen; omega) (by omega) HS.out ?_; intro v' w3 hown' hgrow hblk; obtain ⟨av', cv', rfl⟩ := own_form hown'; have RT := RowT.own HR.out; have b3 := blk_ty HB.out hgrow RT (by decide); have f3 := b3.free 3; have k3 := b3.cell 3; have K := hid (H.out.more HO.out hf hs hown' hgrow); have FR := hid (((Frame.grown (ts := [113, 117]) (grown_trans (World.grownBy_alloc W (.cells (modZ og) 122) none) (World.grownBy_alloc _ (.cells #[ptrV W.heap.size] 113) none))).trans (Frame.row hgrow RT (by decide))).trans (Frame.row (grown_set w3 P 3 (.slice av' (bl.length + 1) cv')) (RowT.blk b3) (by decide))); clear hgrow hown' RT b3 hblk)
 go_end0
 exact ⟨rfl, ⟨_, _, K.out⟩, FR.out⟩

end Go.Proofs.YtnfgdlkiialnnaaGreatDoor

namespace Go.Proofs.YtnfgdlkiialnnaaGreatDoor
open Go.RowKit

/-- the members of a file -/
structure MemsAt (W : World) (mg : Nat) (gs : List Nat) (ms : List (Lk.Obj × Bool)) : Prop where
 len : gs.length = ms.length
 row : ∃ cur, BlkAt W mg cur 152 ∧ ∀ i (h : i < ms.length), cur[i * 2]? = some (ptrV (gs[i]'(by rw [len]; exact h))) ∧ cur[i * 2 + 1]? = some (.bool ms[i].2)
 objs : ∀ i (h : i < ms.length), ObjAt W (gs[i]'(by rw [len]; exact h)) ms[i].1
 syms : ∀ m ∈ ms, m.1.syms.length ≤ 65535

/-- blocks but of these types, and but one, are kept -/
def FrameX (ts : List TypeId) (mg : Nat) (W W' : World) : Prop := ∀ k cs t, BlkAt W k cs t → t ∉ ts → k ≠ mg → BlkAt W' k cs t
theorem FrameX.refl (ts : List TypeId) (mg : Nat) (W : World) : FrameX ts mg W W := fun _ _ _ h _ _ => h
theorem Frame.x {ts : List TypeId} {A B : World} (h : Frame ts A B) (mg : Nat) : FrameX ts mg A B := fun k cs t hb ht _ => h k cs t hb ht
theorem FrameX.trans {ts : List TypeId} {mg : Nat} {A B C : World} (h : FrameX ts mg A B) (k : FrameX ts mg B C) : FrameX ts mg A C := fun b cs t hb ht hn => k b cs t (h b cs t hb ht hn) ht hn
theorem FrameX.set (ts : List TypeId) (W : World) (mg o : Nat) (v : Value) : FrameX ts mg W (W.setCell ⟨mg, o, none⟩ v) := fun _ _ _ hb _ hn => hb.grown (grown_set W mg o v) (by simp; omega)

def untaken (ms : List (Lk.Obj × Bool)) : Nat := (ms.filter fun m => !m.2).length

section
variable {W W' : World} {mg : Nat} {gs : List Nat} {ms : List (Lk.Obj × Bool)}
theorem MemsAt.frame {ts : List TypeId} (h : MemsAt W mg gs ms) (hf : Frame ts W W') (h0 : 152 ∉ ts) (h1 : 90 ∉ ts) (h2 : 3 ∉ ts) (h3 : 124 ∉ ts) (h4 : 139 ∉ ts) : MemsAt W' mg gs ms := by
 obtain ⟨cur, hb, hc⟩ := h.row
 exact ⟨h.len, ⟨cur, hf _ _ _ hb h0, hc⟩, fun i hi => hf.obj (h.objs i hi) h1 h2 h3 h4, h.syms⟩
theorem MemsAt.kept (h : MemsAt W mg gs ms) (hg : W.grownBy W' none) : MemsAt W' mg gs ms := h.frame (ts := []) (Frame.grown hg) (by simp) (by simp) (by simp) (by simp) (by simp)
theorem MemsAt.cells (h : MemsAt W mg gs ms) (i : Nat) (hi : i < ms.length) : W.cell? ⟨mg, i * 2, none⟩ = some (ptrV (gs[i]'(by rw [h.len]; exact hi))) ∧ W.cell? ⟨mg, i * 2 + 1, none⟩ = some (.bool ms[i].2) ∧ W.frozen? ⟨mg, i * 2 + 1, none⟩ = false := by
 obtain ⟨cur, hb, hc⟩ := h.row
 exact ⟨(hb.cell _).trans (hc i hi).1, (hb.cell _).trans (hc i hi).2, hb.free _⟩
/-- one is taken -/
theorem MemsAt.put (h : MemsAt W mg gs ms) (i : Nat) (hi : i < ms.length) : MemsAt (W.setCell ⟨mg, i * 2 + 1, none⟩ (.bool true)) mg gs (ms.set i (ms[i].1, true)) := by
 obtain ⟨cur, hb, hc⟩ := h.row
 have RT := RowT.blk hb
 have gs' := grown_set W mg (i * 2 + 1) (.bool true)
 have hsz : i * 2 + 1 < cur.size := by
  have := (hc i hi).2
  exact (Array.getElem?_eq_some_iff.1 this).1
 refine ⟨by rw [List.length_set]; exact h.len, ⟨_, hb.set (i * 2 + 1) (.bool true), fun j hj => ?_⟩, fun j hj => ?_, fun m hm => ?_⟩
 ·rw [List.length_set] at hj
  rw [Array.getElem?_setIfInBounds, Array.getElem?_setIfInBounds, if_neg (by omega)]
  refine ⟨(hc j hj).1, ?_⟩
  by_cases e : i = j
  ·subst e
   rw [if_pos rfl, if_pos hsz, List.getElem_set_self]
  ·rw [if_neg (by omega), List.getElem_set_ne e]
   exact (hc j hj).2
 ·rw [List.length_set] at hj
  have e : (ms.set i (ms[i].1, true))[j].1 = ms[j].1 := by
   by_cases e : i = j
   ·subst e; rw [List.getElem_set_self]
   ·rw [List.getElem_set_ne e]
  rw [e]
  exact obj_ty (h.objs j hj) gs' RT (by decide) (by decide) (by decide) (by decide)
 ·obtain ⟨j, hj, rfl⟩ := List.getElem_of_mem hm
  rw [List.length_set] at hj
  by_cases e : i = j
  ·subst e; rw [List.getElem_set_self]; exact h.syms ms[i] (List.getElem_mem hi)
  ·rw [List.getElem_set_ne e]; exact h.syms _ (List.getElem_mem hj)
end

theorem pass_drop (ms : List (Lk.Obj × Bool)) (k : Nat) (os : List Lk.Obj) (h : k < ms.length) : Ln.pass (ms.drop k) os = if ms[k].2 = false ∧ Ln.needs os ms[k].1 = true then ((ms[k].1, true) :: (Ln.pass (ms.drop (k + 1)) (os ++ [ms[k].1])).1, (Ln.pass (ms.drop (k + 1)) (os ++ [ms[k].1])).2.1, true) else (ms[k] :: (Ln.pass (ms.drop (k + 1)) os).1, (Ln.pass (ms.drop (k + 1)) os).2.1, (Ln.pass (ms.drop (k + 1)) os).2.2) := by
 rw [List.drop_eq_getElem_cons h]
 generalize ms[k] = m
 obtain ⟨o, t⟩ := m
 rw [Ln.pass]

theorem untaken_set : ∀ (ms : List (Lk.Obj × Bool)) (i : Nat) (h : i < ms.length) (o : Lk.Obj), ms[i].2 = false → untaken (ms.set i (o, true)) + 1 = untaken ms := by
 intro ms
 induction ms with
 | nil => intro i h; simp at h
 | cons m ms ih =>
  intro i h o hf
  obtain ⟨mo, mt⟩ := m
  cases i with
  | zero =>
   simp only [List.getElem_cons_zero] at hf
   subst hf
   simp [untaken]
  | succ i =>
   have := ih i (by simpa using h) o (by simpa using hf)
   unfold untaken at this ⊢
   simp only [List.set_cons_succ, List.filter_cons]
   split <;> (try simp only [List.length_cons]) <;> omega
theorem untaken_le (ms : List (Lk.Obj × Bool)) : untaken ms ≤ ms.length := List.length_filter_le _ _

structure PassInv (ms1 : List (Lk.Obj × Bool)) (os1 : List Lk.Obj) (j : Nat) (ms2 : List (Lk.Obj × Bool)) (os2 : List Lk.Obj) (more : Bool) : Prop where
 len : ms2.length = ms1.length
 rest : ms2.drop j = ms1.drop j
 eq : Ln.pass ms1 os1 = (ms2.take j ++ (Ln.pass (ms1.drop j) os2).1, (Ln.pass (ms1.drop j) os2).2.1, more || (Ln.pass (ms1.drop j) os2).2.2)
 un : untaken ms2 + (if more then 1 else 0) ≤ untaken ms1
theorem PassInv.start (ms : List (Lk.Obj × Bool)) (os : List Lk.Obj) : PassInv ms os 0 ms os false := ⟨rfl, rfl, by simp, by simp⟩
theorem PassInv.at {ms1 ms2 : List (Lk.Obj × Bool)} {os1 os2 : List Lk.Obj} {j : Nat} {more : Bool} (h : PassInv ms1 os1 j ms2 os2 more) (hj : j < ms1.length) : ms2[j]'(by rw [h.len]; exact hj) = ms1[j] := by
 have e := h.rest
 rw [List.drop_eq_getElem_cons (by rw [h.len]; exact hj), List.drop_eq_getElem_cons hj] at e
 exact (List.cons.inj e).1
theorem PassInv.yes {ms1 ms2 : List (Lk.Obj × Bool)} {os1 os2 : List Lk.Obj} {j : Nat} {more : Bool} (h : PassInv ms1 os1 j ms2 os2 more) (hj : j < ms1.length) (hj2 : j < ms2.length) (h1 : ms2[j].2 = false) (h2 : Ln.needs os2 ms2[j].1 = true) : PassInv ms1 os1 (j + 1) (ms2.set j (ms2[j].1, true)) (os2 ++ [ms2[j].1]) true := by
 have ea := h.at hj
 have e := h.eq
 rw [pass_drop ms1 j os2 hj, ← ea, if_pos ⟨h1, h2⟩] at e
 refine ⟨by rw [List.length_set]; exact h.len, ?_, ?_, ?_⟩
 ·have r := h.rest
  rw [List.drop_set_of_lt (by omega), ← List.drop_drop (i := 1) (j := j), ← List.drop_drop (i := 1) (j := j) (l := ms1), r]
 ·rw [e]
  have t : (ms2.set j (ms2[j].1, true)).take (j + 1) = ms2.take j ++ [(ms2[j].1, true)] := by
   rw [List.take_succ_eq_append_getElem (by rw [List.length_set]; exact hj2), List.getElem_set_self, List.take_set_of_le (by omega)]
  rw [t]
  simp
 ·have := untaken_set ms2 j hj2 ms2[j].1 h1
  have u := h.un
  simp only [if_true]
  omega
theorem PassInv.no {ms1 ms2 : List (Lk.Obj × Bool)} {os1 os2 : List Lk.Obj} {j : Nat} {more : Bool} (h : PassInv ms1 os1 j ms2 os2 more) (hj : j < ms1.length) (hj2 : j < ms2.length) (h1 : ¬ (ms2[j].2 = false ∧ Ln.needs os2 ms2[j].1 = true)) : PassInv ms1 os1 (j + 1) ms2 os2 more := by
 have ea := h.at hj
 have e := h.eq
 rw [pass_drop ms1 j os2 hj, ← ea, if_neg h1] at e
 refine ⟨h.len, ?_, ?_, h.un⟩
 ·have r := h.rest
  rw [← List.drop_drop (i := 1) (j := j), ← List.drop_drop (i := 1) (j := j) (l := ms1), r]
 ·rw [e, List.take_succ_eq_append_getElem hj2, List.append_assoc]
  rfl
theorem PassInv.fin {ms1 ms2 : List (Lk.Obj × Bool)} {os1 os2 : List Lk.Obj} {j : Nat} {more : Bool} (h : PassInv ms1 os1 j ms2 os2 more) (hj : j = ms1.length) : Ln.pass ms1 os1 = (ms2, os2, more) := by
 have e := h.eq
 subst hj
 rw [List.drop_length, Ln.pass, List.take_of_length_le (by rw [h.len]; exact Nat.le_refl _)] at e
 rw [e]
 simp

set_option maxRecDepth 100000 in
set_option maxHeartbeats 8000000 in
theorem takeArchive_any (W0 : World) (P : Nat) (bt bf bd : Int) (vm : Value) (bl gl : List Nat) (os : List Lk.Obj) (mg cm : Nat) (gs : List Nat) (ms : List (Lk.Obj × Bool)) (W : World) (h : GatAt W0 P bt bf bd vm bl gl os W) (hm : MemsAt W mg gs ms) (hc : bl.length + untaken ms ≤ 4096) (hml : W0.heap.size ≤ mg) (hn : ms.length ≤ 4096) (hcm : ms.length ≤ cm ∧ cm ≤ maxLen) :
  Calls Tryz.prog 89 #[ptrV P, .slice (some ⟨mg, 0, none⟩) ms.length cm] W fun e W' => e = .returned (.tuple #[]) ∧ (∃ vm' bl' gl', GatAt W0 P bt bf bd vm' bl' gl' (Ln.takeArch (ms.length + 1) ms os) W' ∧ bl'.length ≤ bl.length + untaken ms) ∧ FrameX [113, 117] mg W W' := by
 have H := hid h
 have HM := hid hm
 have hcm1 := hcm.2
 unfold maxLen at hcm1
 clear h hm
 unfold ptrV
 go_enter Tryz.func89, Tryz.ntmps89
 obtain ⟨T, hT⟩ : ∃ T, T = Ln.takeArch (ms.length + 1) ms os := ⟨_, rfl⟩
 rw [← hT]
 have HT := hid hT
 clear hT
 have hu := untaken_le ms
 go_wp2
 go_loopg [4] (ms.length + 1) (fun g mo wr => ∃ (more : Bool) (ms1 : List (Lk.Obj × Bool)) (os1 : List Lk.Obj) (bl1 gl1 : List Nat) (vm1 : Value), mo = .bool more ∧ GatAt W0 P bt bf bd vm1 bl1 gl1 os1 wr ∧ MemsAt wr mg gs ms1 ∧ ms1.length = ms.length ∧ bl1.length + untaken ms1 ≤ bl.length + untaken ms ∧ FrameX [113, 117] mg W wr ∧ (more = true → untaken ms1 + 1 ≤ g ∧ T = Ln.takeArch g ms1 os1) ∧ (more = false → T = os1))
 case atStart => exact ⟨true, ms, os, bl, gl, vm, rfl, H.out, HM.out, rfl, Nat.le_refl _, FrameX.refl _ _ _, fun _ => ⟨by omega, HT.out⟩, fun c => by cases c⟩
 case round =>
  obtain ⟨more, ms1, os1, bl1, gl1, vm1, rfl, hg, hm, hl, hb, hfr, hy, hno⟩ := hrel
  cases more with
  | false =>
   have E := hid (hno rfl)
   have HG := hid hg
   have HFR := hid hfr
   clear hg hm hfr hy hno
   go_wp2
   go_end0
   rw [E.out]
   exact ⟨rfl, ⟨vm1, bl1, gl1, HG.out, by omega⟩, HFR.out⟩
  | true =>
   obtain ⟨hk, hE⟩ := hy rfl
   obtain ⟨gk', rfl⟩ : ∃ k, gk = k + 1 := ⟨gk - 1, by omega⟩
   have E := hid hE
   have HG := hid hg
   have HM1 := hid hm
   have HFR := hid hfr
   clear hg hm hfr hy hno hE
   obtain ⟨U, hU⟩ : ∃ U : World, U = wr := ⟨_, rfl⟩
   subst hU
   go_wp2
   go_loopw [4, 9] (fun mo i wr => ∃ (j : Nat) (more2 : Bool) (ms2 : List (Lk.Obj × Bool)) (os2 : List Lk.Obj) (bl2 gl2 : List Nat) (vm2 : Value), j ≤ ms.length ∧ i = .int .i64 j ∧ mo = .bool more2 ∧ GatAt W0 P bt bf bd vm2 bl2 gl2 os2 wr ∧ MemsAt wr mg gs ms2 ∧ PassInv ms1 os1 j ms2 os2 more2 ∧ bl2.length + untaken ms2 ≤ bl.length + untaken ms ∧ FrameX [113, 117] mg W wr) (fun _ i _ => ms.length - (intOf i).toNat)
   case atStart => exact ⟨0, false, ms1, os1, bl1, gl1, vm1, Nat.zero_le _, rfl, rfl, HG.out, HM1.out, PassInv.start _ _, hb, HFR.out⟩
   case round =>
    obtain ⟨j, more2, ms2, os2, bl2, gl2, vm2, hj, rfl, rfl, hg2, hm2, hp2, hb2, hf2⟩ := hrel
    have HG2 := hid hg2
    have HM2 := hid hm2
    have HP2 := hid hp2
    have HF2 := hid hf2
    clear hg2 hm2 hp2 hf2
    by_cases hlt : j < ms.length
    ·have hj1 : j < ms1.length := by omega
     have hj2 : j < ms2.length := by rw [HP2.out.len]; exact hj1
     obtain ⟨m0, m1, m1f⟩ := HM2.out.cells j hj2
     have g1 : (j : Int) < (ms.length : Int) := by omega
     have YES := hid (HP2.out.yes hj1 hj2)
     have NO := hid (HP2.out.no hj1 hj2)
     have OB := hid (HM2.out.objs j hj2)
     have SY := HM2.out.syms ms2[j] (List.getElem_mem hj2)
     have PT := hid (fun V (hV : MemsAt V mg gs ms2) => hV.put j hj2)
     have US := hid (untaken_set ms2 j hj2 ms2[j].1)
     generalize ms2[j] = mj at *
     obtain ⟨oj, tj⟩ := mj
     dsimp only at *
     unfold ptrV at m0
     generalize hgj : gs[j]'_ = gj at *
     have Q0 := hid hgj
     clear hgj
     cases tj with
     | true =>
      have E2 := hid (NO.out (fun c => by cases c.1))
      go_wp2
      go_roundw
      case rel => exact ⟨j + 1, more2, ms2, os2, bl2, gl2, vm2, by omega, by go_num, rfl, HG2.out, HM2.out, E2.out, hb2, HF2.out⟩
      case measure => simp [intOf]; omega
     | false =>
      obtain ⟨am, cm2, hvm⟩ := own_form HG2.out.row
      subst hvm
      have c3 : wr.cell? ⟨P, 3, none⟩ = some (.slice am bl2.length cm2) := HG2.out.blk.cell 3
      have cN := hid (needs_any P am cm2 bl2 os2 gj oj wr c3 HG2.out.modsIn OB.out SY)
      clear c3
      go_wp2_with fail
      refine cN.out.mono ?_
      rintro e W5 ⟨rfl, h5⟩
      have HG5 := hid (HG2.out.kept h5)
      have HM5 := hid (HM2.out.kept h5)
      have HF5 := hid (HF2.out.trans ((Frame.grown h5).x mg))
      have OB5 := hid (OB.out.kept h5)
      have m0' := gcell m0 h5
      have m1' := gcell m1 h5
      clear h5 cN m0 m1 m1f
      obtain ⟨-, -, m1f⟩ := HM5.out.cells j hj2
      cases hn2 : Ln.needs os2 oj with
      | false =>
       have E2 := hid (NO.out (fun c => by rw [hn2] at c; cases c.2))
       clear hn2
       go_wp2
       go_roundw
       case rel => exact ⟨j + 1, more2, ms2, os2, bl2, gl2, _, by omega, by go_num, rfl, HG5.out, HM5.out, E2.out, hb2, HF5.out⟩
       case measure => simp [intOf]; omega
      | true =>
       have E2 := hid (YES.out trivial hn2)
       have hus := US.out trivial
       clear hn2
       obtain ⟨cur, hcb, -⟩ := HM5.out.row
       have RM := RowT.blk hcb
       have GS := grown_set W5 mg (j * 2 + 1) (.bool true)
       have HG6 := hid (HG5.out.ty GS RM (by intro k e; simp at e; omega) (by decide) (by decide) (by decide) (by decide) (by decide) (by decide) (by decide))
       have HM6 := hid (PT.out W5 HM5.out)
       have OB6 := hid (obj_ty OB5.out GS RM (by decide) (by decide) (by decide) (by decide))
       have HF6 := hid (HF5.out.trans (FrameX.set _ W5 mg (j * 2 + 1) (.bool true)))
       have n0 : (W5.setCell ⟨mg, j * 2 + 1, none⟩ (.bool true)).cell? ⟨mg, j * 2, none⟩ = some (.pointer (some ⟨gj, 0, none⟩)) := by
        obtain ⟨q0, -, -⟩ := HM6.out.cells j (by rw [List.length_set]; exact hj2)
        exact q0.trans (by rw [← Q0.out]; rfl)
       clear hcb RM GS PT
       have cT := hid (take_any W0 P bt bf bd _ bl2 gl2 os2 gj oj _ HG6.out OB6.out (by omega) SY)
       unfold ptrV at cT
       go_wp2_with fail
       refine cT.out.mono ?_
       rintro e W7 ⟨rfl, ⟨vm7, b7, h7⟩, f7⟩
       have HG7 := hid h7
       have HM7 := hid (HM6.out.frame f7 (by decide) (by decide) (by decide) (by decide) (by decide))
       have HF7 := hid (HF6.out.trans (f7.x mg))
       clear h7 f7 cT n0 m0' m1' m1f
       go_wp2
       go_roundw
       case rel => exact ⟨j + 1, true, _, _, _, _, _, by omega, by go_num, rfl, HG7.out, HM7.out, E2.out, by simp; omega, HF7.out⟩
       case measure => simp [intOf]; omega
    ·obtain rfl : j = ms.length := by omega
     have E2 := hid (HP2.out.fin (by omega))
     have g3 : decide ((ms.length : Int) < (ms.length : Int)) = false := by simp
     have TE := hid (show T = if (Ln.pass ms1 os1).2.2 = true then Ln.takeArch gk' (Ln.pass ms1 os1).1 (Ln.pass ms1 os1).2.1 else (Ln.pass ms1 os1).2.1 from E.out)
     rw [E2.out] at TE
     dsimp only at TE
     have hun := HP2.out.un
     have hl2 := HP2.out.len
     go_wp2
     go_roundg gk'
     case measure => omega
     case rel =>
      refine ⟨more2, ms2, os2, bl2, gl2, vm2, rfl, HG2.out, HM2.out, by omega, hb2, HF2.out, fun c => ?_, fun c => ?_⟩
      ·subst c
       simp only [if_true] at hun
       exact ⟨by omega, by rw [TE.out, if_pos rfl]⟩
      ·subst c
       rw [TE.out, if_neg (by decide)]

end Go.Proofs.YtnfgdlkiialnnaaGreatDoor
