/- Walks over package image: regionsFit. -/
/- Walks over package image: valid, Read; Load. -/
/- A law: noughts appended. -/
/- Walks over the document's answer: parts of images. -/
/- Walks over the document's answer: ParseImage. -/
import Derived.Test.YthlncpgpadcjiaaG02
import Derived.Deep.RegionWith
import Derived.Deep.CutRange
import Derived.Laws.AppendOwn
namespace Go.Proofs.Ythlncpgpadcjiaa
open Go.RowKit

namespace Im
def endT (m : Img) : Int := m.text + 4 * (m.T.length : Int)
def endF (m : Img) : Int := m.far + 4 * (m.F.length : Int)
def endD (m : Img) : Int := m.data + 4 * ((m.D.length : Int) + m.noughts)
def Fits (m : Img) : Prop := (endT m ≤ 1073741824 ∧ endF m ≤ 1073741824 ∧ endD m ≤ 1073741824) ∧ (¬ Meet m.text (endT m) m.far (endF m) ∧ ¬ Meet m.text (endT m) m.data (endD m) ∧ ¬ Meet m.far (endF m) m.data (endD m))
end Im

def regC (a b : Int) : Array Value := #[.int .i64 a, .int .i64 b]
theorem two_regions (w : World) (a b : Int) : BlkAt ((w.alloc (.cells (regC a b) 64)).alloc (.cells (regC a b) 64)).drew w.heap.size (regC a b) 64 ∧
    BlkAt ((w.alloc (.cells (regC a b) 64)).alloc (.cells (regC a b) 64)).drew (w.heap.size + 1) (regC a b) 64 ∧ w.grownBy ((w.alloc (.cells (regC a b) 64)).alloc (.cells (regC a b) 64)).drew none := by
  have b1 := BlkAt.new w (regC a b) 64
  have b2 := BlkAt.new (w.alloc (.cells (regC a b) 64)) (regC a b) 64
  rw [show (w.alloc (.cells (regC a b) 64)).heap.size = w.heap.size + 1 from Array.size_push _] at b2
  exact ⟨(b1.grown (World.grownBy_alloc _ _ none) (by simp)).drewN 1, b2.drewN 1, grown_drew (grown_trans (World.grownBy_alloc _ _ none) (World.grownBy_alloc _ _ none))⟩

set_option maxHeartbeats 8000000 in
theorem regionsFit_any (g : Nat) (m : Im.Img) (w : World) (h : ImgAt w g m) (ht : Im.Tame m) :
    Calls Try.prog 21 #[.pointer (some ⟨g, 0, none⟩)] w fun e w' => Tells e (Im.Fits m) ∧ w.grownBy w' none := by
  obtain ⟨at_, ct, af, cf, ad, cd, hb, q1, q2, q3⟩ := h.open
  have HB := hid hb
  have hl := ht.lens
  have hn := ht.noughts
  have r1 := ht.text
  have r2 := ht.far
  have r3 := ht.data
  have cT := hid (fun W => regionOf_any m.text m.T.length W ht.text.1 ht.text.2 (by omega) (by omega))
  have cF := hid (fun W => regionOf_any m.far m.F.length W ht.far.1 ht.far.2 (by omega) (by omega))
  have cD := hid (fun W => regionOf_any m.data (m.D.length + m.noughts) W ht.data.1 ht.data.2 (by omega) (by omega))
  have F0 := hid (show Im.Fits m ↔ (Im.endT m ≤ 1073741824 ∧ Im.endF m ≤ 1073741824 ∧ Im.endD m ≤ 1073741824) ∧ (¬ Im.Meet m.text (Im.endT m) m.far (Im.endF m) ∧ ¬ Im.Meet m.text (Im.endT m) m.data (Im.endD m) ∧ ¬ Im.Meet m.far (Im.endF m) m.data (Im.endD m)) from Iff.rfl)
  generalize Im.Fits m = Q at *
  have ww : IntKind.i64.wrap ((m.D.length : Int) + m.noughts) = (m.D.length : Int) + m.noughts := IntWalk.i64_in _ ⟨by omega, by omega⟩
  clear h ht hb q1 q2 q3
  have k1 := HB.out.cell 1
  have k4 := HB.out.cell 4
  simp only [List.getElem?_toArray, List.getElem?_cons_succ, List.getElem?_cons_zero] at k1 k4
  have hlt := HB.out.lt
  have hne : g ≠ w.heap.size := by omega
  go_enter Try.func21, Try.ntmps21
  go_upto_region 1 with fail
  go_cut [3] from 6 to 16 (fun v wx => ∃ r, v = .pointer (some ⟨r, 0, none⟩) ∧ BlkAt wx r (regC m.text (Im.endT m)) 64 ∧ w.grownBy wx none)
  case first =>
    go_region_with (go_at_call 23; refine (cT.out _).mono ?_; rintro e w' ⟨rfl, rfl⟩)
    all_goals (go_wp2_with fail; go_meet; first | exact ⟨w.heap.size, rfl, (two_regions w m.text (Im.endT m)).1, (two_regions w m.text (Im.endT m)).2.2⟩ | exact ⟨w.heap.size + 1, rfl, (two_regions w m.text (Im.endT m)).2.1, (two_regions w m.text (Im.endT m)).2.2⟩)
  case rest =>
  obtain ⟨ra, rfl, b1, g1⟩ := hcut
  clear k1 k4 hlt hne cT
  generalize wc = W1 at *
  have HB1 := hid (HB.out.grown g1 (by simp))
  have P1 := hid b1
  have G1 := hid g1
  clear b1 g1 HB
  have k2 := HB1.out.cell 2
  have k5 := HB1.out.cell 5
  simp only [List.getElem?_toArray, List.getElem?_cons_succ, List.getElem?_cons_zero] at k2 k5
  have hlt := HB1.out.lt
  have hne : g ≠ W1.heap.size := by omega
  go_upto_region 2 with fail
  go_cut [4] from 17 to 27 (fun v wx => ∃ r, v = .pointer (some ⟨r, 0, none⟩) ∧ BlkAt wx r (regC m.far (Im.endF m)) 64 ∧ W1.grownBy wx none)
  case first =>
    go_region_with (go_at_call 23; refine (cF.out _).mono ?_; rintro e w' ⟨rfl, rfl⟩)
    all_goals (go_wp2_with fail; go_meet; first | exact ⟨W1.heap.size, rfl, (two_regions W1 m.far (Im.endF m)).1, (two_regions W1 m.far (Im.endF m)).2.2⟩ | exact ⟨W1.heap.size + 1, rfl, (two_regions W1 m.far (Im.endF m)).2.1, (two_regions W1 m.far (Im.endF m)).2.2⟩)
  case rest =>
  obtain ⟨rb, rfl, b1, g1⟩ := hcut
  clear k2 k5 hlt hne cF
  generalize wc = W2 at *
  have HB2 := hid (HB1.out.grown g1 (by simp))
  have P1' := hid (P1.out.grown g1 (by simp))
  have P2 := hid b1
  have G2 := hid (grown_trans G1.out g1)
  clear b1 g1 HB1 P1 G1
  have k3 := HB2.out.cell 3
  have k6 := HB2.out.cell 6
  have k7 := HB2.out.cell 7
  simp only [List.getElem?_toArray, List.getElem?_cons_succ, List.getElem?_cons_zero] at k3 k6 k7
  have hlt := HB2.out.lt
  have hne : g ≠ W2.heap.size := by omega
  go_upto_region 3 with fail
  go_cut [5] from 28 to 43 (fun v wx => ∃ r, v = .pointer (some ⟨r, 0, none⟩) ∧ BlkAt wx r (regC m.data (Im.endD m)) 64 ∧ W2.grownBy wx none)
  case first =>
    go_region_with (go_at_call 23; refine (cD.out _).mono ?_; rintro e w' ⟨rfl, rfl⟩)
    all_goals (go_wp2_with fail; go_meet; first | exact ⟨W2.heap.size, rfl, (two_regions W2 m.data (Im.endD m)).1, (two_regions W2 m.data (Im.endD m)).2.2⟩ | exact ⟨W2.heap.size + 1, rfl, (two_regions W2 m.data (Im.endD m)).2.1, (two_regions W2 m.data (Im.endD m)).2.2⟩)
  case rest =>
  obtain ⟨rc, rfl, b1, g1⟩ := hcut
  clear k3 k6 k7 hlt hne cD
  generalize wc = W3 at *
  have B1 := hid (P1'.out.grown g1 (by simp))
  have B2 := hid (P2.out.grown g1 (by simp))
  have B3 := hid b1
  have G := hid (grown_trans G2.out g1)
  clear b1 g1 HB2 P1' P2 G2
  generalize Im.endT m = eT at *
  generalize Im.endF m = eF at *
  generalize Im.endD m = eD at *
  have a0 := B1.out.cell 0
  have a1 := B1.out.cell 1
  have c0 := B2.out.cell 0
  have c1 := B2.out.cell 1
  have d0 := B3.out.cell 0
  have d1 := B3.out.cell 1
  simp only [regC, List.getElem?_toArray, List.getElem?_cons_succ, List.getElem?_cons_zero] at a0 a1 c0 c1 d0 d1
  by_cases z1 : 1073741824 < eT
  · have e1 : decide (1073741824 < eT) = true := by simpa using z1
    have N := hid (show ¬ Q from fun q => by have := (F0.out.1 q).1.1; omega)
    clear z1
    go_wp2
    go_ret
    exact ⟨Tells.no N.out, G.out⟩
  · have e1 : decide (1073741824 < eT) = false := by simpa using z1
    by_cases z2 : 1073741824 < eF
    · have e2 : decide (1073741824 < eF) = true := by simpa using z2
      have N := hid (show ¬ Q from fun q => by have := (F0.out.1 q).1.2.1; omega)
      clear z1 z2
      go_wp2
      go_ret
      exact ⟨Tells.no N.out, G.out⟩
    · have e2 : decide (1073741824 < eF) = false := by simpa using z2
      by_cases z3 : 1073741824 < eD
      · have e3 : decide (1073741824 < eD) = true := by simpa using z3
        have N := hid (show ¬ Q from fun q => by have := (F0.out.1 q).1.2.2; omega)
        clear z1 z2 z3
        go_wp2
        go_ret
        exact ⟨Tells.no N.out, G.out⟩
      · have e3 : decide (1073741824 < eD) = false := by simpa using z3
        have LE := hid (show eT ≤ 1073741824 ∧ eF ≤ 1073741824 ∧ eD ≤ 1073741824 by omega)
        clear z1 z2 z3
        go_wp2_with fail
        refine (meet_any m.text eT m.far eF W3).mono ?_
        rintro e V1 ⟨t1, h1⟩
        have G1 := hid (grown_trans G.out h1)
        replace a0 := gcell a0 h1
        replace a1 := gcell a1 h1
        replace c0 := gcell c0 h1
        replace c1 := gcell c1 h1
        replace d0 := gcell d0 h1
        replace d1 := gcell d1 h1
        rcases t1.split with ⟨rfl, p1⟩ | ⟨rfl, p1⟩ <;> clear t1 h1
        · go_wp2_with fail
          refine (meet_any m.text eT m.data eD V1).mono ?_
          rintro e V2 ⟨t2, h2⟩
          have G2 := hid (grown_trans G1.out h2)
          replace a0 := gcell a0 h2
          replace a1 := gcell a1 h2
          replace c0 := gcell c0 h2
          replace c1 := gcell c1 h2
          replace d0 := gcell d0 h2
          replace d1 := gcell d1 h2
          rcases t2.split with ⟨rfl, p2⟩ | ⟨rfl, p2⟩ <;> clear t2 h2
          · go_wp2_with fail
            refine (meet_any m.far eF m.data eD V2).mono ?_
            rintro e V3 ⟨t3, h3⟩
            have G3 := hid (grown_trans G2.out h3)
            rcases t3.split with ⟨rfl, p3⟩ | ⟨rfl, p3⟩ <;> clear t3 h3
            · go_wp2
              go_ret
              exact ⟨Tells.yes (F0.out.2 ⟨LE.out, p1.out, p2.out, p3.out⟩), G3.out⟩
            · go_wp2
              go_ret
              exact ⟨Tells.no fun q => (F0.out.1 q).2.2.2 p3.out, G3.out⟩
          · go_wp2
            go_ret
            exact ⟨Tells.no fun q => (F0.out.1 q).2.2.1 p2.out, G2.out⟩
        · go_wp2
          go_ret
          exact ⟨Tells.no fun q => (F0.out.1 q).2.1 p1.out, G1.out⟩

end Go.Proofs.Ythlncpgpadcjiaa

namespace Go.Proofs.Ythlncpgpadcjiaa
open Go.RowKit

theorem imgOk_iff (m : Im.Img) : Im.ImgOk m ↔ (Im.Base m.text ∧ Im.Base m.far ∧ Im.Base m.data) ∧ Im.Fits m ∧ (Im.code m m.start).isSome = true := by
  rw [Im.code_iff]
  unfold Im.ImgOk Im.Fits Im.endT Im.endF Im.endD
  constructor
  · rintro ⟨a, b, c, d⟩; exact ⟨a, ⟨b, c⟩, d⟩
  · rintro ⟨a, ⟨b, c⟩, d⟩; exact ⟨a, b, c, d⟩

set_option maxHeartbeats 4000000 in
theorem imgValid_any (g : Nat) (m : Im.Img) (w : World) (h : ImgAt w g m) (ht : Im.Tame m) :
    Calls Try.prog 15 #[.pointer (some ⟨g, 0, none⟩)] w fun e w' => Tells e (Im.ImgOk m) ∧ w.grownBy w' none := by
  have H := hid h
  have HT := hid ht
  obtain ⟨at_, ct, af, cf, ad, cd, hb, -, -, -⟩ := h.open
  have k0 := hb.cell 0
  have k1 := hb.cell 1
  have k2 := hb.cell 2
  have k3 := hb.cell 3
  simp only [List.getElem?_toArray, List.getElem?_cons_succ, List.getElem?_cons_zero] at k0 k1 k2 k3
  have c1 := hid (fun W => isBase_any m.text W ht.text.1 ht.text.2)
  have c2 := hid (fun W => isBase_any m.far W ht.far.1 ht.far.2)
  have c3 := hid (fun W => isBase_any m.data W ht.data.1 ht.data.2)
  have Q0 := hid (imgOk_iff m)
  generalize Im.ImgOk m = Q at *
  clear h ht hb
  go_enter Try.func15, Try.ntmps15
  go_wp2_with fail
  refine (c1.out w).mono ?_
  rintro e V ⟨t, rfl⟩
  rcases t.split with ⟨rfl, p1⟩ | ⟨rfl, p1⟩ <;> clear t c1
  · go_wp2
    go_ret
    exact ⟨Tells.no fun q => p1.out (Q0.out.1 q).1.1, World.grownBy.refl _ _⟩
  go_wp2_with fail
  refine (c2.out _).mono ?_
  rintro e V ⟨t, rfl⟩
  rcases t.split with ⟨rfl, p2⟩ | ⟨rfl, p2⟩ <;> clear t c2
  · go_wp2
    go_ret
    exact ⟨Tells.no fun q => p2.out (Q0.out.1 q).1.2.1, World.grownBy.refl _ _⟩
  go_wp2_with fail
  refine (c3.out _).mono ?_
  rintro e V ⟨t, rfl⟩
  rcases t.split with ⟨rfl, p3⟩ | ⟨rfl, p3⟩ <;> clear t c3
  · go_wp2
    go_ret
    exact ⟨Tells.no fun q => p3.out (Q0.out.1 q).1.2.2, World.grownBy.refl _ _⟩
  go_wp2_with fail
  refine (regionsFit_any g m V H.out HT.out).mono ?_
  rintro e V1 ⟨t, hg⟩
  have G1 := hid hg
  rcases t.split with ⟨rfl, p4⟩ | ⟨rfl, p4⟩ <;> clear t
  · go_wp2
    go_ret
    exact ⟨Tells.no fun q => p4.out (Q0.out.1 q).2.1, G1.out⟩
  replace k0 := gcell k0 hg
  clear hg k1 k2 k3
  go_wp2_with fail
  refine (code_any g m m.start V1 (H.out.kept G1.out) HT.out HT.out.start.1 HT.out.start.2).mono ?_
  rintro e V2 ⟨rfl, n, rfl⟩
  have GF := hid (grown_drewN G1.out n)
  cases hc : (Im.code m m.start).isSome
  · have N := hid (show ¬ Q from fun q => by have := (Q0.out.1 q).2.2; rw [hc] at this; cases this)
    go_wp2
    go_ret
    exact ⟨Tells.no N.out, GF.out⟩
  · have N := hid (show Q from Q0.out.2 ⟨⟨p1.out, p2.out, p3.out⟩, p4.out, hc⟩)
    go_wp2
    go_ret
    exact ⟨Tells.yes N.out, GF.out⟩

end Go.Proofs.Ythlncpgpadcjiaa

namespace Go.Proofs.Ythlncpgpadcjiaa
open Go.RowKit

theorem zeroCells_one (m : Nat) : Builtin.zeroCells #[Value.int .i64 0] m = (List.replicate m (Value.int .i64 0)).toArray := by
  unfold Builtin.zeroCells
  apply Array.ext
  · simp
  · intro i h1 h2
    simp [Nat.mod_one]

theorem run_asIntOf (P : Program) (k : IntKind) (n : Int) (W : World) : Sem.run P (asIntOf (.int k n)) W = .ok (k, n) W := rfl

section
variable {P : Program} (w : World)

theorem run_append_zeros (base : Nat) (t u ty e : TypeId) (i : TypeInfo) (ht : P.underlying t = some (.slice e)) (hu : P.underlying u = some (.int .i64)) (hi : P.info? e = some i) (hz : i.zero = some (.int .i64 0))
    (hsize : i.size = 1) (hby : i.bytes = 8) (v : Value) (n : Nat) (xs : List Value) (hown : w.ownsRow base e 1 v n xs) (m : Nat) (hm : n + m ≤ 1048576) (hbase : base ≤ w.heap.size) :
    ∃ v' w', (Builtin.append_ #[t, u] ty #[v, .int .i64 m]).run P w = .ok v' w' ∧ w'.ownsRow base e 1 v' (n + m) (xs ++ List.replicate m (.int .i64 0)) ∧ w.grownBy w' v.ownBlock := by
  have hwm : IntKind.i64.wrap (m : Int) = (m : Int) := IntWalk.i64_in _ ⟨by omega, by omega⟩
  have hwm0 : IntKind.i64.wrap 0 = 0 := by decide
  have hneg : ¬ ((m : Int) < 0) := by omega
  have h48a : ¬ (281474976710656 < (m : Int) * 8) := by omega
  have hlen : (xs ++ List.replicate m (Value.int .i64 0)).length = (n + m) * 1 := by have := hown.1; simp at this ⊢; omega
  have hxl : xs.length = n := by have := hown.1; simpa using this
  have grown : ∀ (old : Nat) (row : Option Nat),
      (w.drew.alloc (.cells (xs.toArray ++ (List.replicate m (Value.int .i64 0)).toArray ++ Builtin.zeroCells #[.int .i64 0] (grownCap w (n + m) old e - (n + m))) e)).ownsRow base e 1
        (.slice (some ⟨w.heap.size, 0, none⟩) (n + m) (grownCap w (n + m) old e)) (n + m) (xs ++ List.replicate m (.int .i64 0)) ∧
      w.grownBy (w.drew.alloc (.cells (xs.toArray ++ (List.replicate m (Value.int .i64 0)).toArray ++ Builtin.zeroCells #[.int .i64 0] (grownCap w (n + m) old e - (n + m))) e)) row := by
    intro old row
    have hge := grownCap_ge w (n + m) old e
    have hcm : grownCap w (n + m) old e ≤ maxLen := grownCap_le_maxLen w (n + m) old e (by unfold maxLen; omega)
    refine ⟨⟨hlen, .inr ⟨w.heap.size, _, _, rfl, hbase, heap_alloc_new w.drew _, hge, hcm, ?_, ?_⟩⟩, ⟨rfl, rfl, rfl, (World.grownBy_alloc w.drew _ none).size, fun k hk _ => (World.grownBy_alloc w.drew _ none).block k hk (by simp)⟩⟩
    · simp [size_zeroCells]; omega
    · simp only [Array.toList_append, List.append_assoc]
      rw [← List.append_assoc, ← hlen]
      exact List.take_left
  rcases hown.2 with ⟨rfl, rfl⟩ | ⟨g, cap, cur, rfl, hbg, hg, hnc, hcm, hcs, htake⟩
  · have hx : xs = [] := List.eq_nil_of_length_eq_zero hxl
    subst hx
    by_cases hm0 : m = 0
    · refine ⟨.slice none 0 0, w, ?_, by rw [hm0]; exact World.ownsRow_nil w base e 1, ⟨rfl, rfl, rfl, Nat.le_refl _, fun _ _ _ => rfl⟩⟩
      simp [Builtin.append_, run_underlying ht, run_underlying hu, sizeOf, typeInfo, hi, asInt, run_asIntOf, hby, hm0, hwm0]
    · have h48' : ¬ (281474976710656 < Builtin.nextslicecap m 0 * 8) := by rw [nextslicecap_zero (by omega)]; omega
      have h63' : ¬ (9223372036854775807 < (m : Int)) := by omega
      have hgr := grown 0 (Value.ownBlock (.slice none 0 0))
      simp only [Nat.zero_add, List.nil_append, Array.empty_append] at hgr ⊢
      refine ⟨_, _, ?_, hgr.1, hgr.2⟩
      simp [Builtin.append_, run_underlying ht, run_underlying hu, sizeOf, typeInfo, zeroValue, hi, hz, asInt, run_asIntOf, hsize, hby, hwm, hm0, hneg, h48a, h48', h63', Question.forced, run_firstCells_none, newRow, grownCap, zeroCells_one, Value.cells]
  · have h63' : ¬ (9223372036854775807 < (n : Int) + (m : Int)) := by omega
    by_cases hroom : n + m ≤ cap
    · have hfit : n * 1 + (List.replicate m (Value.int .i64 0)).length ≤ cur.size := by rw [hcs]; simp; omega
      have hst := run_storeCells_at P g (n * 1) e (List.replicate m (Value.int .i64 0)) 0 cur w hg (by simpa using hfit) (by intro u hu; rw [List.eq_of_mem_replicate hu]; rfl)
      simp only [Nat.add_zero, Nat.mul_one] at hst
      refine ⟨.slice (some ⟨g, 0, none⟩) (n + m) cap, w.setRow g (cur.toList.take n ++ List.replicate m (Value.int .i64 0) ++ cur.toList.drop (n + m)).toArray, ?_, ⟨hlen, .inr ⟨g, cap, _, rfl, hbg, setRow_heap w g cur _ e _ hg, hroom, hcm, ?_, ?_⟩⟩, ⟨rfl, rfl, rfl, by simp, fun k _ hk => setRow_other w g k _ (fun e => hk (by simp [Value.ownBlock, e]))⟩⟩
      · by_cases hm0 : m = 0
        · have hst0 := hst
          simp [hm0] at hst0
          simp [Builtin.append_, run_underlying ht, run_underlying hu, sizeOf, typeInfo, hi, asInt, run_asIntOf, hsize, hby, hm0, hwm0, hnc, Addr.add_lit, hst0]
        · simp [Builtin.append_, run_underlying ht, run_underlying hu, sizeOf, typeInfo, zeroValue, hi, hz, asInt, run_asIntOf, hsize, hby, hwm, hm0, hneg, h48a, hroom, zeroCells_one, Value.cells, Addr.add_lit, hst]
      · simp only [List.size_toArray, List.length_append, List.length_take, List.length_drop, Array.length_toList, List.length_replicate]
        omega
      · have ht2 : cur.toList.take n = xs := by simpa using htake
        rw [ht2, ← hlen]
        exact List.take_left
    · have holds : ∀ j u, xs[j]? = some u → w.cell? ((⟨g, 0, none⟩ : Addr).add j) = some u := hown.cells (g := g) rfl
      have hgr := grown cap (Value.ownBlock (.slice (some ⟨g, 0, none⟩) n cap))
      have hm0 : m ≠ 0 := by omega
      have hfo := run_firstCells_some (P := P) w.drew 1 n ⟨g, 0, none⟩ n cap xs (by simpa using hxl) (by simpa using holds)
      have h48' : ¬ (281474976710656 < Builtin.nextslicecap (n + m) cap * 8) := by have := growslice_fits (need := n + m) (old := cap) (bytes := 8) (by omega) (by omega); omega
      refine ⟨_, _, ?_, hgr.1, hgr.2⟩
      simp [Builtin.append_, run_underlying ht, run_underlying hu, sizeOf, typeInfo, zeroValue, hi, hz, asInt, run_asIntOf, hsize, hby, hwm, hm0, hneg, h48a, h48', h63', hroom, Question.forced, hfo, newRow, grownCap, zeroCells_one, Value.cells]

theorem wpList_append_zeros {ops : Array Oper} {rest : List Oper} {o : Oper} {a : Act} {Q : Exit → Act → World → Prop} (hgd : o.guard = none) (s x : Operand) (t u : TypeId)
    (ho : o.op = .call { callee := .builtin .append, args := #[s, x], argTypes := #[t, u] })
    (base : Nat) (e : TypeId) (i : TypeInfo) (ht : P.underlying t = some (.slice e)) (hu : P.underlying u = some (.int .i64)) (hi : P.info? e = some i) (hz : i.zero = some (.int .i64 0))
    (hsize : i.size = 1) (hby : i.bytes = 8) (v : Value) (n : Nat) (xs : List Value) (hs : a.eval s = v) (hown : w.ownsRow base e 1 v n xs) (m : Nat) (hx : a.eval x = .int .i64 m) (hm : n + m ≤ 1048576) (hbase : base ≤ w.heap.size)
    (h : ∀ v' w', w'.ownsRow base e 1 v' (n + m) (xs ++ List.replicate m (.int .i64 0)) → w.grownBy w' v.ownBlock → wpList P ops Q rest (a.put o.dst v') w') : wpList P ops Q (o :: rest) a w := by
  refine wpList_plain hgd fun K hK => ?_
  obtain ⟨v', w', hr, h2, h3⟩ := run_append_zeros (P := P) w base t u o.type e i ht hu hi hz hsize hby v n xs hown m hm hbase
  unfold Oper.wp execOp
  simp only [ho, resolve, invoke, builtin, Sem.run_bind, Sem.run_pure, Result.andThen_ok, List.map_toArray, List.map_cons, List.map_nil, hs, hx, hr]
  exact hK _ _ (h v' w' h2 h3)

end
end Go.Proofs.Ythlncpgpadcjiaa

namespace Go.Proofs.Ythlncpgpadcjiaa
open Go.RowKit

namespace Im
def Clear (a : Int) (n : Int) : Prop := (4096 ≤ a ∧ a < 1073741824) ∧ a + 4 * n ≤ 1073741824 ∧ a % 16 = 0
instance (a n : Int) : Decidable (Clear a n) := by unfold Clear; infer_instance
instance (a b c d : Int) : Decidable (Meet a b c d) := by unfold Meet; infer_instance
end Im

theorem ret_bool {a b : Bool} (h : a = b) : Ending.returned (.bool a) = .returned (.bool b) := by rw [h]

set_option maxHeartbeats 2000000 in
theorem clear_any (a n : Int) (w : World) (h0 : 0 ≤ a) (h1 : a < 4294967296) (h2 : 0 ≤ n) (h3 : n ≤ 1048576) :
    Calls Try.prog 9 #[.int .i64 a, .int .i64 n] w fun e w' => e = .returned (.bool (decide (Im.Clear a n))) ∧ w' = w := by
  have e1 : IntKind.i64.wrap (4 * n) = 4 * n := IntWalk.i64_in _ ⟨by omega, by omega⟩
  have e2 : IntKind.i64.wrap (a + 4 * n) = a + 4 * n := IntWalk.i64_in _ ⟨by omega, by omega⟩
  by_cases c1 : 4096 ≤ a
  · have d1 : decide (4096 ≤ a) = true := by simpa using c1
    by_cases c2 : a < 1073741824
    · have d2 : decide (a < 1073741824) = true := by simpa using c2
      by_cases c3 : a + 4 * n ≤ 1073741824
      · have d3 : decide (a + 4 * n ≤ 1073741824) = true := by simpa using c3
        have Q := hid (show decide (Im.Clear a n) = (a % 16 == 0) by rw [Bool.eq_iff_iff]; simp [Im.Clear, c1, c2, c3])
        clear c1 c2 c3
        go_enter Try.func9, Try.ntmps9
        go_wp2
        go_ret
        exact ⟨ret_bool Q.out.symm, rfl⟩
      · have d3 : decide (a + 4 * n ≤ 1073741824) = false := by simpa using c3
        have Q := hid (show decide (Im.Clear a n) = false by simp [Im.Clear, c3])
        clear c1 c2 c3
        go_enter Try.func9, Try.ntmps9
        go_wp2
        go_ret
        exact ⟨ret_bool Q.out.symm, rfl⟩
    · have d2 : decide (a < 1073741824) = false := by simpa using c2
      have Q := hid (show decide (Im.Clear a n) = false by simp [Im.Clear, c2])
      clear c1 c2
      go_enter Try.func9, Try.ntmps9
      go_wp2
      go_ret
      exact ⟨ret_bool Q.out.symm, rfl⟩
  · have d1 : decide (4096 ≤ a) = false := by simpa using c1
    have Q := hid (show decide (Im.Clear a n) = false by simp [Im.Clear, c1])
    clear c1
    go_enter Try.func9, Try.ntmps9
    go_wp2
    go_ret
    exact ⟨ret_bool Q.out.symm, rfl⟩

set_option maxHeartbeats 2000000 in
theorem apart_any (a b c d : Int) (w : World) :
    Calls Try.prog 10 #[.int .i64 a, .int .i64 b, .int .i64 c, .int .i64 d] w fun e w' => e = .returned (.bool (decide (¬ Im.Meet a b c d))) ∧ w' = w := by
  by_cases c1 : a = b
  · have d1 : (a == b) = true := by simpa using c1
    have Q := hid (show decide (¬ Im.Meet a b c d) = true by simp [Im.Meet, c1])
    clear c1
    go_enter Try.func10, Try.ntmps10
    go_wp2
    go_ret
    exact ⟨ret_bool Q.out.symm, rfl⟩
  · have d1 : (a == b) = false := by simpa using c1
    by_cases c2 : c = d
    · have d2 : (c == d) = true := by simpa using c2
      have Q := hid (show decide (¬ Im.Meet a b c d) = true by simp [Im.Meet, c2])
      clear c1 c2
      go_enter Try.func10, Try.ntmps10
      go_wp2
      go_ret
      exact ⟨ret_bool Q.out.symm, rfl⟩
    · have d2 : (c == d) = false := by simpa using c2
      by_cases c3 : b ≤ c
      · have d3 : decide (b ≤ c) = true := by simpa using c3
        have Q := hid (show decide (¬ Im.Meet a b c d) = true by rw [decide_eq_true_iff]; intro h; have := h.2.2.2; omega)
        clear c1 c2 c3
        go_enter Try.func10, Try.ntmps10
        go_wp2
        go_ret
        exact ⟨ret_bool Q.out.symm, rfl⟩
      · have d3 : decide (b ≤ c) = false := by simpa using c3
        have Q := hid (show decide (¬ Im.Meet a b c d) = decide (d ≤ a) by
          rw [Bool.eq_iff_iff, decide_eq_true_iff, decide_eq_true_iff]
          unfold Im.Meet
          omega)
        clear c1 c2 c3
        go_enter Try.func10, Try.ntmps10
        go_wp2
        go_ret
        exact ⟨ret_bool Q.out.symm, rfl⟩

set_option maxHeartbeats 2000000 in
theorem index_any (n : Nat) (base a : Int) (w : World) (h0 : 0 ≤ a) (h1 : a < 4294967296) (h2 : 0 ≤ base) (h3 : base < 4294967296) :
    Calls Try.prog 16 #[.int .i64 a, .int .i64 base, .int .i64 n] w fun e w' => e = .returned (.int .i64 (Im.place base n a)) ∧ w' = w := by
  by_cases c1 : a < base
  · have R := hid (Im.place_out (n := n) (show ¬ Im.In base n a from fun h => by have := h.1; omega))
    have d1 : decide (a < base) = true := by simpa using c1
    clear c1
    go_enter Try.func16, Try.ntmps16
    go_wp2
    go_ret
    rw [R.out]
    exact ⟨rfl, rfl⟩
  · have d1 : decide (a < base) = false := by simpa using c1
    have e1 : IntKind.i64.wrap (a - base) = a - base := IntWalk.i64_in _ ⟨by omega, by omega⟩
    have e2 : (a - base).tmod 4 = (a - base) % 4 := Int.tmod_eq_emod_of_nonneg (by omega)
    have e3 : (a - base).tdiv 4 = (a - base) / 4 := Int.tdiv_eq_ediv_of_nonneg (by omega)
    by_cases c2 : (a - base) % 4 = 0
    · have d2 : ((a - base) % 4 == 0) = true := by simpa using c2
      by_cases c3 : (a - base) / 4 < n
      · have R := hid (Im.place_in (show Im.In base n a from ⟨by omega, c2, c3⟩))
        have d3 : decide ((n : Int) ≤ (a - base) / 4) = false := by simp; omega
        go_enter Try.func16, Try.ntmps16
        go_wp2
        go_ret
        rw [R.out]
        exact ⟨rfl, rfl⟩
      · have R := hid (Im.place_out (show ¬ Im.In base n a from fun h => c3 h.2.2))
        have d3 : decide ((n : Int) ≤ (a - base) / 4) = true := by simp; omega
        go_enter Try.func16, Try.ntmps16
        go_wp2
        go_ret
        rw [R.out]
        exact ⟨rfl, rfl⟩
    · have d2 : ((a - base) % 4 == 0) = false := by simpa using c2
      have R := hid (Im.place_out (n := n) (show ¬ Im.In base n a from fun h => c2 h.2.1))
      go_enter Try.func16, Try.ntmps16
      go_wp2
      go_ret
      rw [R.out]
      exact ⟨rfl, rfl⟩

/-- the document's image in block g -/
def RImgAt (W : World) (g : Nat) (m : Im.Img) : Prop :=
  ∃ vt vf vd, BlkAt W g #[.int .i64 m.start, .int .i64 m.text, .int .i64 m.far, .int .i64 m.data, vt, vf, vd] 42 ∧
    W.ownsRow 0 3 1 vt m.T.length (m.T.map (Value.int .i64)) ∧ W.ownsRow 0 3 1 vf m.F.length (m.F.map (Value.int .i64)) ∧
    W.ownsRow 0 3 1 vd (m.D.length + m.noughts.toNat) ((m.D ++ List.replicate m.noughts.toNat 0).map (Value.int .i64))

set_option maxHeartbeats 4000000 in
theorem fetch_any (g : Nat) (m : Im.Img) (a : Int) (w : World) (h : RImgAt w g m) (ht : Im.Tame m) (h0 : 0 ≤ a) (h1 : a < 4294967296) :
    Calls Try.prog 11 #[.pointer (some ⟨g, 0, none⟩), .int .i64 a] w fun e w' => e = .returned (.tuple #[.int .i64 ((Im.code m a).getD 0), .bool (Im.code m a).isSome]) ∧ ∃ n, w' = w.drewN n := by
  obtain ⟨vt, vf, vd, hb, q1, q2, -⟩ := h
  obtain ⟨at_, ct, rfl⟩ := own_form q1
  obtain ⟨af, cf, rfl⟩ := own_form q2
  have hc1 := own_cap q1
  have hc2 := own_cap q2
  have I1 := hid (IntsIn.of_own q1)
  have I2 := hid (IntsIn.of_own q2)
  have k1 := hb.cell 1
  have k2 := hb.cell 2
  have k4 := hb.cell 4
  have k5 := hb.cell 5
  simp only [List.getElem?_toArray, List.getElem?_cons_succ, List.getElem?_cons_zero] at k1 k2 k4 k5
  have cT := hid (fun W => index_any m.T.length m.text a W h0 h1 ht.text.1 ht.text.2)
  have cF := hid (fun W => index_any m.F.length m.far a W h0 h1 ht.far.1 ht.far.2)
  obtain ⟨X, hX⟩ : ∃ X, X = Im.code m a := ⟨_, rfl⟩
  rw [← hX]
  unfold Im.code at hX
  have RX := hid hX
  have r1 := Im.place_range m.text m.T.length a
  have r2 := Im.place_range m.far m.F.length a
  have L := hid ht.lens
  clear hX ht hb q1 q2
  generalize Im.place m.text m.T.length a = i at *
  generalize Im.place m.far m.F.length a = j at *
  have hl1 := L.out.1
  have hl2 := L.out.2.1
  by_cases ci : 0 ≤ i
  · have d1 : decide (0 ≤ i) = true := by simpa using ci
    have hi : i.toNat < m.T.length := by omega
    obtain ⟨sg, off, rfl, hcell⟩ := I1.out (by omega)
    have hck := hcell i.toNat hi
    rw [if_pos ci] at RX
    have GE := hid (show m.T.getD i.toNat 0 = m.T[i.toNat] from by rw [List.getD_eq_getElem?_getD, List.getElem?_eq_getElem hi]; rfl)
    rw [GE.out] at RX
    have g1 : i < (m.T.length : Int) := by omega
    clear hcell r1 r2 cF I1 I2 L GE
    generalize m.T[i.toNat] = v at *
    obtain ⟨n, rfl⟩ : ∃ n : Nat, i = n := ⟨i.toNat, by omega⟩
    rw [Int.toNat_natCast] at hck hi
    go_enter Try.func11, Try.ntmps11
    go_wp2
    go_quiet ((go_at_call 16; exact Calls.quiet_of_same (cT.out _)))
    go_wp2
    go_ret2
    rw [RX.out]
    exact ⟨rfl, _, rfl⟩
  · have d1 : decide (0 ≤ i) = false := by simpa using ci
    rw [if_neg ci] at RX
    obtain rfl : i = -1 := by omega
    clear I1 r1
    by_cases cj : 0 ≤ j
    · have d2 : decide (0 ≤ j) = true := by simpa using cj
      have hj : j.toNat < m.F.length := by omega
      obtain ⟨sg, off, rfl, hcell⟩ := I2.out (by omega)
      have hck := hcell j.toNat hj
      rw [if_pos cj] at RX
      have GE := hid (show m.F.getD j.toNat 0 = m.F[j.toNat] from by rw [List.getD_eq_getElem?_getD, List.getElem?_eq_getElem hj]; rfl)
      rw [GE.out] at RX
      have g1 : j < (m.F.length : Int) := by omega
      clear hcell r2 I2 L GE
      generalize m.F[j.toNat] = v at *
      obtain ⟨n, rfl⟩ : ∃ n : Nat, j = n := ⟨j.toNat, by omega⟩
      rw [Int.toNat_natCast] at hck hj
      go_enter Try.func11, Try.ntmps11
      go_wp2
      go_quiet ((go_at_call 16; exact Calls.quiet_of_same (cT.out _)))
      go_wp2
      have HE := hid (show ∃ n, w.drewN nq = w.drewN n from ⟨_, rfl⟩)
      replace k2 : (w.drewN nq).cell? ⟨g, 2, none⟩ = some (.int .i64 m.far) := k2
      replace k5 : (w.drewN nq).cell? ⟨g, 5, none⟩ = some (.slice (some ⟨sg, off, none⟩) m.F.length cf) := k5
      replace hck : (w.drewN nq).cell? ⟨sg, off + n, none⟩ = some (.int .i64 v) := hck
      generalize w.drewN nq = V at *
      go_quiet ((go_at_call 16; exact Calls.quiet_of_same (cF.out _)))
      go_wp2
      go_ret2
      rw [RX.out]
      exact ⟨rfl, by obtain ⟨q, hq⟩ := HE.out; exact ⟨_, by rw [hq, World.drewN_drewN]⟩⟩
    · have d2 : decide (0 ≤ j) = false := by simpa using cj
      rw [if_neg cj] at RX
      obtain rfl : j = -1 := by omega
      go_enter Try.func11, Try.ntmps11
      go_wp2
      go_quiet ((go_at_call 16; exact Calls.quiet_of_same (cT.out _)))
      go_wp2
      have HE := hid (show ∃ n, w.drewN nq = w.drewN n from ⟨_, rfl⟩)
      replace k2 : (w.drewN nq).cell? ⟨g, 2, none⟩ = some (.int .i64 m.far) := k2
      replace k5 : (w.drewN nq).cell? ⟨g, 5, none⟩ = some (.slice af m.F.length cf) := k5
      generalize w.drewN nq = V at *
      go_quiet ((go_at_call 16; exact Calls.quiet_of_same (cF.out _)))
      go_wp2
      go_ret2
      rw [RX.out]
      exact ⟨rfl, by obtain ⟨q, hq⟩ := HE.out; exact ⟨_, by rw [hq, World.drewN_drewN]⟩⟩

end Go.Proofs.Ythlncpgpadcjiaa

namespace Go.Proofs.Ythlncpgpadcjiaa
open Go.RowKit

theorem grown_high {w a c : World} {row : Option Nat} (h : w.grownBy a none) (k : a.grownBy c row) (hb : ∀ b, row = some b → w.heap.size ≤ b) : w.grownBy c none :=
  ⟨k.os.trans h.os, k.tape.trans h.tape, k.output.trans h.output, Nat.le_trans h.size k.size, fun i hi _ =>
    (k.block i (Nat.lt_of_lt_of_le hi h.size) (fun e => by have := hb i e.symm; omega)).trans (h.block i hi (by simp))⟩
theorem size_set (w : World) (a : Addr) (v : Value) : (w.setCell a v).heap.size = w.heap.size := by simp [World.setCell]

/-- while the words of an image are read: its regions' rows, each behind the one ahead -/
structure PLs (w : World) (l : List UInt8) (g nt nf k : Nat) (a0 a1 a2 a3 : Int) (vT vF vD : Value) (B1 B2 : Nat) (wr : World) : Prop where
  obj : BlkAt wr g #[.int .i64 a0, .int .i64 a1, .int .i64 a2, .int .i64 a3, vT, vF, vD] 42
  rT : wr.ownsRow (g + 1) 3 1 vT (min k nt) ((Im.words l 26 (min k nt)).map (Value.int .i64))
  rF : wr.ownsRow B1 3 1 vF (min (k - nt) nf) ((Im.words l (26 + 4 * nt) (min (k - nt) nf)).map (Value.int .i64))
  rD : wr.ownsRow B2 3 1 vD (k - nt - nf) ((Im.words l (26 + 4 * nt + 4 * nf) (k - nt - nf)).map (Value.int .i64))
  tB1 : ∀ b, vT.ownBlock = some b → b < B1
  tB2 : ∀ b, vT.ownBlock = some b → b < B2
  fB2 : ∀ b, vF.ownBlock = some b → b < B2
  sz : (B1 ≤ wr.heap.size ∧ B2 ≤ wr.heap.size) ∧ g < B1 ∧ g < B2
  nF : k ≤ nt → vF = .slice none 0 0
  nD : k ≤ nt + nf → vD = .slice none 0 0
  gr : w.grownBy wr none
  lo : w.heap.size ≤ g

section
variable {w wr w3 : World} {l : List UInt8} {g nt nf k : Nat} {a0 a1 a2 a3 : Int} {vT vF vD v' : Value} {B1 B2 : Nat} {ob : Obj}

theorem PLs.pre (h : PLs w l g nt nf k a0 a1 a2 a3 vT vF vD B1 B2 wr) {row : Option Nat} (hg : (wr.alloc ob).grownBy w3 row) (hr : ∀ b, row = some b → g < b) :
    BlkAt w3 g #[.int .i64 a0, .int .i64 a1, .int .i64 a2, .int .i64 a3, vT, vF, vD] 42 ∧ w.grownBy w3 none :=
  ⟨(h.obj.grown (World.grownBy_alloc wr ob none) (by simp)).grown hg (fun e => by have := hr g e.symm; omega),
    grown_high (grown_trans h.gr (World.grownBy_alloc wr ob none)) hg (fun b e => by have := hr b e; have := h.lo; omega)⟩
theorem kept_row {B : Nat} {v : Value} {n : Nat} {xs : List Value} {row : Option Nat} (hr : wr.ownsRow B 3 1 v n xs) (hg : (wr.alloc ob).grownBy w3 row) (hne : ∀ b, row = some b → v.ownBlock ≠ some b) : w3.ownsRow B 3 1 v n xs :=
  (hr.alloc ob).kept hg (by
    cases row with
    | none => cases hv : v.ownBlock <;> simp
    | some b => exact .inr (hne b rfl))

theorem PLs.stepT (h : PLs w l g nt nf k a0 a1 a2 a3 vT vF vD B1 B2 wr) (hk : k < nt) (hown : w3.ownsRow (g + 1) 3 1 v' (k + 1) ((Im.words l 26 (k + 1)).map (Value.int .i64))) (hg : (wr.alloc ob).grownBy w3 vT.ownBlock) :
    PLs w l g nt nf (k + 1) a0 a1 a2 a3 v' (.slice none 0 0) (.slice none 0 0) w3.heap.size w3.heap.size (w3.setCell ⟨g, 4, none⟩ v') := by
  have hT : ∀ b, vT.ownBlock = some b → g < b := fun b e => (h.rT.lt b e).1
  obtain ⟨P, G⟩ := h.pre hg hT
  have eF := h.nF (by omega)
  have eD := h.nD (by omega)
  subst eF eD
  have m1 : min (k + 1) nt = k + 1 := by omega
  have m2 : min (k + 1 - nt) nf = 0 := by omega
  have m3 : k + 1 - nt - nf = 0 := by omega
  refine ⟨P.set 4 v', by rw [m1]; exact ownsRow_setCell_below hown (show g < _ by omega) v', by rw [m2]; exact World.ownsRow_nil _ _ _ _, by rw [m3]; exact World.ownsRow_nil _ _ _ _, fun b e => (hown.lt b e).2, fun b e => (hown.lt b e).2, by simp [Value.ownBlock],
    ⟨⟨by rw [size_set]; exact Nat.le_refl _, by rw [size_set]; exact Nat.le_refl _⟩, P.lt, P.lt⟩, fun _ => rfl, fun _ => rfl, grown_high G (grown_set w3 g 4 v') (by intro b e; simp at e; have := h.lo; omega), h.lo⟩

theorem PLs.stepF (h : PLs w l g nt nf k a0 a1 a2 a3 vT vF vD B1 B2 wr) (h1 : nt ≤ k) (hk : k < nt + nf) (hown : w3.ownsRow B1 3 1 v' (k - nt + 1) ((Im.words l (26 + 4 * nt) (k - nt + 1)).map (Value.int .i64))) (hg : (wr.alloc ob).grownBy w3 vF.ownBlock) :
    PLs w l g nt nf (k + 1) a0 a1 a2 a3 vT v' (.slice none 0 0) B1 w3.heap.size (w3.setCell ⟨g, 5, none⟩ v') := by
  have hF : ∀ b, vF.ownBlock = some b → B1 ≤ b := fun b e => (h.rF.lt b e).1
  have hs := h.sz
  obtain ⟨P, G⟩ := h.pre hg (fun b e => by have := hF b e; omega)
  have eD := h.nD (by omega)
  subst eD
  have hz := hg.size
  rw [show (wr.alloc ob).heap.size = wr.heap.size + 1 from Array.size_push _] at hz
  have KT := kept_row h.rT hg (fun b e => fun c => by have := hF b e; have := h.tB1 b c; omega)
  have m0 : min k nt = nt := by omega
  have m1 : min (k + 1) nt = nt := by omega
  have m2 : min (k + 1 - nt) nf = k - nt + 1 := by omega
  have m3 : k + 1 - nt - nf = 0 := by omega
  rw [m0] at KT
  refine ⟨P.set 5 v', by rw [m1]; exact ownsRow_setCell_below KT (show g < _ by omega) v', by rw [m2]; exact ownsRow_setCell_below hown (show g < _ by omega) v', by rw [m3]; exact World.ownsRow_nil _ _ _ _, h.tB1, fun b e => by have := (KT.lt b e).2; omega, fun b e => (hown.lt b e).2,
    ⟨⟨by rw [size_set]; omega, by rw [size_set]; exact Nat.le_refl _⟩, hs.2.1, P.lt⟩, fun e => by omega, fun _ => rfl, grown_high G (grown_set w3 g 5 v') (by intro b e; simp at e; have := h.lo; omega), h.lo⟩

theorem PLs.stepD (h : PLs w l g nt nf k a0 a1 a2 a3 vT vF vD B1 B2 wr) (h1 : nt + nf ≤ k) (hown : w3.ownsRow B2 3 1 v' (k - nt - nf + 1) ((Im.words l (26 + 4 * nt + 4 * nf) (k - nt - nf + 1)).map (Value.int .i64))) (hg : (wr.alloc ob).grownBy w3 vD.ownBlock) :
    PLs w l g nt nf (k + 1) a0 a1 a2 a3 vT vF v' B1 B2 (w3.setCell ⟨g, 6, none⟩ v') := by
  have hD : ∀ b, vD.ownBlock = some b → B2 ≤ b := fun b e => (h.rD.lt b e).1
  have hs := h.sz
  obtain ⟨P, G⟩ := h.pre hg (fun b e => by have := hD b e; omega)
  have hz := hg.size
  rw [show (wr.alloc ob).heap.size = wr.heap.size + 1 from Array.size_push _] at hz
  have KT := kept_row h.rT hg (fun b e => fun c => by have := hD b e; have := h.tB2 b c; omega)
  have KF := kept_row h.rF hg (fun b e => fun c => by have := hD b e; have := h.fB2 b c; omega)
  have m0 : min k nt = nt := by omega
  have m1 : min (k + 1) nt = nt := by omega
  have m2 : min (k - nt) nf = nf := by omega
  have m3 : min (k + 1 - nt) nf = nf := by omega
  have m4 : k + 1 - nt - nf = k - nt - nf + 1 := by omega
  rw [m0] at KT
  rw [m2] at KF
  refine ⟨P.set 6 v', by rw [m1]; exact ownsRow_setCell_below KT (show g < _ by omega) v', by rw [m3]; exact ownsRow_setCell_below KF (show g < _ by omega) v', by rw [m4]; exact ownsRow_setCell_below hown (show g < _ by omega) v', h.tB1, h.tB2, h.fB2,
    ⟨⟨by rw [size_set]; omega, by rw [size_set]; omega⟩, hs.2.1, hs.2.2⟩, fun e => h.nF (by omega), fun e => by omega, grown_high G (grown_set w3 g 6 v') (by intro b e; simp at e; have := h.lo; omega), h.lo⟩

/-- the noughts behind the data -/
theorem PLs.fin (m : Im.Img) (nb nd : Nat) (hm : m = ⟨a0, a1, a2, a3, Im.words l 26 nt, Im.words l (26 + 4 * nt) nf, Im.words l (26 + 4 * nt + 4 * nf) nd, nb⟩)
    (h : PLs w l g nt nf (nt + nf + nd) a0 a1 a2 a3 vT vF vD B1 B2 wr) (hown : w3.ownsRow B2 3 1 v' (nd + nb) ((Im.words l (26 + 4 * nt + 4 * nf) nd).map (Value.int .i64) ++ List.replicate nb (.int .i64 0))) (hg : wr.grownBy w3 vD.ownBlock) :
    RImgAt (w3.setCell ⟨g, 6, none⟩ v') g m ∧ w.grownBy (w3.setCell ⟨g, 6, none⟩ v') none := by
  have hD : ∀ b, vD.ownBlock = some b → B2 ≤ b := fun b e => (h.rD.lt b e).1
  have hs := h.sz
  have P := h.obj.grown hg (fun e => by have := hD g e.symm; omega)
  have kr : ∀ {B : Nat} {v : Value} {n : Nat} {xs : List Value}, wr.ownsRow B 3 1 v n xs → (∀ b, vD.ownBlock = some b → v.ownBlock ≠ some b) → w3.ownsRow B 3 1 v n xs := fun {B v n xs} hr hne => hr.kept hg (by
    cases hv : vD.ownBlock with
    | none => cases hv' : v.ownBlock <;> simp
    | some b => exact .inr (hne b hv))
  have KT := kr h.rT (fun b e => fun c => by have := hD b e; have := h.tB2 b c; omega)
  have KF := kr h.rF (fun b e => fun c => by have := hD b e; have := h.fB2 b c; omega)
  have m0 : min (nt + nf + nd) nt = nt := by omega
  have m2 : min (nt + nf + nd - nt) nf = nf := by omega
  rw [m0] at KT
  rw [m2] at KF
  refine ⟨⟨vT, vF, v', ?_, ?_, ?_, ?_⟩, grown_high (grown_high h.gr hg (fun b e => by have := hD b e; have := h.lo; omega)) (grown_set w3 g 6 v') (by intro b e; simp at e; have := h.lo; omega)⟩
  · rw [hm]; exact P.set 6 v'
  · rw [hm]; simp only [Im.words_length]; exact own_base (ownsRow_setCell_below KT (show g < _ by omega) v') (Nat.zero_le _)
  · rw [hm]; simp only [Im.words_length]; exact own_base (ownsRow_setCell_below KF (show g < _ by omega) v') (Nat.zero_le _)
  · rw [hm]; simp only [Im.words_length, Int.toNat_natCast, List.map_append, List.map_replicate]; exact own_base (ownsRow_setCell_below hown (show g < _ by omega) v') (Nat.zero_le _)
end

end Go.Proofs.Ythlncpgpadcjiaa
