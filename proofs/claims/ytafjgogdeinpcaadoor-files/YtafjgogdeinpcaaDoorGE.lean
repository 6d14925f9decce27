/- Walks over package object's checks: validRelocs. -/
/- Walks over package object: valid, Read. -/
/- Walks over package object: Read. -/
import Derived.Test.YtafjgogdeinpcaaDoorHVA
import Derived.Test.YtafjgogdeinpcaaDoorGA
namespace Go.Proofs.YtafjgogdeinpcaaDoor
open Go.RowKit

/-- a list of relocations at ao -/
def RelsIn (w : World) (ao : Option Addr) (ys : List Lk.Rel) : Prop :=
  0 < ys.length → ∃ g, ao = some ⟨g, 0, none⟩ ∧ g < w.heap.size ∧ ∀ i (h : i < ys.length), w.cell? ⟨g, i * 5, none⟩ = some (.int .i64 ys[i].sect) ∧ w.cell? ⟨g, i * 5 + 1, none⟩ = some (.int .i64 ys[i].off) ∧
    w.cell? ⟨g, i * 5 + 2, none⟩ = some (.int .i64 ys[i].kind) ∧ w.cell? ⟨g, i * 5 + 3, none⟩ = some (.int .i64 ys[i].sym) ∧ w.cell? ⟨g, i * 5 + 4, none⟩ = some (.int .i64 ys[i].addend)

theorem RelsIn.of_own {w : World} {base : Nat} {ao : Option Addr} {n cap : Nat} {ys : List Lk.Rel} (h : w.ownsRow base 48 5 (.slice ao n cap) n (ys.flatMap relV)) : RelsIn w ao ys := by
  intro h0
  have hl : (ys.flatMap relV).length = ys.length * 5 := by
    clear h h0
    induction ys with
    | nil => rfl
    | cons y t ih => rw [List.flatMap_cons, List.length_append, ih]; simp [relV]; omega
  have hn : ys.length = n := by have := h.1; omega
  have hlt := h.lt
  rcases h.2 with ⟨h1, h2⟩ | ⟨g, cap', cur, hv, _⟩
  · simp at h1; omega
  · simp only [Value.slice.injEq] at hv
    obtain ⟨rfl, _, rfl⟩ := hv
    refine ⟨g, rfl, (hlt g rfl).2, fun i hi => ?_⟩
    have q := fun j (hj : j < 5) => (h.cellAt (i * 5 + j) (by omega)).trans (flat_get relV 5 (fun _ => rfl) ys i j hi hj)
    exact ⟨q 0 (by omega), q 1 (by omega), q 2 (by omega), q 3 (by omega), q 4 (by omega)⟩

theorem RelsIn.grown {w w' : World} {ao : Option Addr} {ys : List Lk.Rel} (h : RelsIn w ao ys) (hg : w.grownBy w' none) : RelsIn w' ao ys := by
  intro h0
  obtain ⟨g, h1, h2, h3⟩ := h h0
  refine ⟨g, h1, Nat.lt_of_lt_of_le h2 hg.size, fun i hi => ?_⟩
  obtain ⟨a, b, c, d, e⟩ := h3 i hi
  exact ⟨gcell a hg, gcell b hg, gcell c hg, gcell d hg, gcell e hg⟩

def RelsOk (o : Lk.Obj) : Prop := ∀ i (h : i < o.rels.length), RelOk o o.rels[i] ∧ (∀ _ : 0 < i, FollowsP (o.rels[i - 1]'(by omega)) o.rels[i])

set_option maxHeartbeats 4000000 in
theorem validRelocs_any (g : Nat) (o : Lk.Obj) (w : World) (ht : Tabs w) (h : ObjAt w g o) (hn : Small o) (hb4 : Borders o.align) (hw : AllWords o) (hr : ∀ r ∈ o.rels, r.off ≤ 9223372036854775807) :
    Calls Tryd.prog 48 #[.pointer (some ⟨g, 0, none⟩)] w fun e w' => Tells e (RelsOk o) ∧ w.grownBy w' none := by
  obtain ⟨at_, ct, af, cf, ad, cd, aa, ca, as_, cs, ar, cr, hb, h1, h2, h3, h4, h5, h6⟩ := h.open
  have k6 := hb.cell 6
  have S := hid (RelsIn.of_own h6)
  have hns := hn.2.2.2.2.2
  have HB := hid hb
  have HO := hid h
  have HN := hid hn
  have HT := hid ht
  have HB4 := hid hb4
  have HW := hid hw
  have HR := hid hr
  clear h hn hb h1 h2 h3 h4 h5 h6 ht hb4 hw hr
  go_enter Tryd.func48, Tryd.ntmps48
  go_wp2
  go_loopw [10] (fun i wr => ∃ k : Nat, k ≤ o.rels.length ∧ i = .int .i64 k ∧ (∀ i (h : i < o.rels.length), i < k → RelOk o o.rels[i] ∧ (∀ _ : 0 < i, FollowsP (o.rels[i - 1]'(by omega)) o.rels[i])) ∧ w.grownBy wr none) (fun i _ => o.rels.length - (intOf i).toNat)
  case atStart => exact ⟨0, Nat.zero_le _, rfl, fun j _ hj => absurd hj (Nat.not_lt_zero j), World.grownBy.refl _ _⟩
  case round =>
    obtain ⟨k, hk, rfl, hall, hgr⟩ := hrel
    have HA := hid hall
    have HG := hid hgr
    clear hall hgr
    by_cases hlt : k < o.rels.length
    · obtain ⟨sg, hao, hgs, hc⟩ := S.out.grown HG.out (by omega)
      subst hao
      obtain ⟨q0, q1, q2, q3, q4⟩ := hc k hlt
      have HC := hid hc
      clear hc
      have cV := hid (fun W (hT : Tabs W) (hW : ObjAt W g o) => validReloc_any g o o.rels[k] W hT hW HN.out HB4.out HW.out (HR.out _ (List.getElem_mem hlt)))
      unfold relA at cV
      have B1 := hid (BlkAt.new wr #[.int .i64 o.rels[k].sect, .int .i64 o.rels[k].off, .int .i64 o.rels[k].kind, .int .i64 o.rels[k].sym, .int .i64 o.rels[k].addend] 48)
      have GA := hid (World.grownBy_alloc wr (.cells #[.int .i64 o.rels[k].sect, .int .i64 o.rels[k].off, .int .i64 o.rels[k].kind, .int .i64 o.rels[k].sym, .int .i64 o.rels[k].addend] 48) none)
      go_wp2_with fail
      refine (cV.out _ (HT.out.grown (grown_trans HG.out GA.out)) (HO.out.kept (grown_trans HG.out GA.out))).mono ?_
      rintro e W2 ⟨t, q⟩
      have G2 := hid (grown_trans (grown_trans HG.out GA.out) q)
      have B2 := hid (B1.out.grown q (by simp))
      have GQ := hid (grown_trans GA.out q)
      rcases t.split with ⟨rfl, p1⟩ | ⟨rfl, p1⟩ <;> clear t q
      · go_wp2
        go_ret
        exact ⟨Tells.no (fun h => p1.out (h k hlt).1), G2.out⟩
      by_cases hk0 : k = 0
      · subst hk0
        have d0 : decide ((0 : Int) < 0) = false := by simp
        go_wp2
        go_quiet (fail)
        go_wp2
        go_roundw
        case rel => exact ⟨1, by omega, rfl, fun j hj hjk => by
          have : j = 0 := by omega
          subst this
          exact ⟨p1.out, fun h => by omega⟩, grown_drewN G2.out _⟩
        case measure => simp [intOf]; omega
      · have hk1 : 1 ≤ k := by omega
        have hpl : k - 1 < o.rels.length := by omega
        have hprev := (HA.out (k - 1) hpl (by omega)).1
        have hoff : 0 ≤ (o.rels[k - 1]'hpl).off ∧ (o.rels[k - 1]'hpl).off ≤ 1048576 := by
          obtain ⟨x1, x2, x3⟩ := hprev.2.2.2.2.1
          have y1 := wordsOf_small HN.out (o.rels[k - 1]'hpl).sect
          have y2 := span_range hprev.2.1
          omega
        have cF := hid (fun W => follows_any (o.rels[k - 1]'hpl) o.rels[k] W hprev.2.1 hoff.1 hoff.2)
        have hcc := HC.out (k - 1) hpl
        generalize hpr : o.rels[k - 1]'hpl = pr at *
        have HPR := hid hpr
        clear hpr
        obtain ⟨r0, r1, r2, r3, r4⟩ := hcc
        unfold relA at cF
        have m6 := (HB.out.grown G2.out (by simp)).cell 6
        have n0 := gcell r0 GQ.out
        have n1 := gcell r1 GQ.out
        have n2 := gcell r2 GQ.out
        have n3 := gcell r3 GQ.out
        have n4 := gcell r4 GQ.out
        have c0 := B2.out.cell 0
        have c1 := B2.out.cell 1
        have c2 := B2.out.cell 2
        have c3 := B2.out.cell 3
        have c4 := B2.out.cell 4
        have M6 : Hid (W2.drew.cell? ⟨g, 6, none⟩ = some (.slice (some ⟨sg, 0, none⟩) o.rels.length cr)) := m6
        have N0 : Hid (W2.drew.cell? ⟨sg, (k - 1) * 5, none⟩ = some (.int .i64 pr.sect)) := n0
        have N1 : Hid (W2.drew.cell? ⟨sg, (k - 1) * 5 + 1, none⟩ = some (.int .i64 pr.off)) := n1
        have N2 : Hid (W2.drew.cell? ⟨sg, (k - 1) * 5 + 2, none⟩ = some (.int .i64 pr.kind)) := n2
        have N3 : Hid (W2.drew.cell? ⟨sg, (k - 1) * 5 + 3, none⟩ = some (.int .i64 pr.sym)) := n3
        have N4 : Hid (W2.drew.cell? ⟨sg, (k - 1) * 5 + 4, none⟩ = some (.int .i64 pr.addend)) := n4
        have C0 : Hid (W2.drew.cell? ⟨wr.heap.size, 0, none⟩ = some (.int .i64 o.rels[k].sect)) := c0
        have C1 : Hid (W2.drew.cell? ⟨wr.heap.size, 1, none⟩ = some (.int .i64 o.rels[k].off)) := c1
        have C2 : Hid (W2.drew.cell? ⟨wr.heap.size, 2, none⟩ = some (.int .i64 o.rels[k].kind)) := c2
        have C3 : Hid (W2.drew.cell? ⟨wr.heap.size, 3, none⟩ = some (.int .i64 o.rels[k].sym)) := c3
        have C4 : Hid (W2.drew.cell? ⟨wr.heap.size, 4, none⟩ = some (.int .i64 o.rels[k].addend)) := c4
        have hk2 : 0 < k := by omega
        have d00 : decide (0 < k) = true := by simpa using hk2
        have d0 : decide ((0 : Int) < (k : Int)) = true := by simp; omega
        have g1 : (1 : Int) ≤ (k : Int) := by omega
        have g2 : (k : Int) - 1 < (o.rels.length : Int) := by omega
        have g3 : (0 : Int) ≤ (k : Int) - 1 := by omega
        have hwk : IntKind.i64.wrap ((k : Int) - 1) = (k : Int) - 1 := IntWalk.i64_in _ ⟨by omega, by omega⟩
        have HP := hid hprev
        clear hprev hoff q0 q1 q2 q3 q4 r0 r1 r2 r3 r4 hk0
        go_wp2
        go_region_held3 (fun w' => w'.cell? ⟨g, 6, none⟩ = some (.slice (some ⟨sg, 0, none⟩) o.rels.length cr) ∧ w'.cell? ⟨wr.heap.size, 0, none⟩ = some (.int .i64 o.rels[k].sect) ∧ w'.cell? ⟨wr.heap.size, 1, none⟩ = some (.int .i64 o.rels[k].off) ∧ w'.cell? ⟨wr.heap.size, 2, none⟩ = some (.int .i64 o.rels[k].kind) ∧ w'.cell? ⟨wr.heap.size, 3, none⟩ = some (.int .i64 o.rels[k].sym) ∧ w'.cell? ⟨wr.heap.size, 4, none⟩ = some (.int .i64 o.rels[k].addend) ∧ w'.cell? ⟨sg, (k - 1) * 5, none⟩ = some (.int .i64 pr.sect) ∧ w'.cell? ⟨sg, (k - 1) * 5 + 1, none⟩ = some (.int .i64 pr.off) ∧ w'.cell? ⟨sg, (k - 1) * 5 + 2, none⟩ = some (.int .i64 pr.kind) ∧ w'.cell? ⟨sg, (k - 1) * 5 + 3, none⟩ = some (.int .i64 pr.sym) ∧ w'.cell? ⟨sg, (k - 1) * 5 + 4, none⟩ = some (.int .i64 pr.addend))
          (go_keep)
          (first | (go_at_call 59; refine (cF.out _).mono ?_; rintro e w5 ⟨⟨b, rfl, hb⟩, hq⟩; have s6 := gcell M6.out hq; have s0 := gcell C0.out hq; have s1 := gcell C1.out hq; have s2 := gcell C2.out hq; have s3 := gcell C3.out hq; have s4 := gcell C4.out hq; have t0 := gcell N0.out hq; have t1 := gcell N1.out hq; have t2 := gcell N2.out hq; have t3 := gcell N3.out hq; have t4 := gcell N4.out hq))
        have HBB := hid hb
        have GF := hid (grown_trans (grown_drew G2.out) hq)
        clear hb hq s6 s0 s1 s2 s3 s4 t0 t1 t2 t3 t4 c0 c1 c2 c3 c4 n0 n1 n2 n3 n4 m6
        cases b
        · have NF := hid (show ¬ FollowsP pr o.rels[k] from fun h => by have := HBB.out.2 h; simp at this)
          clear HBB
          go_wp2
          go_ret
          exact ⟨Tells.no (fun h => NF.out (HPR.out ▸ (h k hlt).2 hk2)), GF.out⟩
        · have YF := hid (show FollowsP pr o.rels[k] from HBB.out.1 rfl)
          clear HBB
          go_wp2
          go_roundw
          case rel => exact ⟨k + 1, by omega, by go_num, fun j hj hjk => (Nat.lt_succ_iff_lt_or_eq.1 hjk).elim (fun h => HA.out j hj h) (fun h => by subst h; exact ⟨p1.out, fun _ => by rw [HPR.out]; exact YF.out⟩), GF.out⟩
          case measure => simp [intOf]; omega
    · go_wp2
      go_ret
      exact ⟨Tells.yes fun i hi => HA.out i hi (by omega), HG.out⟩

end Go.Proofs.YtafjgogdeinpcaaDoor

namespace Go.Proofs.YtafjgogdeinpcaaDoor
open Go.RowKit

def Valid (o : Lk.Obj) : Prop := Sizes o ∧ Borders o.align ∧ AllWords o ∧ SymsOk o ∧ RelsOk o

/-- an object whose numbers are such as reading gives -/
def Tame (o : Lk.Obj) : Prop := Small o ∧ (∀ y ∈ o.syms, y.name.length ≤ 255) ∧ ∀ r ∈ o.rels, r.off ≤ 9223372036854775807

set_option maxHeartbeats 4000000 in
theorem valid_any (g : Nat) (o : Lk.Obj) (w : World) (ht : Tabs w) (h : ObjAt w g o) (hn : Tame o) :
    Calls Tryd.prog 25 #[.pointer (some ⟨g, 0, none⟩)] w fun e w' => Tells e (Valid o) ∧ w.grownBy w' none := by
  obtain ⟨at_, ct, af, cf, ad, cd, aa, ca, as_, cs, ar, cr, hb, h1, h2, h3, h4, h5, h6⟩ := h.open
  have k4 := hb.cell 4
  have c1 := hid (validSizes_any g o w h hn.1)
  have c2 := hid (validBorders_any aa ca o.align w (IntsIn.of_own h4) hn.1.2.2.2.1)
  have c3 := hid (validWords_any g o w h hn.1)
  have HO := hid h
  have HT := hid ht
  have HN := hid hn
  clear h ht hn hb h1 h2 h3 h4 h5 h6
  go_enter Tryd.func25, Tryd.ntmps25
  go_wp2_with fail
  refine c1.out.mono ?_
  rintro e w1 ⟨t, rfl⟩
  rcases t.split with ⟨rfl, p1⟩ | ⟨rfl, p1⟩ <;> clear t c1
  · go_wp2
    go_ret
    exact ⟨Tells.no (fun h => p1.out h.1), World.grownBy.refl _ _⟩
  go_wp2_with fail
  refine c2.out.mono ?_
  rintro e w2 ⟨t, rfl⟩
  rcases t.split with ⟨rfl, p2⟩ | ⟨rfl, p2⟩ <;> clear t c2
  · go_wp2
    go_ret
    exact ⟨Tells.no (fun h => p2.out h.2.1), World.grownBy.refl _ _⟩
  go_wp2_with fail
  refine c3.out.mono ?_
  rintro e w3 ⟨t, rfl⟩
  rcases t.split with ⟨rfl, p3⟩ | ⟨rfl, p3⟩ <;> clear t c3
  · go_wp2
    go_ret
    exact ⟨Tells.no (fun h => p3.out h.2.2.1), World.grownBy.refl _ _⟩
  have c4 := hid (validSymbols_any g o w3 HO.out HN.out.1 p1.out.2.1 HN.out.2.1)
  go_wp2_with fail
  refine c4.out.mono ?_
  rintro e w4 ⟨t, q4⟩
  have Q4 := hid q4
  rcases t.split with ⟨rfl, p4⟩ | ⟨rfl, p4⟩ <;> clear t c4 q4
  · go_wp2
    go_ret
    exact ⟨Tells.no (fun h => p4.out h.2.2.2.1), Q4.out⟩
  have c5 := hid (validRelocs_any g o w4 (HT.out.grown Q4.out) (HO.out.kept Q4.out) HN.out.1 p2.out p3.out HN.out.2.2)
  go_wp2_with fail
  refine c5.out.mono ?_
  rintro e w5 ⟨t, q5⟩
  have Q5 := hid (grown_trans Q4.out q5)
  rcases t.split with ⟨rfl, p5⟩ | ⟨rfl, p5⟩ <;> clear t c5 q5
  · go_wp2
    go_ret
    exact ⟨Tells.no (fun h => p5.out h.2.2.2.2), Q5.out⟩
  go_wp2
  go_ret
  exact ⟨Tells.yes ⟨p1.out, p2.out, p3.out, p4.out, p5.out⟩, Q5.out⟩

end Go.Proofs.YtafjgogdeinpcaaDoor

namespace Go.Proofs.YtafjgogdeinpcaaDoor
open Go.RowKit

theorem grown_above {w a c : World} {b : Nat} (h : w.grownBy a none) (k : a.grownBy c (some b)) (hb : w.heap.size ≤ b) : w.grownBy c none :=
  ⟨k.os.trans h.os, k.tape.trans h.tape, k.output.trans h.output, Nat.le_trans h.size k.size, fun i hi _ =>
    (k.block i (Nat.lt_of_lt_of_le hi h.size) (by simp; omega)).trans (h.block i hi (by simp))⟩

theorem good_tame {o : Lk.Obj} (h : Lk.goodObj o) : Tame o := by
  obtain ⟨h1, h2, h3, h4, h5, h6, h7, h8, h9, h10, h11, h12, h13⟩ := h
  refine ⟨⟨by omega, by omega, by omega, by omega, by omega, by omega⟩, fun y hy => ?_, fun r hr => ?_⟩
  · have := (h9 y hy).1; omega
  · have := (h10 r hr).2.2.1.2; omega

/-- what Read gives -/
def ReadRet (w : World) (s : ByteArray) (e : Ending) (w' : World) : Prop :=
  (∃ o g, Lk.readObj (sl s) = some o ∧ Valid o ∧ e = .returned (.tuple #[.pointer (some ⟨g, 0, none⟩), .int .i64 0]) ∧ ObjAt w' g o ∧ w.heap.size ≤ g) ∨
  ((∀ o, Lk.readObj (sl s) = some o → ¬ Valid o) ∧ e = .returned (.tuple #[.pointer none, .int .i64 20]))

set_option maxHeartbeats 4000000 in
theorem read_any (s : ByteArray) (w : World) (ht : Tabs w) (hs : s.size ≤ 1048576) :
    Calls Tryd.prog 14 #[.string s] w fun e w' => ReadRet w s e w' ∧ w.grownBy w' none := by
  have HT := hid ht
  clear ht
  go_enter Tryd.func14, Tryd.ntmps14
  go_wp2_with fail
  refine (newReader_any s w).mono ?_
  rintro e W1 ⟨rfl, g1⟩
  have R : RdAt (W1.alloc (.cells #[.string s, .int .i64 0, .bool false] 68)) W1.heap.size s 0 false := heap_alloc_new W1 _
  have HR := hid R
  have G1 := hid g1
  have GA := hid (World.grownBy_alloc W1 (.cells #[.string s, .int .i64 0, .bool false] 68) none)
  have hz := hid g1.size
  clear R g1
  by_cases hm : (Lk.rdText (sl s) 2 (0, false)).1 = [76, 75]
  · have cR := hid (readObject_yes W1.heap.size s 0 false _ HR.out hs (Nat.zero_le _) hm)
    have hro := hid (show Lk.readObj (sl s) = if (Lk.rdRest (sl s) (Lk.rdText (sl s) 2 (0, false)).2).2 = ((sl s).length, false) then some (Lk.rdRest (sl s) (Lk.rdText (sl s) 2 (0, false)).2).1 else none from by unfold Lk.readObj; rw [if_pos hm])
    generalize Lk.rdRest (sl s) (Lk.rdText (sl s) 2 (0, false)).2 = X at *
    obtain ⟨o, p', s'⟩ := X
    simp only at cR hro
    clear hm
    go_wp2_with fail
    refine cR.out.mono ?_
    rintro e W2 ⟨g, rfl, hg, hobj, hrd, hgr⟩
    have HOB := hid hobj
    have HRD := hid hrd
    have GR := hid hgr
    have HGG := hid hg
    clear hobj hrd hgr hg cR
    have cD := hid (done_any W1.heap.size s p' s' W2 HRD.out)
    go_wp2_with fail
    refine cD.out.mono ?_
    rintro e W3 ⟨rfl, kd, rfl⟩
    have GF := hid (grown_drewN (grown_above (grown_trans G1.out GA.out) GR.out hz.out) kd)
    clear cD
    have hsz := sl_length s
    by_cases hd : s' = false ∧ p' = s.size
    · obtain ⟨rfl, rfl⟩ := hd
      have hro2 : Lk.readObj (sl s) = some o := by rw [hro.out, if_pos (by rw [hsz])]
      have HRO := hid hro2
      have hgood := ((Lk.readObj_iff (sl s) o).1 hro2).1
      have cV := hid (valid_any g o (W2.drewN kd) (HT.out.grown GF.out) (HOB.out.drewN kd) (good_tame hgood))
      have dd : (!false && decide (s.size = s.size)) = true := by simp
      clear hro2 hgood hsz hro
      go_wp2_with fail
      refine cV.out.mono ?_
      rintro e W4 ⟨t, q⟩
      have GQ := hid (grown_trans GF.out q)
      have HO4 := hid ((HOB.out.drewN kd).kept q)
      rcases t.split with ⟨rfl, pv⟩ | ⟨rfl, pv⟩ <;> clear t q cV
      · go_wp2
        go_ret2
        exact ⟨.inr ⟨fun o' ho' => by have h1 := HRO.out.symm.trans ho'; simp only [Option.some.injEq] at h1; subst h1; exact pv.out, rfl⟩, GQ.out⟩
      · go_wp2
        go_ret2
        refine ⟨.inl ⟨o, g, HRO.out, pv.out, rfl, HO4.out, ?_⟩, GQ.out⟩
        have h1 := HGG.out
        have h2 := hz.out
        simp at h1
        omega
    · have hro2 : Lk.readObj (sl s) = none := by
        rw [hro.out, if_neg]
        intro h
        simp only [Prod.mk.injEq] at h
        exact hd ⟨h.2, by rw [← hsz]; exact h.1⟩
      have HRO := hid hro2
      have dd : (!s' && decide (p' = s.size)) = false := by
        cases s'
        · simp at hd ⊢; exact hd
        · rfl
      clear hro2 hro hsz hd
      go_wp2
      go_ret2
      exact ⟨.inr ⟨fun o' ho' => by have h1 := HRO.out.symm.trans ho'; simp at h1, rfl⟩, GF.out⟩
  · have cR := hid (readObject_no W1.heap.size s 0 false _ HR.out hs (Nat.zero_le _) hm)
    have hro := hid (show Lk.readObj (sl s) = none from by unfold Lk.readObj; rw [if_neg hm])
    clear hm
    go_wp2_with fail
    refine cR.out.mono ?_
    rintro e W2 ⟨rfl, hgr⟩
    have GR := hid hgr
    clear hgr cR
    go_wp2
    go_ret2
    exact ⟨.inr ⟨fun o' ho' => by have h1 := hro.out.symm.trans ho'; simp at h1, rfl⟩, grown_above (grown_trans G1.out GA.out) GR.out hz.out⟩

end Go.Proofs.YtafjgogdeinpcaaDoor
