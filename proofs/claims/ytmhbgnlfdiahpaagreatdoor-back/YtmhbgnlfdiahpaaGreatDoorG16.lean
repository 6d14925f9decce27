/- Walks over package object: writeReloc; what a Writer leaves as it was. -/
/- Walks over package object's readers: readObject of other bytes; NewReader. -/
/- Walks over package object: valid, Read. -/
/- Walks over package object: Read. -/
/- Walks over package object: Write. -/
/- The plain side: what is valid fits its bytes. -/
/- Writing what is no object. -/
/- Walks: a text assembled. -/
import Derived.Test.YtmhbgnlfdiahpaaGreatDoorG15
import Derived.Test.YtmhbgnlfdiahpaaGreatDoorG03
import Derived.Test.YtmhbgnlfdiahpaaGreatDoorG14
namespace Go.Proofs.YtmhbgnlfdiahpaaGreatDoor
open Go.RowKit

set_option maxHeartbeats 2000000 in
theorem writeReloc_any (b : Nat) (r : Lk.Rel) (l : List UInt8) (w : World) (h : WrAt w b l) (hl : l.length ≤ 1048576) (hg : Lk.goodRel r) :
    Calls Tryz.prog 29 #[.pointer (some ⟨b, 0, none⟩), .agg #[.int .i64 r.sect, .int .i64 r.off, .int .i64 r.kind, .int .i64 r.sym, .int .i64 r.addend]] w fun e w' => e = .returned (.tuple #[]) ∧ WrAt w' b (l ++ Lk.relB r) ∧ Wk b w w' := by
  obtain ⟨⟨hs0, hs1⟩, ⟨hk0, hk1⟩, ⟨ho0, ho1⟩, ⟨hy0, hy1⟩, ha0, ha1⟩ := hg
  have hvb : w.heap.size ≠ b := by obtain ⟨_, _, h1, _⟩ := h; have := h1.lt; omega
  have S1 := hid (St3.begin h #[.int .i64 r.sect, .int .i64 r.off, .int .i64 r.kind, .int .i64 r.sym, .int .i64 r.addend] 75)
  have c1 := hid (fun W (h : WrAt W b (l)) => wNumber_lit b r.sect 1 1 rfl (l) W h (by omega) (by omega) (by omega) (by omega))
  have c2 := hid (fun W (h : WrAt W b (l ++ Lk.le r.sect 1)) => wNumber_lit b r.kind 1 1 rfl (l ++ Lk.le r.sect 1) W h (by simp only [List.length_append, Lk.le_length]; omega) (by omega) (by omega) (by omega))
  have c3 := hid (fun W (h : WrAt W b (l ++ Lk.le r.sect 1 ++ Lk.le r.kind 1)) => wNumber_lit b r.off 2 2 rfl (l ++ Lk.le r.sect 1 ++ Lk.le r.kind 1) W h (by simp only [List.length_append, Lk.le_length]; omega) (by omega) (by omega) (by omega))
  have c4 := hid (fun W (h : WrAt W b (l ++ Lk.le r.sect 1 ++ Lk.le r.kind 1 ++ Lk.le r.off 2)) => wNumber_lit b r.sym 1 1 rfl (l ++ Lk.le r.sect 1 ++ Lk.le r.kind 1 ++ Lk.le r.off 2) W h (by simp only [List.length_append, Lk.le_length]; omega) (by omega) (by omega) (by omega))
  have c5 := hid (fun W (h : WrAt W b (l ++ Lk.le r.sect 1 ++ Lk.le r.kind 1 ++ Lk.le r.off 2 ++ Lk.le r.sym 1)) => wNumber_lit b r.addend 2 2 rfl (l ++ Lk.le r.sect 1 ++ Lk.le r.kind 1 ++ Lk.le r.off 2 ++ Lk.le r.sym 1) W h (by simp only [List.length_append, Lk.le_length]; omega) (by omega) (by omega) (by omega))
  clear h
  go_enter Tryz.func29, Tryz.ntmps29
  go_wp2_with fail
  refine Calls.at_world (St3 w b w.heap.size 75 #[.int .i64 r.sect, .int .i64 r.off, .int .i64 r.kind, .int .i64 r.sym, .int .i64 r.addend] l) S1.out ?_
  clear S1
  intro W1 s1
  have S1 := hid s1
  clear s1
  refine (c1.out W1 S1.out.wr).mono ?_
  rintro e W2 ⟨rfl, hw, hk⟩
  have S2 := hid (S1.out.step hvb (by decide) hw hk)
  clear hw hk
  have k2 := S2.out.own.cell 2
  go_wp2_with fail
  refine (c2.out W2 S2.out.wr).mono ?_
  rintro e W3 ⟨rfl, hw, hk⟩
  have S3 := hid (S2.out.step hvb (by decide) hw hk)
  clear hw hk k2
  have k3 := S3.out.own.cell 1
  go_wp2_with fail
  refine (c3.out W3 S3.out.wr).mono ?_
  rintro e W4 ⟨rfl, hw, hk⟩
  have S4 := hid (S3.out.step hvb (by decide) hw hk)
  clear hw hk k3
  have k4 := S4.out.own.cell 3
  go_wp2_with fail
  refine (c4.out W4 S4.out.wr).mono ?_
  rintro e W5 ⟨rfl, hw, hk⟩
  have S5 := hid (S4.out.step hvb (by decide) hw hk)
  clear hw hk k4
  have k5 := S5.out.own.cell 4
  go_wp2_with fail
  refine (c5.out W5 S5.out.wr).mono ?_
  rintro e W6 ⟨rfl, hw, hk⟩
  have S6 := hid (S5.out.step hvb (by decide) hw hk)
  clear hw hk k5
  go_wp2
  go_end0
  refine ⟨rfl, ?_, S6.out.wk⟩
  have := S6.out.wr
  simpa [Lk.relB] using this

def SymsB (w : World) (b : Nat) (ao : Option Addr) (ys : List Lk.Sym) : Prop :=
  0 < ys.length → ∃ g cs, ao = some ⟨g, 0, none⟩ ∧ g ≠ b ∧ BlkAt w g cs 71 ∧ ∀ i (h : i < ys.length), cs[i * 4]? = some (.string (bs ys[i].name)) ∧ cs[i * 4 + 1]? = some (.int .i64 ys[i].bind) ∧ cs[i * 4 + 2]? = some (.int .i64 ys[i].sect) ∧ cs[i * 4 + 3]? = some (.int .i64 ys[i].off)
theorem SymsB.kept {w w' : World} {b : Nat} {ao : Option Addr} {xs : List Lk.Sym} (h : SymsB w b ao xs) (hk : Wk b w w') : SymsB w' b ao xs := by
  intro h0
  obtain ⟨g, cs, h1, h2, h3, h4⟩ := h h0
  exact ⟨g, cs, h1, h2, hk.2 g cs _ h2 (by decide) h3, h4⟩
def RelsB (w : World) (b : Nat) (ao : Option Addr) (ys : List Lk.Rel) : Prop :=
  0 < ys.length → ∃ g cs, ao = some ⟨g, 0, none⟩ ∧ g ≠ b ∧ BlkAt w g cs 75 ∧ ∀ i (h : i < ys.length), cs[i * 5]? = some (.int .i64 ys[i].sect) ∧ cs[i * 5 + 1]? = some (.int .i64 ys[i].off) ∧ cs[i * 5 + 2]? = some (.int .i64 ys[i].kind) ∧ cs[i * 5 + 3]? = some (.int .i64 ys[i].sym) ∧ cs[i * 5 + 4]? = some (.int .i64 ys[i].addend)
theorem RelsB.kept {w w' : World} {b : Nat} {ao : Option Addr} {xs : List Lk.Rel} (h : RelsB w b ao xs) (hk : Wk b w w') : RelsB w' b ao xs := by
  intro h0
  obtain ⟨g, cs, h1, h2, h3, h4⟩ := h h0
  exact ⟨g, cs, h1, h2, hk.2 g cs _ h2 (by decide) h3, h4⟩

theorem own_blkX {w : World} {base b : Nat} {e : TypeId} {size : Nat} {ao : Option Addr} {n cap : Nat} {xs : List Value} (h : w.ownsRow base e size (.slice ao n cap) n xs) (hn : 0 < n) (hb : ∀ g, Value.ownBlock (.slice ao n cap) = some g → g ≠ b) :
    ∃ g cs, ao = some ⟨g, 0, none⟩ ∧ g ≠ b ∧ BlkAt w g cs e ∧ ∀ j, j < n * size → cs[j]? = xs[j]? := by
  rcases h.2 with ⟨h1, h2⟩ | ⟨g, cap', cur, hv, _, hh, _, _, hcs, htk⟩
  · omega
  · simp only [Value.slice.injEq] at hv
    obtain ⟨rfl, _, rfl⟩ := hv
    refine ⟨g, cur, rfl, hb g rfl, hh, fun j hj => ?_⟩
    have e : (cur.toList.take (n * size))[j]? = xs[j]? := by rw [htk]
    rw [List.getElem?_take, if_pos hj] at e
    rw [← Array.getElem?_toList, e]

theorem flat_len {α : Type} (f : α → List Value) (size : Nat) (hf : ∀ x, (f x).length = size) (l : List α) : (l.flatMap f).length = l.length * size := by
  induction l with
  | nil => simp
  | cons y t ih => rw [List.flatMap_cons, List.length_append, ih, hf, List.length_cons, Nat.succ_mul]; omega

theorem SymsB.of_own {w : World} {base b : Nat} {ao : Option Addr} {n cap : Nat} {ys : List Lk.Sym} (h : w.ownsRow base 71 4 (.slice ao n cap) n (ys.flatMap symV)) (hb : ∀ g, Value.ownBlock (.slice ao n cap) = some g → g ≠ b) : SymsB w b ao ys := by
  intro h0
  have hl := flat_len symV 4 (fun _ => rfl) ys
  have hn : ys.length = n := by have := h.1; omega
  obtain ⟨g, cs, h1, h2, h3, h4⟩ := own_blkX h (by omega) hb
  refine ⟨g, cs, h1, h2, h3, fun i hi => ?_⟩
  have q := fun j (hj : j < 4) => (h4 (i * 4 + j) (by omega)).trans (flat_get symV 4 (fun _ => rfl) ys i j hi hj)
  exact ⟨q 0 (by omega), q 1 (by omega), q 2 (by omega), q 3 (by omega)⟩
theorem RelsB.of_own {w : World} {base b : Nat} {ao : Option Addr} {n cap : Nat} {ys : List Lk.Rel} (h : w.ownsRow base 75 5 (.slice ao n cap) n (ys.flatMap relV)) (hb : ∀ g, Value.ownBlock (.slice ao n cap) = some g → g ≠ b) : RelsB w b ao ys := by
  intro h0
  have hl := flat_len relV 5 (fun _ => rfl) ys
  have hn : ys.length = n := by have := h.1; omega
  obtain ⟨g, cs, h1, h2, h3, h4⟩ := own_blkX h (by omega) hb
  refine ⟨g, cs, h1, h2, h3, fun i hi => ?_⟩
  have q := fun j (hj : j < 5) => (h4 (i * 5 + j) (by omega)).trans (flat_get relV 5 (fun _ => rfl) ys i j hi hj)
  exact ⟨q 0 (by omega), q 1 (by omega), q 2 (by omega), q 3 (by omega), q 4 (by omega)⟩

end Go.Proofs.YtmhbgnlfdiahpaaGreatDoor

namespace Go.Proofs.YtmhbgnlfdiahpaaGreatDoor
open Go.RowKit

set_option maxHeartbeats 1000000 in
theorem readObject_no (b : Nat) (s : ByteArray) (p : Nat) (sh : Bool) (w : World) (h : RdAt w b s p sh)
    (hs : s.size ≤ 1048576) (hp : p ≤ s.size) (hmark : (Lk.rdText (sl s) 2 (p, sh)).1 ≠ [76, 75]) :
    Calls Tryz.prog 22 #[.pointer (some ⟨b, 0, none⟩)] w fun e w' => e = .returned (.pointer none) ∧ w.grownBy w' (some b) := by
  have c0 := fun W h => text_lit b s p 2 2 rfl sh W h hs hp (by omega)
  generalize Lk.rdText (sl s) 2 (p, sh) = x0 at *
  obtain ⟨mk, p0, s0⟩ := x0
  simp only at hmark c0
  replace c0 := hid c0
  have H := hid h
  clear h
  have ht : ((bs mk).toList == [76, 75]) = false := by rw [toList_bs]; simpa using hmark
  clear hmark
  go_enter Tryz.func22, Tryz.ntmps22
  go_wp2_with fail
  refine (c0.out w H.out).mono ?_
  rintro e W0 ⟨rfl, r0, q0⟩
  replace r0 := hid r0
  replace q0 := hid q0
  go_wp2
  go_ret
  exact ⟨rfl, q0.out⟩

set_option maxHeartbeats 400000 in
theorem newReader_any (s : ByteArray) (w : World) :
    Calls Tryz.prog 21 #[.string s] w fun e w' => e = .returned (.agg #[.string s, .int .i64 0, .bool false]) ∧ w.grownBy w' none := by
  go_enter Tryz.func21, Tryz.ntmps21
  go_wp2
  have B := BlkAt.new w #[.string s, .int .i64 0, .bool false] 59
  have e0 := B.cell 0
  have e1 := B.cell 1
  have e2 := B.cell 2
  have G := World.grownBy_alloc w (.cells #[.string s, .int .i64 0, .bool false] 59) none
  refine bodyPost_ret (v := .agg #[.string s, .int .i64 0, .bool false]) ?_ rfl ⟨rfl, G⟩
  simp [results, Tryz.results21, go_sem]

end Go.Proofs.YtmhbgnlfdiahpaaGreatDoor

namespace Go.Proofs.YtmhbgnlfdiahpaaGreatDoor
open Go.RowKit

def Valid (o : Lk.Obj) : Prop := Sizes o ∧ Borders o.align ∧ AllWords o ∧ SymsOk o ∧ RelsOk o

/-- an object whose numbers are such as reading gives -/
def Tame (o : Lk.Obj) : Prop := Small o ∧ (∀ y ∈ o.syms, y.name.length ≤ 255) ∧ ∀ r ∈ o.rels, r.off ≤ 9223372036854775807

set_option maxHeartbeats 4000000 in
theorem valid_any (g : Nat) (o : Lk.Obj) (w : World) (ht : Tabs w) (h : ObjAt w g o) (hn : Tame o) :
    Calls Tryz.prog 24 #[.pointer (some ⟨g, 0, none⟩)] w fun e w' => Tells e (Valid o) ∧ w.grownBy w' none := by
  obtain ⟨at_, ct, af, cf, ad, cd, aa, ca, as_, cs, ar, cr, hb, h1, h2, h3, h4, h5, h6⟩ := h.open
  have k4 := hb.cell 4
  have c1 := hid (validSizes_any g o w h hn.1)
  have c2 := hid (validBorders_any aa ca o.align w (IntsIn.of_own h4) hn.1.2.2.2.1)
  have c3 := hid (validWords_any g o w h hn.1)
  have HO := hid h
  have HT := hid ht
  have HN := hid hn
  clear h ht hn hb h1 h2 h3 h4 h5 h6
  go_enter Tryz.func24, Tryz.ntmps24
  go_wp2_with fail
  refine c1.out.mono ?_
  rintro e w1 ⟨t, rfl⟩
  rcases t.split with ⟨rfl, p1⟩ | ⟨rfl, p1⟩ <;> clear t c1
  · go_wp2
    go_ret
    exact ⟨Tells.no (fun h => p1.out h.1), World.grownBy.refl _ _⟩
  go_wp2_with fail
  refine c2.out.mono ?_
  rintro e w2 ⟨t, rfl⟩
  rcases t.split with ⟨rfl, p2⟩ | ⟨rfl, p2⟩ <;> clear t c2
  · go_wp2
    go_ret
    exact ⟨Tells.no (fun h => p2.out h.2.1), World.grownBy.refl _ _⟩
  go_wp2_with fail
  refine c3.out.mono ?_
  rintro e w3 ⟨t, rfl⟩
  rcases t.split with ⟨rfl, p3⟩ | ⟨rfl, p3⟩ <;> clear t c3
  · go_wp2
    go_ret
    exact ⟨Tells.no (fun h => p3.out h.2.2.1), World.grownBy.refl _ _⟩
  have c4 := hid (validSymbols_any g o w3 HO.out HN.out.1 p1.out.2.1 HN.out.2.1)
  go_wp2_with fail
  refine c4.out.mono ?_
  rintro e w4 ⟨t, q4⟩
  have Q4 := hid q4
  rcases t.split with ⟨rfl, p4⟩ | ⟨rfl, p4⟩ <;> clear t c4 q4
  · go_wp2
    go_ret
    exact ⟨Tells.no (fun h => p4.out h.2.2.2.1), Q4.out⟩
  have c5 := hid (validRelocs_any g o w4 (HT.out.grown Q4.out) (HO.out.kept Q4.out) HN.out.1 p2.out p3.out HN.out.2.2)
  go_wp2_with fail
  refine c5.out.mono ?_
  rintro e w5 ⟨t, q5⟩
  have Q5 := hid (grown_trans Q4.out q5)
  rcases t.split with ⟨rfl, p5⟩ | ⟨rfl, p5⟩ <;> clear t c5 q5
  · go_wp2
    go_ret
    exact ⟨Tells.no (fun h => p5.out h.2.2.2.2), Q5.out⟩
  go_wp2
  go_ret
  exact ⟨Tells.yes ⟨p1.out, p2.out, p3.out, p4.out, p5.out⟩, Q5.out⟩

end Go.Proofs.YtmhbgnlfdiahpaaGreatDoor

namespace Go.Proofs.YtmhbgnlfdiahpaaGreatDoor
open Go.RowKit

theorem grown_above {w a c : World} {b : Nat} (h : w.grownBy a none) (k : a.grownBy c (some b)) (hb : w.heap.size ≤ b) : w.grownBy c none :=
  ⟨k.os.trans h.os, k.tape.trans h.tape, k.output.trans h.output, Nat.le_trans h.size k.size, fun i hi _ =>
    (k.block i (Nat.lt_of_lt_of_le hi h.size) (by simp; omega)).trans (h.block i hi (by simp))⟩

theorem good_tame {o : Lk.Obj} (h : Lk.goodObj o) : Tame o := by
  obtain ⟨h1, h2, h3, h4, h5, h6, h7, h8, h9, h10, h11, h12, h13⟩ := h
  refine ⟨⟨by omega, by omega, by omega, by omega, by omega, by omega⟩, fun y hy => ?_, fun r hr => ?_⟩
  · have := (h9 y hy).1; omega
  · have := (h10 r hr).2.2.1.2; omega

/-- what Read gives -/
def ReadRet (w : World) (s : ByteArray) (e : Ending) (w' : World) : Prop :=
  (∃ o g, Lk.readObj (sl s) = some o ∧ Valid o ∧ e = .returned (.tuple #[.pointer (some ⟨g, 0, none⟩), .int .i64 0]) ∧ ObjAt w' g o ∧ w.heap.size ≤ g) ∨
  ((∀ o, Lk.readObj (sl s) = some o → ¬ Valid o) ∧ e = .returned (.tuple #[.pointer none, .int .i64 20]))

set_option maxHeartbeats 4000000 in
theorem read_any (s : ByteArray) (w : World) (ht : Tabs w) (hs : s.size ≤ 1048576) :
    Calls Tryz.prog 12 #[.string s] w fun e w' => ReadRet w s e w' ∧ w.grownBy w' none := by
  have HT := hid ht
  clear ht
  go_enter Tryz.func12, Tryz.ntmps12
  go_wp2_with fail
  refine (newReader_any s w).mono ?_
  rintro e W1 ⟨rfl, g1⟩
  have R : RdAt (W1.alloc (.cells #[.string s, .int .i64 0, .bool false] 59)) W1.heap.size s 0 false := heap_alloc_new W1 _
  have HR := hid R
  have G1 := hid g1
  have GA := hid (World.grownBy_alloc W1 (.cells #[.string s, .int .i64 0, .bool false] 59) none)
  have hz := hid g1.size
  clear R g1
  by_cases hm : (Lk.rdText (sl s) 2 (0, false)).1 = [76, 75]
  · have cR := hid (readObject_yes W1.heap.size s 0 false _ HR.out hs (Nat.zero_le _) hm)
    have hro := hid (show Lk.readObj (sl s) = if (Lk.rdRest (sl s) (Lk.rdText (sl s) 2 (0, false)).2).2 = ((sl s).length, false) then some (Lk.rdRest (sl s) (Lk.rdText (sl s) 2 (0, false)).2).1 else none from by unfold Lk.readObj; rw [if_pos hm])
    generalize Lk.rdRest (sl s) (Lk.rdText (sl s) 2 (0, false)).2 = X at *
    obtain ⟨o, p', s'⟩ := X
    simp only at cR hro
    clear hm
    go_wp2_with fail
    refine cR.out.mono ?_
    rintro e W2 ⟨g, rfl, hg, hobj, hrd, hgr⟩
    have HOB := hid hobj
    have HRD := hid hrd
    have GR := hid hgr
    have HGG := hid hg
    clear hobj hrd hgr hg cR
    have cD := hid (done_any W1.heap.size s p' s' W2 HRD.out)
    go_wp2_with fail
    refine cD.out.mono ?_
    rintro e W3 ⟨rfl, kd, rfl⟩
    have GF := hid (grown_drewN (grown_above (grown_trans G1.out GA.out) GR.out hz.out) kd)
    clear cD
    have hsz := sl_length s
    by_cases hd : s' = false ∧ p' = s.size
    · obtain ⟨rfl, rfl⟩ := hd
      have hro2 : Lk.readObj (sl s) = some o := by rw [hro.out, if_pos (by rw [hsz])]
      have HRO := hid hro2
      have hgood := ((Lk.readObj_iff (sl s) o).1 hro2).1
      have cV := hid (valid_any g o (W2.drewN kd) (HT.out.grown GF.out) (HOB.out.drewN kd) (good_tame hgood))
      have dd : (!false && decide (s.size = s.size)) = true := by simp
      clear hro2 hgood hsz hro
      go_wp2_with fail
      refine cV.out.mono ?_
      rintro e W4 ⟨t, q⟩
      have GQ := hid (grown_trans GF.out q)
      have HO4 := hid ((HOB.out.drewN kd).kept q)
      rcases t.split with ⟨rfl, pv⟩ | ⟨rfl, pv⟩ <;> clear t q cV
      · go_wp2
        go_ret2
        exact ⟨.inr ⟨fun o' ho' => by have h1 := HRO.out.symm.trans ho'; simp only [Option.some.injEq] at h1; subst h1; exact pv.out, rfl⟩, GQ.out⟩
      · go_wp2
        go_ret2
        refine ⟨.inl ⟨o, g, HRO.out, pv.out, rfl, HO4.out, ?_⟩, GQ.out⟩
        have h1 := HGG.out
        have h2 := hz.out
        simp at h1
        omega
    · have hro2 : Lk.readObj (sl s) = none := by
        rw [hro.out, if_neg]
        intro h
        simp only [Prod.mk.injEq] at h
        exact hd ⟨h.2, by rw [← hsz]; exact h.1⟩
      have HRO := hid hro2
      have dd : (!s' && decide (p' = s.size)) = false := by
        cases s'
        · simp at hd ⊢; exact hd
        · rfl
      clear hro2 hro hsz hd
      go_wp2
      go_ret2
      exact ⟨.inr ⟨fun o' ho' => by have h1 := HRO.out.symm.trans ho'; simp at h1, rfl⟩, GF.out⟩
  · have cR := hid (readObject_no W1.heap.size s 0 false _ HR.out hs (Nat.zero_le _) hm)
    have hro := hid (show Lk.readObj (sl s) = none from by unfold Lk.readObj; rw [if_neg hm])
    clear hm
    go_wp2_with fail
    refine cR.out.mono ?_
    rintro e W2 ⟨rfl, hgr⟩
    have GR := hid hgr
    clear hgr cR
    go_wp2
    go_ret2
    exact ⟨.inr ⟨fun o' ho' => by have h1 := hro.out.symm.trans ho'; simp at h1, rfl⟩, grown_above (grown_trans G1.out GA.out) GR.out hz.out⟩

end Go.Proofs.YtmhbgnlfdiahpaaGreatDoor

namespace Go.Proofs.YtmhbgnlfdiahpaaGreatDoor
open Go.RowKit

/-- an object whose memory is none of a Writer's in block b -/
structure ObjB (W : World) (b g : Nat) (o : Lk.Obj) (at_ : Option Addr) (ct : Nat) (af : Option Addr) (cf : Nat) (ad : Option Addr) (cd : Nat) (aa : Option Addr) (ca : Nat) (as_ : Option Addr) (cs : Nat) (ar : Option Addr) (cr : Nat) : Prop where
  blk : BlkAt W g #[.slice at_ o.text.length ct, .slice af o.far.length cf, .slice ad o.data.length cd, .int .i64 o.bss, .slice aa o.align.length ca, .slice as_ o.syms.length cs, .slice ar o.rels.length cr] 56
  ne : g ≠ b
  text : IntsB W b at_ o.text
  far : IntsB W b af o.far
  data : IntsB W b ad o.data
  align : IntsB W b aa o.align
  syms : SymsB W b as_ o.syms
  rels : RelsB W b ar o.rels

section
variable {W W' : World} {b g : Nat} {o : Lk.Obj} {at_ af ad aa as_ ar : Option Addr} {ct cf cd ca cs cr : Nat}
theorem ObjB.kept (h : ObjB W b g o at_ ct af cf ad cd aa ca as_ cs ar cr) (hk : Wk b W W') : ObjB W' b g o at_ ct af cf ad cd aa ca as_ cs ar cr :=
  ⟨hk.2 g _ _ h.ne (by decide) h.blk, h.ne, h.text.kept hk, h.far.kept hk, h.data.kept hk, h.align.kept hk, h.syms.kept hk, h.rels.kept hk⟩
end

theorem ObjAt.toB {W : World} {g : Nat} {o : Lk.Obj} (h : ObjAt W g o) (ob : Obj) : ∃ at_ ct af cf ad cd aa ca as_ cs ar cr, ObjB (W.alloc ob) W.heap.size g o at_ ct af cf ad cd aa ca as_ cs ar cr := by
  obtain ⟨at_, ct, af, cf, ad, cd, aa, ca, as_, cs, ar, cr, hb, h1, h2, h3, h4, h5, h6⟩ := h.open
  have ne : ∀ {e : TypeId} {size : Nat} {ao : Option Addr} {n cap : Nat} {xs : List Value}, W.ownsRow 0 e size (.slice ao n cap) n xs → ∀ k, Value.ownBlock (.slice ao n cap) = some k → k ≠ W.heap.size := fun h k hk => by have := (h.lt k hk).2; omega
  refine ⟨at_, ct, af, cf, ad, cd, aa, ca, as_, cs, ar, cr, hb.grown (World.grownBy_alloc _ _ none) (by simp), by have := hb.lt; omega, ?_, ?_, ?_, ?_, ?_, ?_⟩
  · exact IntsB.of_own (h1.alloc _) (ne h1)
  · exact IntsB.of_own (h2.alloc _) (ne h2)
  · exact IntsB.of_own (h3.alloc _) (ne h3)
  · exact IntsB.of_own (h4.alloc _) (ne h4)
  · exact SymsB.of_own (h5.alloc _) (ne h5)
  · exact RelsB.of_own (h6.alloc _) (ne h6)

/-- while an object is written -/
structure St4 (w : World) (b g : Nat) (o : Lk.Obj) (at_ : Option Addr) (ct : Nat) (af : Option Addr) (cf : Nat) (ad : Option Addr) (cd : Nat) (aa : Option Addr) (ca : Nat) (as_ : Option Addr) (cs : Nat) (ar : Option Addr) (cr : Nat) (l : List UInt8) (W : World) : Prop where
  wr : WrAt W b l
  ob : ObjB W b g o at_ ct af cf ad cd aa ca as_ cs ar cr
  be : Below b w W

section
variable {w W W' : World} {b g : Nat} {o : Lk.Obj} {at_ af ad aa as_ ar : Option Addr} {ct cf cd ca cs cr : Nat} {l l' : List UInt8}
theorem St4.step (h : St4 w b g o at_ ct af cf ad cd aa ca as_ cs ar cr l W) (hw : WrAt W' b l') (hk : Wk b W W') : St4 w b g o at_ ct af cf ad cd aa ca as_ cs ar cr l' W' :=
  ⟨hw, h.ob.kept hk, h.be.trans hk.1⟩
end

theorem syms_snoc {α : Type} (f : α → List UInt8) (ys : List α) (k : Nat) (h : k < ys.length) : (ys.take (k + 1)).flatMap f = (ys.take k).flatMap f ++ f ys[k] := by
  rw [List.take_succ_eq_append_getElem h, List.flatMap_append]
  simp
theorem flat_le {α : Type} (f : α → List UInt8) (c : Nat) (ys : List α) (hf : ∀ y ∈ ys, (f y).length ≤ c) : (ys.flatMap f).length ≤ ys.length * c := by
  induction ys with
  | nil => simp
  | cons y t ih =>
    have h1 := hf y (by simp)
    have h2 := ih (fun z hz => hf z (by simp [hz]))
    rw [List.flatMap_cons, List.length_append, List.length_cons, Nat.succ_mul]
    omega
theorem flat_take_le {α : Type} (f : α → List UInt8) (c k : Nat) (ys : List α) (hf : ∀ y ∈ ys, (f y).length ≤ c) : ((ys.take k).flatMap f).length ≤ ys.length * c := by
  have h1 := flat_le f c (ys.take k) (fun y hy => hf y (List.mem_of_mem_take hy))
  have h2 : (ys.take k).length * c ≤ ys.length * c := Nat.mul_le_mul_right c (by simp; omega)
  omega
theorem symB_le (y : Lk.Sym) (h : Lk.goodSym y) : (Lk.symB y).length ≤ 260 := by
  have := h.1
  simp only [Lk.symB, List.length_append, Lk.le_length]
  omega
theorem relB_le (r : Lk.Rel) : (Lk.relB r).length ≤ 7 := by
  simp only [Lk.relB, List.length_append, Lk.le_length]
  omega

set_option maxHeartbeats 8000000 in
theorem write_yes (g : Nat) (o : Lk.Obj) (w : World) (ht : Tabs w) (h : ObjAt w g o) (hgood : Lk.goodObj o) (hv : Valid o) :
    Calls Tryz.prog 13 #[.pointer (some ⟨g, 0, none⟩)] w fun e w' => e = .returned (.tuple #[.string (bs (Lk.objB o)), .int .i64 0]) ∧ w.grownBy w' none := by
  have cV := hid (valid_any g o w ht h (good_tame hgood))
  have HV := hid hv
  have HO := hid h
  have HGO := hid hgood
  obtain ⟨z1, z2, z3, z4, z5, z6, z7, z8, z9, z10, z11, z12, z13⟩ := hgood
  obtain ⟨⟨s1, s2, s3⟩, s4, s5, s6⟩ := hv.1
  have HS := hid z9
  have HRL := hid z10
  have HW1 := hid z6
  have HWt := hid z11
  have HWf := hid z12
  have HWd := hid z13
  have z5a : o.align.length ≤ 4 := by omega
  clear ht h hv z9 z10 z6 z11 z12 z13 z5
  go_enter Tryz.func13, Tryz.ntmps13
  go_wp2_with fail
  refine cV.out.mono ?_
  rintro e W1 ⟨tv, q1⟩
  obtain rfl := tells_yes tv HV.out
  have Q1 := hid q1
  have HO1 := hid (HO.out.kept q1)
  clear tv q1 cV
  go_wp2_with fail
  obtain ⟨at_, ct, af, cf, ad, cd, aa, ca, as_, cs, ar, cr, hob⟩ := HO1.out.toB (.cells #[.slice none 0 0] 66)
  have S0 : Hid (St4 W1 W1.heap.size g o at_ ct af cf ad cd aa ca as_ cs ar cr [] (W1.alloc (.cells #[.slice none 0 0] 66))) := ⟨wrAt_new W1, hob, (Below.refl _ _).alloc (Nat.le_refl _) _⟩
  clear hob
  generalize hbb : W1.heap.size = b at *
  have HBB := hid hbb
  clear hbb
  refine Calls.at_world (St4 W1 b g o at_ ct af cf ad cd aa ca as_ cs ar cr []) S0.out ?_
  clear S0
  intro V0 h0
  have S0 := hid h0
  clear h0
  refine (wText_any b ⟨#[76, 75]⟩ [] V0 S0.out.wr (by simp) (by decide)).mono ?_
  rintro e V1 ⟨rfl, hw, hk⟩
  have S1 := hid (S0.out.step hw hk)
  clear S0
  generalize hE1 : [] ++ sl ⟨#[76, 75]⟩ = l1 at *
  have n1 : l1.length ≤ 2 := by rw [← hE1]; decide
  have E1 := hid hE1
  clear hE1 hw hk
  have k0 := S1.out.ob.blk.cell 0
  go_wp2_with fail
  refine (wNumber_lit b (o.text.length : Int) 2 2 rfl l1 V1 S1.out.wr (by omega) (by omega) (by omega) (by omega)).mono ?_
  rintro e V2 ⟨rfl, hw, hk⟩
  have S2 := hid (S1.out.step hw hk)
  clear S1 k0
  generalize hE2 : l1 ++ Lk.le (o.text.length : Int) 2 = l2 at *
  have n2 : l2.length ≤ 4 := by rw [← hE2, List.length_append, Lk.le_length]; omega
  have E2 := hid hE2
  clear hE2 hw hk
  have k0 := S2.out.ob.blk.cell 1
  go_wp2_with fail
  refine (wNumber_lit b (o.far.length : Int) 2 2 rfl l2 V2 S2.out.wr (by omega) (by omega) (by omega) (by omega)).mono ?_
  rintro e V3 ⟨rfl, hw, hk⟩
  have S3 := hid (S2.out.step hw hk)
  clear S2 k0
  generalize hE3 : l2 ++ Lk.le (o.far.length : Int) 2 = l3 at *
  have n3 : l3.length ≤ 6 := by rw [← hE3, List.length_append, Lk.le_length]; omega
  have E3 := hid hE3
  clear hE3 hw hk
  have k0 := S3.out.ob.blk.cell 2
  go_wp2_with fail
  refine (wNumber_lit b (o.data.length : Int) 2 2 rfl l3 V3 S3.out.wr (by omega) (by omega) (by omega) (by omega)).mono ?_
  rintro e V4 ⟨rfl, hw, hk⟩
  have S4 := hid (S3.out.step hw hk)
  clear S3 k0
  generalize hE4 : l3 ++ Lk.le (o.data.length : Int) 2 = l4 at *
  have n4 : l4.length ≤ 8 := by rw [← hE4, List.length_append, Lk.le_length]; omega
  have E4 := hid hE4
  clear hE4 hw hk
  have k0 := S4.out.ob.blk.cell 3
  go_wp2_with fail
  refine (wNumber_lit b o.bss 2 2 rfl l4 V4 S4.out.wr (by omega) (by omega) (by omega) (by omega)).mono ?_
  rintro e V5 ⟨rfl, hw, hk⟩
  have S5 := hid (S4.out.step hw hk)
  clear S4 k0
  generalize hE5 : l4 ++ Lk.le o.bss 2 = l5 at *
  have n5 : l5.length ≤ 10 := by rw [← hE5, List.length_append, Lk.le_length]; omega
  have E5 := hid hE5
  clear hE5 hw hk
  have k0 := S5.out.ob.blk.cell 4
  go_wp2_with fail
  refine (writeNumbers_any b aa ca 1 1 rfl o.align l5 V5 S5.out.wr S5.out.ob.align (by omega) (by omega) (by omega) (fun i hi => by have := HW1.out _ (List.getElem_mem hi); simp only [Int.reducePow] at this; omega)).mono ?_
  rintro e V6 ⟨rfl, hw, hk⟩
  have S6 := hid (S5.out.step hw hk)
  clear S5 k0
  generalize hE6 : l5 ++ Lk.nums o.align 1 = l6 at *
  have n6 : l6.length ≤ 14 := by rw [← hE6, List.length_append, nums_length]; omega
  have E6 := hid hE6
  clear hE6 hw hk
  have k0 := S6.out.ob.blk.cell 5
  go_wp2_with fail
  refine (wNumber_lit b (o.syms.length : Int) 1 1 rfl l6 V6 S6.out.wr (by omega) (by omega) (by omega) (by omega)).mono ?_
  rintro e V7 ⟨rfl, hw, hk⟩
  have S7 := hid (S6.out.step hw hk)
  clear S6 k0
  generalize hE7 : l6 ++ Lk.le (o.syms.length : Int) 1 = l7 at *
  have n7 : l7.length ≤ 15 := by rw [← hE7, List.length_append, Lk.le_length]; omega
  have E7 := hid hE7
  clear hE7 hw hk
  have k0 := S7.out.ob.blk.cell 6
  go_wp2_with fail
  refine (wNumber_lit b (o.rels.length : Int) 1 1 rfl l7 V7 S7.out.wr (by omega) (by omega) (by omega) (by omega)).mono ?_
  rintro e V8 ⟨rfl, hw, hk⟩
  have S8 := hid (S7.out.step hw hk)
  clear S7 k0
  generalize hE8 : l7 ++ Lk.le (o.rels.length : Int) 1 = l8 at *
  have n8 : l8.length ≤ 16 := by rw [← hE8, List.length_append, Lk.le_length]; omega
  have E8 := hid hE8
  clear hE8 hw hk
  have k0 := S8.out.ob.blk.cell 5
  go_wp2
  go_loopw [63] (fun i wr => ∃ n : Nat, n ≤ o.syms.length ∧ i = .int .i64 n ∧ St4 W1 b g o at_ ct af cf ad cd aa ca as_ cs ar cr (l8 ++ (o.syms.take n).flatMap Lk.symB) wr) (fun i _ => o.syms.length - (intOf i).toNat)
  case atStart => exact ⟨0, Nat.zero_le _, rfl, by simpa using S8.out⟩
  case round =>
    obtain ⟨n, hn, rfl, hst⟩ := hrel
    have ST := hid hst
    clear hst
    by_cases hlt : n < o.syms.length
    · obtain ⟨sg, bs0, hao, hne, hbk, hc⟩ := ST.out.ob.syms (by omega)
      subst hao
      obtain ⟨q0, q1, q2, q3⟩ := hc n hlt
      have m0 := (hbk.cell (n * 4)).trans q0
      have m1 := (hbk.cell (n * 4 + 1)).trans q1
      have m2 := (hbk.cell (n * 4 + 2)).trans q2
      have m3 := (hbk.cell (n * 4 + 3)).trans q3
      have hgl := hbk.lt
      have hwb : b < wr.heap.size := by obtain ⟨_, _, x1, _⟩ := ST.out.wr; exact x1.lt
      have hgd := HS.out _ (List.getElem_mem hlt)
      have hlen : (l8 ++ (o.syms.take n).flatMap Lk.symB).length ≤ 1048576 := by
        have := flat_take_le Lk.symB 260 n o.syms (fun y hy => symB_le y (HS.out y hy))
        rw [List.length_append]
        omega
      have STA := hid (St3.begin ST.out.wr #[.string (bs o.syms[n].name), .int .i64 o.syms[n].bind, .int .i64 o.syms[n].sect, .int .i64 o.syms[n].off] 71)
      have cW := hid (fun W hW => writeSymbol_any b o.syms[n] (l8 ++ (o.syms.take n).flatMap Lk.symB) W hW hlen hgd)
      clear hbk hc q0 q1 q2 q3 hgd hlen k0
      go_wp2_with fail
      refine (cW.out _ STA.out.wr).mono ?_
      rintro e W2 ⟨rfl, hw, hk⟩
      have S2 := hid (ST.out.step hw (STA.out.wk.trans hk))
      clear hw hk
      go_wp2
      go_roundw
      case rel => exact ⟨n + 1, by omega, by go_num, by rw [syms_snoc Lk.symB o.syms n hlt, ← List.append_assoc]; exact S2.out⟩
      case measure => simp [intOf]; omega
    · have S9' := ST.out
      rw [List.take_of_length_le (show o.syms.length ≤ n by omega)] at S9'
      have S9 := hid S9'
      clear S9' ST k0 S8
      generalize hE9 : l8 ++ o.syms.flatMap Lk.symB = l9 at *
      have n9 : l9.length ≤ 4176 := by
        have := flat_le Lk.symB 260 o.syms (fun y hy => symB_le y (HS.out y hy))
        rw [← hE9, List.length_append]
        omega
      have E9 := hid hE9
      clear hE9
      have k0 := S9.out.ob.blk.cell 6
      go_wp2
      go_loopw [75] (fun i wr => ∃ n : Nat, n ≤ o.rels.length ∧ i = .int .i64 n ∧ St4 W1 b g o at_ ct af cf ad cd aa ca as_ cs ar cr (l9 ++ (o.rels.take n).flatMap Lk.relB) wr) (fun i _ => o.rels.length - (intOf i).toNat)
      case atStart => exact ⟨0, Nat.zero_le _, rfl, by simpa using S9.out⟩
      case round =>
        obtain ⟨n, hn, rfl, hst⟩ := hrel
        have ST := hid hst
        clear hst
        by_cases hlt : n < o.rels.length
        · obtain ⟨sg, bs0, hao, hne, hbk, hc⟩ := ST.out.ob.rels (by omega)
          subst hao
          obtain ⟨q0, q1, q2, q3, q4⟩ := hc n hlt
          have m0 := (hbk.cell (n * 5)).trans q0
          have m1 := (hbk.cell (n * 5 + 1)).trans q1
          have m2 := (hbk.cell (n * 5 + 2)).trans q2
          have m3 := (hbk.cell (n * 5 + 3)).trans q3
          have m4 := (hbk.cell (n * 5 + 4)).trans q4
          have hgl := hbk.lt
          have hwb : b < wr.heap.size := by obtain ⟨_, _, x1, _⟩ := ST.out.wr; exact x1.lt
          have hgd := HRL.out _ (List.getElem_mem hlt)
          have hlen : (l9 ++ (o.rels.take n).flatMap Lk.relB).length ≤ 1048576 := by
            have := flat_take_le Lk.relB 7 n o.rels (fun y hy => relB_le y)
            rw [List.length_append]
            omega
          have STA := hid (St3.begin ST.out.wr #[.int .i64 o.rels[n].sect, .int .i64 o.rels[n].off, .int .i64 o.rels[n].kind, .int .i64 o.rels[n].sym, .int .i64 o.rels[n].addend] 75)
          have cW := hid (fun W hW => writeReloc_any b o.rels[n] (l9 ++ (o.rels.take n).flatMap Lk.relB) W hW hlen hgd)
          clear hbk hc q0 q1 q2 q3 q4 hgd hlen k0
          go_wp2_with fail
          refine (cW.out _ STA.out.wr).mono ?_
          rintro e W2 ⟨rfl, hw, hk⟩
          have S2 := hid (ST.out.step hw (STA.out.wk.trans hk))
          clear hw hk
          go_wp2
          go_roundw
          case rel => exact ⟨n + 1, by omega, by go_num, by rw [syms_snoc Lk.relB o.rels n hlt, ← List.append_assoc]; exact S2.out⟩
          case measure => simp [intOf]; omega
        · have S10' := ST.out
          rw [List.take_of_length_le (show o.rels.length ≤ n by omega)] at S10'
          have S10 := hid S10'
          clear S10' ST k0 S9
          generalize hE10 : l9 ++ o.rels.flatMap Lk.relB = l10 at *
          have n10 : l10.length ≤ 4400 := by
            have := flat_le Lk.relB 7 o.rels (fun y hy => relB_le y)
            rw [← hE10, List.length_append]
            omega
          have E10 := hid hE10
          clear hE10
          have k0 := S10.out.ob.blk.cell 0
          go_wp2_with fail
          refine (writeNumbers_any b at_ ct 4 4 rfl o.text l10 wr S10.out.wr S10.out.ob.text (by omega) (by omega) (by omega) (fun i hi => by have := HWt.out _ (List.getElem_mem hi); simp only [Int.reducePow] at this; omega)).mono ?_
          rintro e V11 ⟨rfl, hw, hk⟩
          have S11 := hid (S10.out.step hw hk)
          clear S10 k0
          generalize hE11 : l10 ++ Lk.nums o.text 4 = l11 at *
          have n11 : l11.length ≤ 9200 := by rw [← hE11, List.length_append, nums_length]; omega
          have E11 := hid hE11
          clear hE11 hw hk
          have k0 := S11.out.ob.blk.cell 1
          go_wp2_with fail
          refine (writeNumbers_any b af cf 4 4 rfl o.far l11 V11 S11.out.wr S11.out.ob.far (by omega) (by omega) (by omega) (fun i hi => by have := HWf.out _ (List.getElem_mem hi); simp only [Int.reducePow] at this; omega)).mono ?_
          rintro e V12 ⟨rfl, hw, hk⟩
          have S12 := hid (S11.out.step hw hk)
          clear S11 k0
          generalize hE12 : l11 ++ Lk.nums o.far 4 = l12 at *
          have n12 : l12.length ≤ 14000 := by rw [← hE12, List.length_append, nums_length]; omega
          have E12 := hid hE12
          clear hE12 hw hk
          have k0 := S12.out.ob.blk.cell 2
          go_wp2_with fail
          refine (writeNumbers_any b ad cd 4 4 rfl o.data l12 V12 S12.out.wr S12.out.ob.data (by omega) (by omega) (by omega) (fun i hi => by have := HWd.out _ (List.getElem_mem hi); simp only [Int.reducePow] at this; omega)).mono ?_
          rintro e V13 ⟨rfl, hw, hk⟩
          have S13 := hid (S12.out.step hw hk)
          clear S12 k0
          generalize hE13 : l12 ++ Lk.nums o.data 4 = l13 at *
          have n13 : l13.length ≤ 14256 := by rw [← hE13, List.length_append, nums_length]; omega
          have E13 := hid hE13
          clear hE13 hw hk
          go_wp2_with fail
          refine (wBytes_any b l13 V13 S13.out.wr).mono ?_
          rintro e V14 ⟨rfl, hv14⟩
          subst hv14
          go_wp2
          go_ret2
          have hfin : l13 = Lk.objB o := by
            rw [← E13.out, ← E12.out, ← E11.out, ← E10.out, ← E9.out, ← E8.out, ← E7.out, ← E6.out, ← E5.out, ← E4.out, ← E3.out, ← E2.out, ← E1.out]
            simp [Lk.objB, sl]
          refine ⟨by rw [hfin]; rfl, ?_⟩
          have hb := S13.out.be
          exact ⟨hb.os.trans Q1.out.os, hb.tape.trans Q1.out.tape, hb.output.trans Q1.out.output, Nat.le_trans Q1.out.size hb.size, fun i hi _ => (hb.block i (by have := Q1.out.size; have := HBB.out; omega)).trans (Q1.out.block i hi (by simp))⟩

end Go.Proofs.YtmhbgnlfdiahpaaGreatDoor

namespace Go.Proofs.YtmhbgnlfdiahpaaGreatDoor
open Go.RowKit

theorem symB_length (y : Lk.Sym) : (Lk.symB y).length = 5 + y.name.length := by
  simp only [Lk.symB, List.length_append, Lk.le_length]
  omega
theorem relB_length (r : Lk.Rel) : (Lk.relB r).length = 7 := by
  simp only [Lk.relB, List.length_append, Lk.le_length]

theorem numsB_length (ys : List Int) (n : Nat) : (Lk.nums ys n).length = n * ys.length := by
  induction ys with
  | nil => rfl
  | cons y t ih => simp only [Lk.nums, List.flatMap_cons, List.length_append, Lk.le_length, List.length_cons, Nat.mul_add] at *; omega

theorem wordsOf_le {o : Lk.Obj} (h : Sizes o) (sect : Int) : (wordsOf o sect).length ≤ 1200 := by
  obtain ⟨⟨n1, n2, n3⟩, -⟩ := h
  unfold wordsOf
  split
  · exact n1
  split
  · exact n2
  split
  · omega
  · simp

theorem words_good {xs : List Int} (h : Words xs) : Lk.goodWords 4 xs := fun x hx => by
  obtain ⟨i, hi, rfl⟩ := List.getElem_of_mem hx
  have := h i hi
  simp only [Int.reducePow]
  omega

theorem valid_good {o : Lk.Obj} (h : Valid o) : Lk.goodObj o := by
  obtain ⟨hz, hb, hw, hs, hr⟩ := h
  have hz' := hz
  obtain ⟨⟨n1, n2, n3⟩, n4, n5, n6⟩ := hz
  refine ⟨by omega, by omega, by omega, by omega, hb.1, ?_, by omega, by omega, ?_, ?_, words_good hw.1, words_good hw.2.1, words_good hw.2.2⟩
  · intro x hx
    obtain ⟨i, hi, rfl⟩ := List.getElem_of_mem hx
    have := hb.2 i hi
    simp only [Int.reducePow]
    omega
  · intro y hy
    obtain ⟨i, hi, rfl⟩ := List.getElem_of_mem hy
    obtain ⟨⟨k1, k2, k3, -, k4, -, k5⟩, -⟩ := hs i hi
    have hl : (bs (o.syms[i]).name).size = (o.syms[i]).name.length := rfl
    have k6 := k1.2.1
    have hw := wordsOf_le hz' (o.syms[i]).sect
    refine ⟨by omega, by omega, by omega, by omega, ?_⟩
    unfold seclen at k5
    split at k5 <;> omega
  · intro r hr'
    obtain ⟨i, hi, rfl⟩ := List.getElem_of_mem hr'
    obtain ⟨⟨k1, k2, k3, -, k5, -, -⟩, -⟩ := hr i hi
    have hsp := span_range k2
    have hw := wordsOf_le hz' (o.rels[i]).sect
    unfold AboutOk at k5
    unfold KindOk at k1
    unfold SymIx at k3
    unfold AddendOk at k2
    refine ⟨by omega, by omega, by omega, ?_, ?_⟩
    · split at k3 <;> omega
    · split at k2
      · omega
      · split at k2 <;> omega

theorem flatB_le {α : Type} (f : α → List UInt8) (m : Nat) (xs : List α) (h : ∀ x ∈ xs, (f x).length ≤ m) : (xs.flatMap f).length ≤ m * xs.length := by
  induction xs with
  | nil => simp
  | cons x t ih =>
    have h1 := h x (by simp)
    have h2 := ih (fun y hy => h y (by simp [hy]))
    simp only [List.flatMap_cons, List.length_append, List.length_cons, Nat.mul_add]
    omega

theorem valid_short {o : Lk.Obj} (h : Valid o) : (Lk.objB o).length ≤ 65535 := by
  obtain ⟨hz, hb, hw, hs, hr⟩ := h
  obtain ⟨⟨n1, n2, n3⟩, n4, n5, n6⟩ := hz
  have e1 : (o.syms.flatMap Lk.symB).length ≤ 11 * o.syms.length := flatB_le _ _ _ fun y hy => by
    obtain ⟨i, hi, rfl⟩ := List.getElem_of_mem hy
    have k6 := (hs i hi).1.1.2.1
    have hl : (bs (o.syms[i]).name).size = (o.syms[i]).name.length := rfl
    rw [symB_length]
    omega
  have e2 : (o.rels.flatMap Lk.relB).length ≤ 7 * o.rels.length := flatB_le _ _ _ fun y _ => by rw [relB_length]; omega
  have e3 := numsB_length o.align 1
  have e4 := numsB_length o.text 4
  have e5 := numsB_length o.far 4
  have e6 := numsB_length o.data 4
  have := hb.1
  simp only [Lk.objB, List.length_append, Lk.le_length, List.length_cons, List.length_nil]
  omega

end Go.Proofs.YtmhbgnlfdiahpaaGreatDoor

namespace Go.Proofs.YtmhbgnlfdiahpaaGreatDoor
open Go.RowKit

set_option maxHeartbeats 1000000 in
theorem write_no (g : Nat) (o : Lk.Obj) (w : World) (ht : Tabs w) (h : ObjAt w g o) (hn : Tame o) (hv : ¬ Valid o) :
    Calls Tryz.prog 13 #[.pointer (some ⟨g, 0, none⟩)] w fun e w' => e = .returned (.tuple #[.string ⟨#[]⟩, .int .i64 20]) ∧ w.grownBy w' none := by
  have cV := hid (valid_any g o w ht h hn)
  have HV := hid hv
  clear ht h hv hn
  go_enter Tryz.func13, Tryz.ntmps13
  go_wp2_with fail
  refine cV.out.mono ?_
  rintro e W1 ⟨tv, q1⟩
  rcases tv.split with ⟨rfl, _⟩ | ⟨_, p⟩
  · have Q := hid q1
    clear q1
    go_wp2
    go_ret2
    exact ⟨rfl, Q.out⟩
  · exact absurd p.out HV.out

/-- what is written of an object, be it one or not -/
theorem write_said (g : Nat) (o : Lk.Obj) (w : World) (ht : Tabs w) (h : ObjAt w g o) (hn : Tame o) :
    Calls Tryz.prog 13 #[.pointer (some ⟨g, 0, none⟩)] w fun e w' => ((e = .returned (.tuple #[.string (bs (Lk.objB o)), .int .i64 0]) ∧ Valid o) ∨ (e = .returned (.tuple #[.string (bs []), .int .i64 20]) ∧ ¬ Valid o)) ∧ w.grownBy w' none := by
  by_cases hv : Valid o
  · exact (write_yes g o w ht h (valid_good hv) hv).mono fun e w' k => ⟨.inl ⟨k.1, hv⟩, k.2⟩
  · exact (write_no g o w ht h hn hv).mono fun e w' k => ⟨.inr ⟨k.1, hv⟩, k.2⟩

end Go.Proofs.YtmhbgnlfdiahpaaGreatDoor

namespace Go.Proofs.YtmhbgnlfdiahpaaGreatDoor
open Go.RowKit

/-- what Assemble tells of a text -/
def Told (s t : List UInt8) (fe fa : Nat) : Prop :=
  ((As.assemble s).1.1 ≠ 0 ∧ t = [] ∧ fe = (As.assemble s).1.1 ∧ fa = (As.assemble s).1.2) ∨
  ((As.assemble s).1.1 = 0 ∧ Valid (As.assemble s).2 ∧ t = Lk.objB (As.assemble s).2 ∧ fe = 0 ∧ fa = 0) ∨
  ((As.assemble s).1.1 = 0 ∧ ¬ Valid (As.assemble s).2 ∧ t = [] ∧ fe = 20 ∧ fa = 0)

def faultA (fe fa : Nat) : Value := .agg #[.int .i64 fe, .int .i64 fa, .string ⟨#[]⟩]
def faultC (fe fa : Nat) : Array Value := #[.int .i64 fe, .int .i64 fa, .string ⟨#[]⟩]

/-- where Assemble's loop begins -/
def asmW (s : ByteArray) (w : World) : World :=
  (((w.alloc (.cells (faultC 0 0) 25)).alloc (.cells (asmCells s (w.heap.size + 1 + 1 + 1) As.start) 51)).alloc (.cells #[.int .i64 2, .int .i64 2, .int .i64 2, .int .i64 2] 3)).alloc
    (.cells #[.slice none 0 0, .slice none 0 0, .slice none 0 0, .int .i64 0, .slice (some ⟨w.heap.size + 1 + 1, 0, none⟩) 4 4, .slice none 0 0, .slice none 0 0] 56)

theorem asmW_grown (s : ByteArray) (w : World) : w.grownBy (asmW s w) none :=
  grown_trans (grown_trans (grown_trans (World.grownBy_alloc _ _ _) (World.grownBy_alloc _ _ _)) (World.grownBy_alloc _ _ _)) (World.grownBy_alloc _ _ _)
theorem asmW_fault (s : ByteArray) (w : World) : BlkAt (asmW s w) w.heap.size (faultC 0 0) 25 :=
  (BlkAt.new w (faultC 0 0) 25).grown (grown_trans (grown_trans (World.grownBy_alloc _ _ none) (World.grownBy_alloc _ _ none)) (World.grownBy_alloc _ _ none)) (by simp)
theorem size_alloc (w : World) (o : Obj) : (w.alloc o).heap.size = w.heap.size + 1 := Array.size_push _
theorem start_ok (s : ByteArray) (hs : s.size ≤ 1000) : StOk s As.start :=
  ⟨hs, Nat.zero_le _, tokNil_ok, by decide, by decide, tokNil_ok, by decide, by decide, by decide, by decide, by decide, by decide, by decide, by decide⟩
theorem asmW_at (s : ByteArray) (w : World) (ht : Tabs w) (hB : 3 ≤ w.heap.size) (hs : s.size ≤ 1000) :
    AsmAt w.heap.size s (w.heap.size + 1) (w.heap.size + 1 + 1 + 1) As.start (asmW s w) := by
  have b1 := BlkAt.new (w.alloc (.cells (faultC 0 0) 25)) (asmCells s (w.heap.size + 1 + 1 + 1) As.start) 51
  have b2 := BlkAt.new ((w.alloc (.cells (faultC 0 0) 25)).alloc (.cells (asmCells s (w.heap.size + 1 + 1 + 1) As.start) 51)) #[.int .i64 2, .int .i64 2, .int .i64 2, .int .i64 2] 3
  have b3 := BlkAt.new (((w.alloc (.cells (faultC 0 0) 25)).alloc (.cells (asmCells s (w.heap.size + 1 + 1 + 1) As.start) 51)).alloc (.cells #[.int .i64 2, .int .i64 2, .int .i64 2, .int .i64 2] 3)) #[.slice none 0 0, .slice none 0 0, .slice none 0 0, .int .i64 0, .slice (some ⟨w.heap.size + 1 + 1, 0, none⟩) 4 4, .slice none 0 0, .slice none 0 0] 56
  rw [size_alloc] at b1
  rw [size_alloc, size_alloc] at b2
  rw [size_alloc, size_alloc, size_alloc] at b3
  refine ⟨b1.grown (grown_trans (World.grownBy_alloc _ _ none) (World.grownBy_alloc _ _ none)) (by simp), ⟨.slice none 0 0, .slice none 0 0, .slice none 0 0, .slice (some ⟨w.heap.size + 1 + 1, 0, none⟩) 4 4, .slice none 0 0, .slice none 0 0, ?_⟩, ⟨hB, by omega, by omega, by omega⟩, start_ok s hs, ht.grown (asmW_grown s w)⟩
  refine ⟨b3, World.ownsRow_nil _ _ _ _, World.ownsRow_nil _ _ _ _, World.ownsRow_nil _ _ _ _, ⟨rfl, .inr ⟨w.heap.size + 1 + 1, 4, #[.int .i64 2, .int .i64 2, .int .i64 2, .int .i64 2], rfl, by omega, b2.grown (World.grownBy_alloc _ _ none) (by simp), Nat.le_refl 4, by decide, rfl, rfl⟩⟩, World.ownsRow_nil _ _ _ _, World.ownsRow_nil _ _ _ _, ?_⟩
  unfold Apart blkV Value.ownBlock
  simp
  omega

theorem fin_grown {w W V : World} (h : w.grownBy W none) (hb : Below w.heap.size W V) : w.grownBy V none :=
  ⟨hb.os.trans h.os, hb.tape.trans h.tape, hb.output.trans h.output, Nat.le_trans h.size hb.size, fun i hi _ => (hb.block i hi).trans (h.block i hi (by simp))⟩
theorem fin_sets {w V : World} (h : w.grownBy V none) (r : Nat) (hr : w.heap.size ≤ r) (l : List (Nat × Value)) : w.grownBy (sets V r l) none := by
  have g := sets_grown V r l
  exact ⟨g.os.trans h.os, g.tape.trans h.tape, g.output.trans h.output, Nat.le_trans h.size g.size, fun i hi _ => (g.block i (Nat.lt_of_lt_of_le hi h.size) (by simp; omega)).trans (h.block i hi (by simp))⟩
theorem own_zero {W : World} {B : Nat} {e : TypeId} {size n : Nat} {v : Value} {xs : List Value} (h : W.ownsRow B e size v n xs) : W.ownsRow 0 e size v n xs :=
  ⟨h.1, h.2.imp id fun ⟨g, cap, cur, e, _, r⟩ => ⟨g, cap, cur, e, Nat.zero_le _, r⟩⟩
theorem mem_order {rs : List Lk.Rel} {r : Lk.Rel} (h : r ∈ As.orderRels rs) : r ∈ rs := by
  unfold As.orderRels at h
  simp only [List.mem_append, List.mem_filter] at h
  rcases h with (h | h) | h <;> exact h.1
theorem finish_tame {s : ByteArray} {st : As.St} (hok : StOk s st) (h : As.Tm st.obj) : Tame (As.finish st.obj) := by
  have h1 := hok.syms
  have h2 := hok.rels
  have h3 := hok.align
  have h4 := order_le st.obj.rels
  refine ⟨⟨?_, ?_, ?_, ?_, ?_, ?_⟩, fun y hy => ?_, fun r hr => ?_⟩
  · have := h.text; show st.obj.text.length ≤ _; omega
  · have := h.far; show st.obj.far.length ≤ _; omega
  · have := h.data; show st.obj.data.length ≤ _; omega
  · show st.obj.align.length ≤ _; omega
  · show (As.bindRest st.obj.syms).length ≤ _; simp [As.bindRest]; omega
  · show (As.orderRels st.obj.rels).length ≤ _; omega
  · obtain ⟨x, hx, rfl⟩ := List.mem_map.1 hy
    have := h.names x hx
    split <;> simp <;> omega
  · have := h.offs r (mem_order hr); omega

def Looped (s : ByteArray) (w : World) (m : Value) (wr : World) : Prop :=
  ∃ st : As.St, Does w.heap.size s (w.heap.size + 1) (w.heap.size + 1 + 1 + 1) (asmW s w) st wr ∧
    ((m = .bool true ∧ ∃ n, As.lines (sl s) (s.size + 1) As.start = As.lines (sl s) n st ∧ s.size - st.p + 1 ≤ n) ∨ (m = .bool false ∧ As.lines (sl s) (s.size + 1) As.start = st))
def loopM (s : ByteArray) (w : World) (m : Value) (wr : World) : Nat := match m with
  | .bool true => s.size - posOf (w.heap.size + 1) wr + 1
  | _ => 0
theorem AsmAt.pos {B : Nat} {s : ByteArray} {b g : Nat} {st : As.St} {W : World} (h : AsmAt B s b g st W) : posOf b W = st.p := by
  have := asm_cell h 1
  simp only [asmCells, List.getElem?_toArray, List.getElem?_cons_succ, List.getElem?_cons_zero] at this
  unfold posOf
  rw [this]
  simp

set_option maxRecDepth 100000 in
set_option maxHeartbeats 8000000 in
theorem assemble_any (s : ByteArray) (w : World) (ht : Tabs w) (hN : NTab w) (hB : 3 ≤ w.heap.size) :
    Calls Tryz.prog 11 #[.string s] w fun e w' => (∃ t fe fa, e = .returned (.tuple #[.string (bs t), faultA fe fa]) ∧ Told (sl s) t fe fa) ∧ w.grownBy w' none := by
  have HT := hid ht
  have HN := hid hN
  clear ht hN
  by_cases hl : 1000 < s.size
  · have d : decide (1000 < (s.size : Int)) = true := by simp; omega
    have RA := hid (show As.assemble (sl s) = ((1, 0), As.start.obj) by unfold As.assemble; rw [sl_length, if_pos hl])
    go_enter Tryz.func11, Tryz.ntmps11
    go_wp2
    refine bodyPost_ret (v := .tuple #[.string (bs []), faultA 1 0]) ?_ rfl ⟨⟨[], 1, 0, rfl, .inl ⟨by rw [RA.out]; decide, rfl, by rw [RA.out], by rw [RA.out]⟩⟩, World.grownBy_alloc _ _ _⟩
    simp [results, Tryz.results11, go_sem, faultA, bs]
  · have d : decide (1000 < (s.size : Int)) = false := by simp; omega
    have RA := hid (show As.assemble (sl s) = (((As.lines (sl s) (s.size + 1) As.start).fe, (As.lines (sl s) (s.size + 1) As.start).fa), As.finish (As.lines (sl s) (s.size + 1) As.start).obj) by unfold As.assemble; rw [sl_length, if_neg hl])
    have AT := hid (asmW_at s w HT.out hB (by omega))
    have AG := hid (asmW_grown s w)
    have AF := hid (asmW_fault s w)
    have TM := hid (As.lines_tm (sl s) (s.size + 1) As.start As.start_tm)
    go_enter Tryz.func11, Tryz.ntmps11
    go_wp2
    go_loopw [5] (fun m wr => Looped s w m wr) (fun m wr => loopM s w m wr)
    case atStart => exact ⟨As.start, AT.out.does, .inl ⟨rfl, s.size + 1, rfl, by omega⟩⟩
    case round =>
      obtain ⟨st, hd, ⟨rfl, n, hn, hle⟩ | ⟨rfl, hn⟩⟩ := hrel
      · have D := hid hd
        have EN := hid hn
        have HL := hid hle
        have N2 := hid (HN.out.below (grown_below (fin_grown AG.out D.out.2.1) (Nat.le_refl _) (by simp)) hB)
        clear hd hn hle
        go_wp2_with fail
        refine (line_any _ s _ _ st wr D.out.1 N2.out).mono ?_
        rintro e V1 ⟨rfl, h1⟩
        have D1 := hid (D.out.after h1)
        clear h1
        go_wp2_with fail
        refine (aNextLine_any _ s _ _ _ V1 D1.out.1).mono ?_
        rintro e V2 ⟨rfl, h2⟩
        have D2 := hid (D1.out.afterB h2)
        clear h2
        cases hr : (As.nextLine (sl s) (As.line (sl s) st)).1
        · have R := hid hr
          clear hr
          go_wp2
          go_roundw
          case rel =>
            refine ⟨_, D2.out, .inr ⟨rfl, ?_⟩⟩
            rw [EN.out]
            obtain ⟨k, rfl⟩ : ∃ k, n = k + 1 := ⟨n - 1, by have := HL.out; omega⟩
            simp only [As.lines]
            rw [R.out]
            simp
          case measure => simp [loopM]
        · have R := hid hr
          clear hr
          go_wp2
          go_roundw
          case rel =>
            have u1 := As.line_up (sl s) st
            have u2 := As.nextLine_up (sl s) (As.line (sl s) st) R.out
            rw [sl_length] at u2
            have hl2 := HL.out
            obtain ⟨k, rfl⟩ : ∃ k, n = k + 1 := ⟨n - 1, by omega⟩
            refine ⟨_, D2.out, .inl ⟨rfl, k, ?_, by omega⟩⟩
            rw [EN.out]
            simp only [As.lines]
            rw [R.out]
            simp
          case measure =>
            have u1 := As.line_up (sl s) st
            have u2 := As.nextLine_up (sl s) (As.line (sl s) st) R.out
            rw [sl_length] at u2
            have p1 := D.out.1.pos
            have p2 := D2.out.1.pos
            simp only [loopM, p1, p2]
            omega
      · have D := hid hd
        rw [hn] at TM RA
        clear hd hn HN AT
        have FB := hid (D.out.2.2 _ _ _ (by decide) (by decide) (by decide) (by decide) (by decide) AF.out)
        go_wp2_with fail
        refine (failed_any _ s _ _ st wr D.out.1).mono ?_
        rintro e w1 ⟨rfl, rfl⟩
        cases hf : As.failed st
        · have F0 := hid (show st.fe = 0 by simpa [As.failed] using hf)
          clear hf
          go_wp2_with fail
          refine (bindRest_any _ s _ _ st _ D.out.1).mono ?_
          rintro e V1 ⟨rfl, h1⟩
          have D1 := hid (D.out.after h1)
          clear h1
          go_wp2_with fail
          refine (orderRelocs_any _ s _ _ _ V1 D1.out.1).mono ?_
          rintro e V2 ⟨rfl, h2⟩
          have D2 := hid (D1.out.after h2)
          clear h2 D1
          have FB2 := hid (D2.out.2.2 _ _ _ (by decide) (by decide) (by decide) (by decide) (by decide) AF.out)
          have c14 := cell_obj D2.out.1
          go_wp2_with fail
          refine (write_said _ (As.finish st.obj) V2 D2.out.1.tabs D2.out.1.objAt (finish_tame D.out.1.ok TM.out)).mono ?_
          rintro e V3 ⟨hw, hg⟩
          have FG := hid (fin_grown AG.out (D2.out.grown hg).2.1)
          have FB3 := hid (FB2.out.grown hg (by simp))
          have v0 := FB3.out.free 0
          have v1 := FB3.out.free 1
          have v2 := FB3.out.free 2
          have x0 := FB3.out.cell 0
          have x1 := FB3.out.cell 1
          have x2 := FB3.out.cell 2
          simp only [faultC, List.getElem?_toArray, List.getElem?_cons_succ, List.getElem?_cons_zero] at x0 x1 x2
          clear hg c14 D2 D FB FB2
          rcases hw with ⟨rfl, hv⟩ | ⟨rfl, hv⟩
          · have HV := hid hv
            clear hv
            go_wp2
            have F := sets_blk [(0, .int .i64 0), (1, .int .i64 0), (2, .string ⟨#[]⟩)] FB3.out
            have h0 := F.cell 0
            have h1 := F.cell 1
            have h2 := F.cell 2
            simp only [faultC, setsA, List.foldl_cons, List.foldl_nil, List.setIfInBounds_toArray, List.set_cons_succ, List.set_cons_zero, List.getElem?_toArray, List.getElem?_cons_succ, List.getElem?_cons_zero] at h0 h1 h2
            refine bodyPost_ret (v := .tuple #[.string (bs (Lk.objB (As.finish st.obj))), faultA 0 0]) ?_ rfl ⟨⟨_, 0, 0, rfl, .inr (.inl ⟨by rw [RA.out]; exact F0.out, by rw [RA.out]; exact HV.out, by rw [RA.out], rfl, rfl⟩)⟩, fin_sets FG.out _ (Nat.le_refl _) [(0, .int .i64 0), (1, .int .i64 0), (2, .string ⟨#[]⟩)]⟩
            clear F x0 x1 x2 v0 v1 v2
            simp only [sets, List.foldl_cons, List.foldl_nil] at h0 h1 h2 ⊢
            generalize World.setCell _ _ _ = WF at *
            simp [results, Tryz.results11, go_sem, faultA, h0, h1, h2]
          · have HV := hid hv
            clear hv
            go_wp2
            have F := sets_blk [(0, .int .i64 20), (1, .int .i64 0), (2, .string ⟨#[]⟩)] FB3.out
            have h0 := F.cell 0
            have h1 := F.cell 1
            have h2 := F.cell 2
            simp only [faultC, setsA, List.foldl_cons, List.foldl_nil, List.setIfInBounds_toArray, List.set_cons_succ, List.set_cons_zero, List.getElem?_toArray, List.getElem?_cons_succ, List.getElem?_cons_zero] at h0 h1 h2
            refine bodyPost_ret (v := .tuple #[.string (bs []), faultA 20 0]) ?_ rfl ⟨⟨_, 20, 0, rfl, .inr (.inr ⟨by rw [RA.out]; exact F0.out, by rw [RA.out]; exact HV.out, rfl, rfl, rfl⟩)⟩, fin_sets FG.out _ (Nat.le_refl _) [(0, .int .i64 20), (1, .int .i64 0), (2, .string ⟨#[]⟩)]⟩
            clear F x0 x1 x2 v0 v1 v2
            simp only [sets, List.foldl_cons, List.foldl_nil] at h0 h1 h2 ⊢
            generalize World.setCell _ _ _ = WF at *
            simp [results, Tryz.results11, go_sem, faultA, h0, h1, h2]
        · have F0 := hid (show st.fe ≠ 0 by simpa [As.failed] using hf)
          clear hf
          have FG := hid (fin_grown AG.out D.out.2.1)
          have c6 := asm_cell D.out.1 6
          have c7 := asm_cell D.out.1 7
          have c8 := asm_cell D.out.1 8
          simp only [asmCells, List.getElem?_toArray, List.getElem?_cons_succ, List.getElem?_cons_zero] at c6 c7 c8
          have v0 := FB.out.free 0
          have v1 := FB.out.free 1
          have v2 := FB.out.free 2
          have x0 := FB.out.cell 0
          have x1 := FB.out.cell 1
          have x2 := FB.out.cell 2
          simp only [faultC, List.getElem?_toArray, List.getElem?_cons_succ, List.getElem?_cons_zero] at x0 x1 x2
          clear D
          go_wp2
          go_region
          go_wp2
          have F := sets_blk [(0, .int .i64 st.fe), (1, .int .i64 st.fa), (2, .string ⟨#[]⟩)] FB.out
          have h0 := F.drew.cell 0
          have h1 := F.drew.cell 1
          have h2 := F.drew.cell 2
          simp only [faultC, setsA, List.foldl_cons, List.foldl_nil, List.setIfInBounds_toArray, List.set_cons_succ, List.set_cons_zero, List.getElem?_toArray, List.getElem?_cons_succ, List.getElem?_cons_zero] at h0 h1 h2
          refine bodyPost_ret (v := .tuple #[.string (bs []), faultA st.fe st.fa]) ?_ rfl ⟨⟨_, st.fe, st.fa, rfl, .inl ⟨by rw [RA.out]; exact F0.out, rfl, by rw [RA.out], by rw [RA.out]⟩⟩, grown_drew (fin_sets FG.out _ (Nat.le_refl _) [(0, .int .i64 st.fe), (1, .int .i64 st.fa), (2, .string ⟨#[]⟩)])⟩
          clear F x0 x1 x2 v0 v1 v2 c6 c7 c8
          simp only [sets, List.foldl_cons, List.foldl_nil] at h0 h1 h2 ⊢
          generalize World.drew _ = WF at *
          simp [results, Tryz.results11, go_sem, faultA, bs, h0, h1, h2]

end Go.Proofs.YtmhbgnlfdiahpaaGreatDoor
