/- Linking: what a symbol means, and how far off it lies. -/
/- Linking: distances; which words stay. -/
/- Walks over package machine: read, call. -/
/- Walks over package machine: what an instruction does. -/
/- The operations beside code of package asm, lines and texts, as functions. -/
/- The assembler: symbols, targets, places. -/
/- The assembler: words are laid. -/
import Derived.Test.YtnfgdlkiialnnaaGreatDoorG15
import Derived.Test.YtnfgdlkiialnnaaGreatDoorG08
import Derived.Deep.CutRange
import Derived.Test.YtnfgdlkiialnnaaGreatDoorG01
import Derived.Test.YtnfgdlkiialnnaaGreatDoorG14
import Derived.Test.YtnfgdlkiialnnaaGreatDoorG02
import Derived.Laws.AppendOwnNone
namespace Go.Proofs.YtnfgdlkiialnnaaGreatDoor
open Go.RowKit

/-- all modules in memory -/
structure ModsAt (W : World) (bl : List Nat) (ms : List Ln.Mod) : Prop where
 len : ms.length = bl.length
 at_ : ∀ i (h : i < bl.length), ∃ g, ModAt W bl bl[i] g (ms[i]'(by rw [len]; exact h))
 nice : ∀ m ∈ ms, MNice bl.length m
theorem ModsAt.kept {W W' : World} {bl : List Nat} {ms : List Ln.Mod} (h : ModsAt W bl ms) (hg : W.grownBy W' none) : ModsAt W' bl ms :=
 ⟨h.len, fun i hi => (h.at_ i hi).imp fun _ q => q.kept hg, h.nice⟩
theorem ProgAt.modsAt {W0 W : World} {P : Nat} {bt bf bd : Int} {vm : Value} {bl gl : List Nat} {ms : List Ln.Mod} {st : Ln.Spot} {no : Int} (h : ProgAt W0 P bt bf bd vm bl gl ms st no W) (hn : ∀ m ∈ ms, MNice bl.length m) : ModsAt W bl ms :=
 ⟨h.lenO, fun i hi => ⟨_, h.mods i hi⟩, hn⟩

/-- a spot such that nothing wraps -/
def SNice (n : Nat) (s : Ln.Spot) : Prop := (0 ≤ s.off ∧ s.off ≤ 1125899906842624) ∧ ∀ i, s.mod = some i → i < n
theorem spotAddr_range {n : Nat} {ms : List Ln.Mod} (hn : ∀ m ∈ ms, MNice n m) (s : Ln.Spot) (hs : SNice n s) : 0 ≤ Ln.spotAddr ms s ∧ Ln.spotAddr ms s ≤ 2251799813685248 := by
 unfold Ln.spotAddr
 cases s.mod with
 | none => simp
 | some i =>
  dsimp only
  cases e : ms[i]? with
  | none => simp
  | some m => exact address_range (hn m (List.mem_of_getElem? e)) _ _ hs.1.1 hs.1.2
theorem target_range {n : Nat} {ms : List Ln.Mod} (hn : ∀ m ∈ ms, MNice n m) (m : Ln.Mod) (hm : MNice n m) (r : Lk.Rel) : 0 ≤ Ln.target ms m r ∧ Ln.target ms m r ≤ 2251799813685248 := by
 unfold Ln.target
 split
 ·omega
 ·rename_i h
  have hlt : r.sym.toNat < m.means.length := by omega
  rw [List.getD_eq_getElem?_getD, List.getElem?_eq_getElem hlt]
  exact spotAddr_range hn _ (hm.means.2 _ (List.getElem_mem hlt))

set_option maxRecDepth 100000 in
set_option maxHeartbeats 4000000 in
theorem spotAddress_any (bl : List Nat) (ms : List Ln.Mod) (s : Ln.Spot) (w : World) (h : ModsAt w bl ms) (hs : SNice bl.length s) :
  Calls Tryz.prog 68 #[spotA bl s] w fun e w' => e = .returned (.int .i64 (Ln.spotAddr ms s)) ∧ w.grownBy w' none := by
 obtain ⟨sm, ss, so⟩ := s
 have A0 := hid (World.grownBy_alloc w (.cells #[.pointer (ptrOf bl sm), .int .i64 ss, .int .i64 so] 115) none)
 cases sm with
 | none =>
  unfold spotA
  dsimp only at *
  have P0 : ptrOf bl none = none := rfl
  rw [P0] at A0 ⊢
  go_enter Tryz.func68, Tryz.ntmps68
  go_wp2
  go_ret
  exact ⟨rfl, A0.out⟩
 | some i =>
  have hi : i < bl.length := hs.2 i rfl
  have him : i < ms.length := by rw [h.len]; exact hi
  obtain ⟨g, hm⟩ := h.at_ i hi
  have P0 := ptrOf_some hi
  have E := hid (show Ln.spotAddr ms ⟨some i, ss, so⟩ = Ln.address ms[i] ss so by unfold Ln.spotAddr; dsimp only; rw [List.getElem?_eq_getElem him])
  unfold spotA
  dsimp only at *
  rw [P0] at A0 ⊢
  have cA := hid (address_any bl bl[i] g bl.length ms[i] ss so _ (hm.kept A0.out) (h.nice _ (List.getElem_mem him)) hs.1.1 hs.1.2)
  unfold ptrV at cA
  clear hm h P0
  go_enter Tryz.func68, Tryz.ntmps68
  go_wp2_with fail
  refine cA.out.mono ?_
  rintro e w2 ⟨rfl, rfl⟩
  go_wp2
  go_ret
  exact ⟨by rw [E.out]; rfl, A0.out⟩

set_option maxRecDepth 100000 in
set_option maxHeartbeats 4000000 in
theorem lTarget_any (bl : List Nat) (ms : List Ln.Mod) (b g : Nat) (m : Ln.Mod) (r : Lk.Rel) (w : World) (h : ModsAt w bl ms) (hm : ModAt w bl b g m) (hn : MNice bl.length m) :
  Calls Tryz.prog 135 #[ptrV b, relA r] w fun e w' => e = .returned (.int .i64 (Ln.target ms m r)) ∧ w.grownBy w' none := by
 obtain ⟨rs, ro, rk, ry, ra⟩ := r
 have A0 := hid (World.grownBy_alloc w (.cells #[.int .i64 rs, .int .i64 ro, .int .i64 rk, .int .i64 ry, .int .i64 ra] 139) none)
 have R := hid (show Ln.target ms m ⟨rs, ro, rk, ry, ra⟩ = if ry < 0 ∨ (m.means.length : Int) ≤ ry then 0 else Ln.spotAddr ms (m.means.getD ry.toNat Ln.none_) from rfl)
 obtain ⟨v1, v2, v3, v4, q0, -, q2, -⟩ := hm
 obtain ⟨am, cm, rfl⟩ := own_form q2
 have k1 : w.cell? ⟨b, 1, none⟩ = some (.slice am m.means.length cm) := q0.cell 1
 have hbl := q0.lt
 have hbn : b ≠ w.heap.size := by omega
 have hl := hn.means.1
 unfold ptrV relA
 dsimp only
 by_cases e1 : ry < 0
 ·have d1 : decide (ry < 0) = true := by simpa using e1
  have E := hid (show Ln.target ms m ⟨rs, ro, rk, ry, ra⟩ = 0 by rw [R.out, if_pos (.inl e1)])
  clear R q0 q2 e1
  go_enter Tryz.func135, Tryz.ntmps135
  go_wp2
  go_quiet (fail)
  go_wp2
  go_ret
  exact ⟨by rw [E.out]; rfl, grown_drewN A0.out _⟩
 have d1 : decide (ry < 0) = false := by simpa using e1
 obtain ⟨y, rfl⟩ : ∃ y : Nat, ry = (y : Int) := ⟨ry.toNat, by omega⟩
 by_cases e2 : m.means.length ≤ y
 ·have d2 : decide ((m.means.length : Int) ≤ (y : Int)) = true := by simpa using e2
  have E := hid (show Ln.target ms m ⟨rs, ro, rk, y, ra⟩ = 0 by rw [R.out, if_pos (.inr (by omega))])
  clear R q0 q2
  go_enter Tryz.func135, Tryz.ntmps135
  go_wp2
  go_quiet (fail)
  go_wp2
  go_ret
  exact ⟨by rw [E.out]; rfl, grown_drewN A0.out _⟩
 have d2 : decide ((m.means.length : Int) ≤ (y : Int)) = false := by simp; omega
 have hlt : y < m.means.length := by omega
 have E := hid (show Ln.target ms m ⟨rs, ro, rk, y, ra⟩ = Ln.spotAddr ms m.means[y] by rw [R.out, if_neg (by omega), Int.toNat_natCast, List.getD_eq_getElem?_getD, List.getElem?_eq_getElem hlt]; rfl)
 obtain ⟨sg, rfl⟩ : ∃ sg, am = some ⟨sg, 0, none⟩ := by
  rcases q2.2 with ⟨h1, h2⟩ | ⟨g, cap', cur, hv, _⟩
  ·simp at h1; omega
  ·simp only [Value.slice.injEq] at hv
   exact ⟨g, hv.1⟩
 have q := fun j (hj : j < 3) => (q2.cellAt (y * 3 + j) (by omega)).trans (flat_get (spotL bl) 3 (fun _ => rfl) m.means y j hlt hj)
 have c0 : w.cell? ⟨sg, y * 3, none⟩ = some (.pointer (ptrOf bl m.means[y].mod)) := q 0 (by omega)
 have c1 : w.cell? ⟨sg, y * 3 + 1, none⟩ = some (.int .i64 m.means[y].sect) := q 1 (by omega)
 have c2 : w.cell? ⟨sg, y * 3 + 2, none⟩ = some (.int .i64 m.means[y].off) := q 2 (by omega)
 have hsn : sg ≠ w.heap.size := by have : sg < w.heap.size := World.block_lt_of_cell? w _ c0; omega
 have cA := hid (fun W (hg : w.grownBy W none) => spotAddress_any bl ms m.means[y] W (h.kept hg) (hn.means.2 _ (List.getElem_mem hlt)))
 unfold spotA at cA
 clear R q q0 q2 h hn
 generalize m.means[y] = s at *
 obtain ⟨sm, ss, so⟩ := s
 dsimp only at *
 generalize ptrOf bl sm = pm at *
 go_enter Tryz.func135, Tryz.ntmps135
 go_wp2
 go_quiet (fail)
 have A1 := hid (grown_drewN A0.out nq)
 have l3 : ((w.alloc (.cells #[.int .i64 rs, .int .i64 ro, .int .i64 rk, .int .i64 y, .int .i64 ra] 139)).drewN nq).cell? ⟨w.heap.size, 3, none⟩ = some (.int .i64 y) := ((BlkAt.new w #[.int .i64 rs, .int .i64 ro, .int .i64 rk, .int .i64 y, .int .i64 ra] 139).drewN nq).cell 3
 go_wp2
 generalize (w.alloc (.cells #[.int .i64 rs, .int .i64 ro, .int .i64 rk, .int .i64 y, .int .i64 ra] 139)).drewN nq = W1 at *
 generalize w.heap.size = L at *
 have x0 := gcell c0 A1.out
 have x1 := gcell c1 A1.out
 have x2 := gcell c2 A1.out
 have x3 := gcell k1 A1.out
 have KD := hid (fun W (hq : W1.drew.grownBy W none) => And.intro (gcell (gcell k1 (grown_drew A1.out)) hq) (And.intro (gcell (show W1.drew.cell? ⟨L, 3, none⟩ = some (.int .i64 y) from l3) hq) (And.intro (gcell (gcell c0 (grown_drew A1.out)) hq) (And.intro (gcell (gcell c1 (grown_drew A1.out)) hq) (gcell (gcell c2 (grown_drew A1.out)) hq)))))
 clear c0 c1 c2 k1
 go_region_held3 (fun w' => w'.cell? ⟨b, 1, none⟩ = some (.slice (some ⟨sg, 0, none⟩) m.means.length cm) ∧ w'.cell? ⟨L, 3, none⟩ = some (.int .i64 y) ∧ w'.cell? ⟨sg, y * 3, none⟩ = some (.pointer pm) ∧ w'.cell? ⟨sg, y * 3 + 1, none⟩ = some (.int .i64 ss) ∧ w'.cell? ⟨sg, y * 3 + 2, none⟩ = some (.int .i64 so))
  (go_keep)
  (first | (go_at_call 68; refine (cA.out _ (grown_drew A1.out)).mono ?_; rintro e w' ⟨rfl, hq⟩; obtain ⟨s0, s1, s2, s3, s4⟩ := KD.out _ hq))
 go_wp2
 go_ret
 exact ⟨by rw [E.out]; rfl, grown_trans (grown_drew A1.out) hq⟩

end Go.Proofs.YtnfgdlkiialnnaaGreatDoor

namespace Go.Proofs.YtnfgdlkiialnnaaGreatDoor
open Go.RowKit

set_option maxRecDepth 100000 in
set_option maxHeartbeats 4000000 in
theorem distance_any (bl : List Nat) (ms : List Ln.Mod) (b g : Nat) (m : Ln.Mod) (r : Lk.Rel) (w : World) (h : ModsAt w bl ms) (hm : ModAt w bl b g m) (hn : MNice bl.length m) (h0 : 0 ≤ r.off) (h1 : r.off ≤ 1125899906842624) :
  Calls Tryz.prog 97 #[ptrV b, relA r] w fun e w' => e = .returned (.int .i64 (Ln.distance ms m r)) ∧ w.grownBy w' none := by
 have tr := target_range h.nice m hn r
 have ar := address_range hn r.sect r.off h0 h1
 have cT := hid (fun W (hg : w.grownBy W none) => lTarget_any bl ms b g m r W (h.kept hg) (hm.kept hg) hn)
 have cA := hid (fun W (hg : w.grownBy W none) => address_any bl b g bl.length m r.sect r.off W (hm.kept hg) hn h0 h1)
 have R := hid (show Ln.distance ms m r = Ln.target ms m r - Ln.address m r.sect r.off from rfl)
 generalize Ln.target ms m r = t at *
 generalize Ln.address m r.sect r.off = a at *
 have w1 : IntKind.i64.wrap (t - a) = t - a := IntWalk.i64_in _ ⟨by omega, by omega⟩
 have hbl : b < w.heap.size := by obtain ⟨v1, v2, v3, v4, q0, -⟩ := hm; exact q0.lt
 clear h hm hn h0 h1
 unfold ptrV relA at *
 obtain ⟨rs, ro, rk, ry, ra⟩ := r
 dsimp only at *
 have A0 := hid (World.grownBy_alloc w (.cells #[.int .i64 rs, .int .i64 ro, .int .i64 rk, .int .i64 ry, .int .i64 ra] 139) none)
 have B0 := hid (BlkAt.new w #[.int .i64 rs, .int .i64 ro, .int .i64 rk, .int .i64 ry, .int .i64 ra] 139)
 go_enter Tryz.func97, Tryz.ntmps97
 go_wp2
 generalize w.alloc (.cells #[.int .i64 rs, .int .i64 ro, .int .i64 rk, .int .i64 ry, .int .i64 ra] 139) = W1 at *
 generalize w.heap.size = L at *
 have c0 : W1.cell? ⟨L, 0, none⟩ = some (.int .i64 rs) := B0.out.cell 0
 have c1 : W1.cell? ⟨L, 1, none⟩ = some (.int .i64 ro) := B0.out.cell 1
 have c2 : W1.cell? ⟨L, 2, none⟩ = some (.int .i64 rk) := B0.out.cell 2
 have c3 : W1.cell? ⟨L, 3, none⟩ = some (.int .i64 ry) := B0.out.cell 3
 have c4 : W1.cell? ⟨L, 4, none⟩ = some (.int .i64 ra) := B0.out.cell 4
 have BD := hid (fun W (hq : W1.drew.grownBy W none) => show BlkAt W L #[.int .i64 rs, .int .i64 ro, .int .i64 rk, .int .i64 ry, .int .i64 ra] 139 from (blk_drew B0.out).grown hq (by simp))
 go_region_held3 (fun w' => w'.cell? ⟨L, 0, none⟩ = some (.int .i64 rs) ∧ w'.cell? ⟨L, 1, none⟩ = some (.int .i64 ro) ∧ w'.cell? ⟨L, 2, none⟩ = some (.int .i64 rk) ∧ w'.cell? ⟨L, 3, none⟩ = some (.int .i64 ry) ∧ w'.cell? ⟨L, 4, none⟩ = some (.int .i64 ra))
  (go_keep)
  (first | (go_at_call 135; refine (cT.out _ (grown_drew A0.out)).mono ?_; rintro e w' ⟨rfl, hq⟩; have bq := BD.out _ hq; have s0 := bq.cell 0; have s1 := bq.cell 1; have s2 := bq.cell 2; have s3 := bq.cell 3; have s4 := bq.cell 4; simp only [List.getElem?_toArray, List.getElem?_cons_succ, List.getElem?_cons_zero] at s0 s1 s2 s3 s4) | (go_at_call 98; refine (cA.out _ (grown_trans (grown_drew A0.out) hq)).mono ?_; rintro e w2 ⟨rfl, rfl⟩))
 go_wp2
 go_ret
 exact ⟨by rw [R.out]; rfl, grown_trans (grown_drew A0.out) hq⟩

theorem relocAt_in (sect off : Int) : ∀ (rs : List Lk.Rel) (k : Nat), Ln.relocAt sect off k rs = (0, ⟨0, 0, 0, 0, 0⟩) ∨ ∃ i, ∃ h : i < rs.length, Ln.relocAt sect off k rs = (((k + i : Nat) : Int), rs[i]) := by
 intro rs
 induction rs with
 | nil => intro k; exact .inl rfl
 | cons r rs ih =>
  intro k
  unfold Ln.relocAt
  split
  ·exact .inr ⟨0, by simp, rfl⟩
  ·rcases ih (k + 1) with e | ⟨i, hi, e⟩
   ·exact .inl e
   ·exact .inr ⟨i + 1, by simpa using hi, by rw [e]; simp; omega⟩

set_option maxRecDepth 100000 in
set_option maxHeartbeats 4000000 in
theorem stays_any (bl : List Nat) (b g n : Nat) (m : Ln.Mod) (sect off at_ : Int) (w : World) (hm : ModAt w bl b g m) (hn : MNice n m) (h0 : 0 ≤ at_) (h1 : at_ ≤ 1125899906842624) :
  Calls Tryz.prog 134 #[ptrV b, .int .i64 sect, .int .i64 off, .int .i64 at_] w fun e w' => e = .returned (.bool (Ln.stays m sect off at_)) ∧ w.grownBy w' none := by
 have cR := hid (relocAt_any bl b g m sect off w hm (fun r hr => ⟨(hn.rels.2 r hr).1, by have := (hn.rels.2 r hr).2; omega, (hn.rels.2 r hr).2.2⟩) hn.rels.1)
 have R := hid (show Ln.stays m sect off at_ = if (Ln.relocAt sect off 0 m.obj.rels).2.kind = 6 then !decide (Ln.rup at_ ((Ln.relocAt sect off 0 m.obj.rels).2.addend + 4) = at_) else if (Ln.relocAt sect off 0 m.obj.rels).2.kind = 4 then decide (off = (Ln.relocAt sect off 0 m.obj.rels).2.off) || !Ln.isShort m.short (Ln.relocAt sect off 0 m.obj.rels).1 else true from rfl)
 have AD := hid (show (Ln.relocAt sect off 0 m.obj.rels).2.kind = 6 → (Ln.relocAt sect off 0 m.obj.rels).2.addend = 4 ∨ (Ln.relocAt sect off 0 m.obj.rels).2.addend = 12 by
  rcases relocAt_in sect off m.obj.rels 0 with e | ⟨i, hi, e⟩
  ·rw [e]; intro c; simp at c
  ·rw [e]; intro c; exact (hn.rels.2 _ (List.getElem_mem hi)).1.six c)
 have IX : 0 ≤ (Ln.relocAt sect off 0 m.obj.rels).1 ∧ (Ln.relocAt sect off 0 m.obj.rels).1 ≤ 65535 := by
  rcases relocAt_in sect off m.obj.rels 0 with e | ⟨i, hi, e⟩
  ·rw [e]; simp
  ·rw [e]; have := hn.rels.1; simp; omega
 have cS := hid (fun W (hg : w.grownBy W none) => isShort_any bl b g m (Ln.relocAt sect off 0 m.obj.rels).1 W (hm.kept hg) IX.1 IX.2 hn.short)
 generalize Ln.relocAt sect off 0 m.obj.rels = p at *
 obtain ⟨i, rs, ro, rk, ry, ra⟩ := p
 dsimp only at *
 clear hm hn
 unfold ptrV relA at *
 go_enter Tryz.func134, Tryz.ntmps134
 go_wp2_with fail
 refine cR.out.mono ?_
 rintro e W2 ⟨rfl, h2⟩
 have G2 := hid h2
 dsimp only
 have A2 := hid (grown_trans h2 (World.grownBy_alloc W2 (.cells #[.int .i64 rs, .int .i64 ro, .int .i64 rk, .int .i64 ry, .int .i64 ra] 139) none))
 have cS2 := hid (cS.out _ A2.out)
 have cU := hid (fun b hb1 hb2 => roundUp_any at_ b (W2.alloc (.cells #[.int .i64 rs, .int .i64 ro, .int .i64 rk, .int .i64 ry, .int .i64 ra] 139)) h0 h1 hb1 hb2)
 clear h2 cR cS
 by_cases e6 : rk = 6
 ·subst e6
  have E := hid (show Ln.stays m sect off at_ = !decide (Ln.rup at_ (ra + 4) = at_) by rw [R.out, if_pos rfl])
  rcases AD.out rfl with rfl | rfl
  ·have cV := hid (cU.out 8 (by omega) (by omega))
   go_wp2_with fail
   refine cV.out.mono ?_
   rintro e w2 ⟨rfl, rfl⟩
   go_wp2
   go_ret
   exact ⟨by rw [E.out]; exact congrArg (fun b => Ending.returned (Value.bool b)) (by simp [bne, BEq.beq]), A2.out⟩
  ·have cV := hid (cU.out 16 (by omega) (by omega))
   go_wp2_with fail
   refine cV.out.mono ?_
   rintro e w2 ⟨rfl, rfl⟩
   go_wp2
   go_ret
   exact ⟨by rw [E.out]; exact congrArg (fun b => Ending.returned (Value.bool b)) (by simp [bne, BEq.beq]), A2.out⟩
 ·have d6 : (rk == 6) = false := by simpa using e6
  by_cases e4 : rk = 4
  ·subst e4
   have E := hid (show Ln.stays m sect off at_ = (decide (off = ro) || !Ln.isShort m.short i) by rw [R.out, if_neg (by simp), if_pos rfl])
   clear e6
   by_cases eo : off = ro
   ·subst eo
    have d1 : (off == off) = true := by simp
    go_wp2
    go_ret
    exact ⟨by rw [E.out]; exact congrArg (fun b => Ending.returned (Value.bool b)) (by simp), A2.out⟩
   ·have d1 : (off == ro) = false := by simpa using eo
    have EO := hid eo
    clear eo
    go_wp2_with fail
    refine cS2.out.mono ?_
    rintro e w2 ⟨rfl, rfl⟩
    go_wp2
    go_ret
    exact ⟨by rw [E.out]; exact congrArg (fun b => Ending.returned (Value.bool b)) (by simp [EO.out]), A2.out⟩
  ·have d4 : (rk == 4) = false := by simpa using e4
   have E := hid (show Ln.stays m sect off at_ = true by rw [R.out, if_neg e6, if_neg e4])
   clear e4 e6
   go_wp2
   go_ret
   exact ⟨by rw [E.out]; rfl, A2.out⟩

end Go.Proofs.YtnfgdlkiialnnaaGreatDoor

namespace Go.Proofs.YtnfgdlkiialnnaaGreatDoor
open Go.RowKit

end Go.Proofs.YtnfgdlkiialnnaaGreatDoor

namespace Go.Proofs.YtnfgdlkiialnnaaGreatDoor
open Go.RowKit

end Go.Proofs.YtnfgdlkiialnnaaGreatDoor

namespace Go.Proofs.YtnfgdlkiialnnaaGreatDoor
namespace As

def section' (st : St) : St :=
 if st.op.text = [46, 116, 101, 120, 116] then { st with sect := 1 }
 else if st.op.text = [46, 102, 97, 114] then { st with sect := 2 }
 else if st.op.text = [46, 100, 97, 116, 97] then { st with sect := 3 }
 else if st.op.text = [46, 98, 115, 115] then { st with sect := 4 }
 else st

def binding (s : List UInt8) (st : St) : St := bind s (if st.op.text = [46, 103, 108, 111, 98, 108] then 1 else 2) st

def word (s : List UInt8) (st : St) : St :=
 if st.tok.kind == 1 then
  let t := target s st
  layWith 1 t.1.1 t.1.2 [0] t.2
 else
  let n := number s (-2147483648) 4294967295 st
  lay [n.1 % 4294967296] n.2

def space (s : List UInt8) (st : St) : St :=
 let n := number s 0 4800 st
 if n.1 % 4 = 0 then lay (List.replicate (n.1 / 4).toNat 0) n.2 else refuse 8 n.2.op.pos n.2

def inCode (sect : Nat) : Bool := sect == 1 || sect == 2

def raiseBorder (k : Int) (st : St) : St :=
 if (st.obj.align[st.sect - 1]?).getD 0 < k then { st with obj := { st.obj with align := st.obj.align.set (st.sect - 1) k } } else st

/-- align, its border being 2^k bytes -/
def alignTo (border : Nat) (st : St) : St :=
 if inCode st.sect then
  if 4 < border then layWith 6 0 ((border : Int) - 4) (List.replicate (border / 4 - 1) 19) st else st
 else lay (List.replicate (((border : Int) - 4 * secLen st.obj st.sect % border) % border / 4).toNat 0) st

def align (s : List UInt8) (st : St) : St :=
 let n := number s 2 4 st
 if failed n.2 then n.2 else raiseBorder n.1 (alignTo (2 ^ n.1.toNat) n.2)

end As
end Go.Proofs.YtnfgdlkiialnnaaGreatDoor

namespace Go.Proofs.YtnfgdlkiialnnaaGreatDoor
open Go.RowKit

theorem number_bnd (s : List UInt8) (lo hi : Int) (st : As.St) (h0 : lo ≤ 0) (h1 : 0 ≤ hi) : lo ≤ (As.number s lo hi st).1 ∧ (As.number s lo hi st).1 ≤ hi := by
 have key : ∀ neg pos st, lo ≤ (As.numberFrom s neg pos lo hi st).1 ∧ (As.numberFrom s neg pos lo hi st).1 ≤ hi := by
  intro neg pos st
  unfold As.numberFrom
  generalize (if neg then -(st.tok.n : Int) else (st.tok.n : Int)) = x
  split
  ·by_cases h : x < lo ∨ hi < x
   ·rw [if_pos h]; exact ⟨h0, h1⟩
   ·rw [if_neg h]; simp only; omega
  ·exact ⟨h0, h1⟩
 unfold As.number
 split
 ·exact key _ _ _
 ·exact key _ _ _

theorem name_tok (s : List UInt8) (st : As.St) (h : TokOk st.tok) : TokOk (As.name s st).1 := by
 unfold As.name
 split
 ·exact h
 ·exact tokNil_ok

set_option maxRecDepth 100000 in
set_option maxHeartbeats 2000000 in
theorem symbol_any (B : Nat) (s : ByteArray) (b g : Nat) (st : As.St) (W : World) (h : AsmAt B s b g st W) :
  Calls Tryz.prog 205 #[.pointer (some ⟨b, 0, none⟩)] W fun en W' => en = .returned (.int .i64 (As.symbol (sl s) st).1) ∧ Does B s b g W (As.symbol (sl s) st).2 W' := by
 have HW := hid h
 have cN := hid (name_any B s b g st W h)
 have HT := hid (name_tok (sl s) st h.ok.tok)
 clear h
 have RS := hid (show As.symbol (sl s) st = ((As.symbolNamed (As.name (sl s) st).1 (As.name (sl s) st).2).1.1, (As.symbolNamed (As.name (sl s) st).1 (As.name (sl s) st).2).2) from rfl)
 generalize As.symbol (sl s) st = X at *
 generalize As.name (sl s) st = R at *
 obtain ⟨t, st1⟩ := R
 simp only at HT RS cN
 go_enter Tryz.func205, Tryz.ntmps205
 go_wp2_with fail
 refine cN.out.mono ?_
 rintro e V ⟨rfl, h1⟩
 have D1 := hid (h1.does HW.out)
 clear h1 cN
 unfold tokA
 go_wp2_with fail
 refine (symbolNamed_any B s b g st1 t _ (D1.out.alloc _).1 HT.out).mono ?_
 rintro e V2 ⟨rfl, h2⟩
 have D2 := hid ((D1.out.alloc _).after h2)
 clear h2 D1
 unfold symRet
 go_wp2
 go_ret
 rw [RS.out]
 exact ⟨rfl, D2.out⟩

set_option maxRecDepth 100000 in
set_option maxHeartbeats 2000000 in
theorem target_any (B : Nat) (s : ByteArray) (b g : Nat) (st : As.St) (W : World) (h : AsmAt B s b g st W) :
  Calls Tryz.prog 203 #[.pointer (some ⟨b, 0, none⟩)] W fun en W' => en = .returned (.tuple #[.int .i64 (As.target (sl s) st).1.1, .int .i64 (As.target (sl s) st).1.2]) ∧ Does B s b g W (As.target (sl s) st).2 W' := by
 have cN := hid (symbol_any B s b g st W h)
 clear h
 have RS := hid (show As.target (sl s) st = if (As.symbol (sl s) st).2.tok.is [43] then (((As.symbol (sl s) st).1, (As.number (sl s) 0 2047 (As.advance (sl s) (As.symbol (sl s) st).2)).1), (As.number (sl s) 0 2047 (As.advance (sl s) (As.symbol (sl s) st).2)).2)
  else if (As.symbol (sl s) st).2.tok.is [45] then (((As.symbol (sl s) st).1, -(As.number (sl s) 0 2048 (As.advance (sl s) (As.symbol (sl s) st).2)).1), (As.number (sl s) 0 2048 (As.advance (sl s) (As.symbol (sl s) st).2)).2)
  else (((As.symbol (sl s) st).1, 0), (As.symbol (sl s) st).2) from rfl)
 generalize As.target (sl s) st = X at *
 generalize As.symbol (sl s) st = R at *
 obtain ⟨i, st1⟩ := R
 simp only at RS cN
 go_enter Tryz.func203, Tryz.ntmps203
 go_wp2_with fail
 refine cN.out.mono ?_
 rintro e V ⟨rfl, h1⟩
 have D1 := hid h1
 clear h1 cN
 obtain ⟨c2, c3, c4, c5⟩ := cell_b D1.out.1
 go_wp2_with fail
 refine (tokIs_any st1.tok [43] V).mono ?_
 rintro e V1 ⟨rfl, hg⟩
 have D2 := hid (D1.out.grown hg)
 clear hg D1 c2 c3 c4 c5
 cases hp : st1.tok.is [43]
 ·rw [hp, if_neg (by simp)] at RS
  clear hp
  obtain ⟨c2, c3, c4, c5⟩ := cell_b D2.out.1
  go_wp2_with fail
  refine (tokIs_any st1.tok [45] V1).mono ?_
  rintro e V2 ⟨rfl, hg⟩
  have D3 := hid (D2.out.grown hg)
  clear hg D2 c2 c3 c4 c5
  cases hm : st1.tok.is [45]
  ·rw [hm, if_neg (by simp)] at RS
   clear hm
   go_wp2
   go_ret2
   rw [RS.out]
   exact ⟨rfl, D3.out⟩
  ·rw [hm, if_pos rfl] at RS
   clear hm
   go_wp2_with fail
   refine (advance_any B s b g st1 V2 D3.out.1).mono ?_
   rintro e V3 ⟨rfl, h3⟩
   have D4 := hid (D3.out.afterB h3)
   clear h3 D3
   generalize As.advance (sl s) st1 = st2 at *
   go_wp2_with fail
   refine (aNumber_any B s b g st2 0 2048 V3 D4.out.1).mono ?_
   rintro e V4 ⟨rfl, h4⟩
   have D5 := hid (D4.out.afterB h4)
   clear h4 D4
   have NB := number_bnd (sl s) 0 2048 st2 (by omega) (by omega)
   generalize As.number (sl s) 0 2048 st2 = R4 at *
   obtain ⟨nn, st4⟩ := R4
   simp only at NB RS D5 ⊢
   go_wp2
   go_ret2
   rw [RS.out]
   exact ⟨rfl, D5.out⟩
 ·rw [hp, if_pos rfl] at RS
  clear hp
  go_wp2_with fail
  refine (advance_any B s b g st1 V1 D2.out.1).mono ?_
  rintro e V3 ⟨rfl, h3⟩
  have D4 := hid (D2.out.afterB h3)
  clear h3 D2
  generalize As.advance (sl s) st1 = st2 at *
  go_wp2_with fail
  refine (aNumber_any B s b g st2 0 2047 V3 D4.out.1).mono ?_
  rintro e V4 ⟨rfl, h4⟩
  have D5 := hid (D4.out.afterB h4)
  clear h4 D4
  generalize As.number (sl s) 0 2047 st2 = R4 at *
  obtain ⟨nn, st4⟩ := R4
  simp only at RS D5 ⊢
  go_wp2
  go_ret2
  rw [RS.out]
  exact ⟨rfl, D5.out⟩

set_option maxRecDepth 100000 in
set_option maxHeartbeats 2000000 in
theorem place_any (B : Nat) (s : ByteArray) (b g : Nat) (st : As.St) (W : World) (h : AsmAt B s b g st W) :
  Calls Tryz.prog 202 #[.pointer (some ⟨b, 0, none⟩)] W fun en W' => en = .returned (.tuple #[.int .i64 (As.place (sl s) st).1.1, .int .i64 (As.place (sl s) st).1.2]) ∧ DoesB B s b g W (As.place (sl s) st).2 W' := by
 have cN := hid (aNumber_any B s b g st (-2048) 2047 W h)
 clear h
 have RS := hid (show As.place (sl s) st = (((As.number (sl s) (-2048) 2047 st).1, (As.register (sl s) (As.sign (sl s) [40] (As.number (sl s) (-2048) 2047 st).2)).1), As.sign (sl s) [41] (As.register (sl s) (As.sign (sl s) [40] (As.number (sl s) (-2048) 2047 st).2)).2) from rfl)
 generalize As.place (sl s) st = X at *
 generalize As.number (sl s) (-2048) 2047 st = R at *
 obtain ⟨nn, st1⟩ := R
 simp only at RS cN
 go_enter Tryz.func202, Tryz.ntmps202
 go_wp2_with fail
 refine cN.out.mono ?_
 rintro e V ⟨rfl, h1⟩
 have D1 := hid h1
 clear h1 cN
 go_wp2_with fail
 refine (sign_any B s b g st1 [40] V D1.out.1).mono ?_
 rintro e V1 ⟨rfl, h1⟩
 have D2 := hid (D1.out.after h1)
 clear h1 D1
 generalize As.sign (sl s) [40] st1 = st2 at *
 go_wp2_with fail
 refine (register_any B s b g st2 V1 D2.out.1).mono ?_
 rintro e V2 ⟨rfl, h1⟩
 have D3 := hid (D2.out.after h1)
 clear h1 D2
 generalize As.register (sl s) st2 = R2 at *
 obtain ⟨rg, st3⟩ := R2
 simp only at RS D3 ⊢
 go_wp2_with fail
 refine (sign_any B s b g st3 [41] V2 D3.out.1).mono ?_
 rintro e V3 ⟨rfl, h1⟩
 have D4 := hid (D3.out.after h1)
 clear h1 D3
 go_wp2
 go_ret2
 rw [RS.out]
 exact ⟨rfl, D4.out⟩

end Go.Proofs.YtnfgdlkiialnnaaGreatDoor

namespace Go.Proofs.YtnfgdlkiialnnaaGreatDoor
open Go.RowKit

/-- words that are handed over: a list at ao, or none -/
def WordsAt (W : World) (ao : Option Addr) (cap : Nat) (ws : List Int) : Prop :=
 (ao = none ∧ cap = 0 ∧ ws = []) ∨ ∃ wg off cs, ao = some ⟨wg, off, none⟩ ∧ BlkAt W wg cs 3 ∧ ∀ i (h : i < ws.length), cs[off + i]? = some (.int .i64 ws[i])

theorem WordsAt.kept {W W' : World} {ao : Option Addr} {cap : Nat} {ws : List Int} (h : WordsAt W ao cap ws) (hk : ∀ k cs, BlkAt W k cs 3 → ao.map (·.block) = some k → BlkAt W' k cs 3) : WordsAt W' ao cap ws := by
 rcases h with h | ⟨wg, off, cs, rfl, h1, h2⟩
 ·exact .inl h
 ·exact .inr ⟨wg, off, cs, rfl, hk wg cs h1 rfl, h2⟩
theorem WordsAt.grown {W W' : World} {ao : Option Addr} {cap : Nat} {ws : List Int} (h : WordsAt W ao cap ws) (hg : W.grownBy W' none) : WordsAt W' ao cap ws := h.kept fun _ _ hb _ => hb.grown hg (by simp)
theorem wp_append_words {P : Program} (w : World) {o : Oper} {a : Act} {K : Act → World → Prop} {Q : Exit → Act → World → Prop} (s x : Operand) (t : TypeId)
  (ho : o.op = .call { callee := .builtin .append, args := #[s, x], argTypes := #[t, t] })
  (base : Nat) (i : TypeInfo) (ht : P.underlying t = some (.slice 3)) (hi : P.info? 3 = some i) (hz : i.zero = some (.int .i64 0))
  (hsize : i.size = 1) (hby : i.bytes = 8)
  (v : Value) (n : Nat) (xs : List Value) (hs : a.eval s = v) (hown : w.ownsRow base 3 1 v n xs)
  (ao : Option Addr) (cap : Nat) (ws : List Int) (hx : a.eval x = .slice ao ws.length cap) (hw : WordsAt w ao cap ws)
  (h63 : n + ws.length ≤ 65535) (hbase : base ≤ w.heap.size)
  (h : ∀ v' w', w'.ownsRow base 3 1 v' (n + ws.length) (xs ++ ws.map (Value.int .i64)) → w.grownBy w' v.ownBlock → (v'.ownBlock = v.ownBlock ∨ v'.ownBlock = some w.heap.size) → K (a.put o.dst v') w') : o.wp P a w K Q := by
 rcases hw with ⟨rfl, rfl, rfl⟩ | ⟨wg, off, cs, rfl, hb, hc⟩
 ·have hrun := run_append_owned_none (P := P) (w := w) base t o.type 3 i 1 ht hi v n xs hown
  have hx' : a.eval x = .slice none 0 0 := hx
  have h' := h v w (by simpa using hown) ⟨rfl, rfl, rfl, Nat.le_refl _, fun _ _ _ => rfl⟩ (.inl rfl)
  unfold Oper.wp
  simp [execOp, ho, resolve, invoke, builtin, hs, hx', hrun, Result.andThen]
  exact h'
 ·refine wp_append_own_at w s x t ho base 3 i (.int .i64 0) 1 8 ht hi hz hsize hby rfl (by decide) v n xs hs hown ⟨wg, off, none⟩ ws.length cap (ws.map (Value.int .i64)) hx (by simp) ?_ (by intro u hu; simp at hu; obtain ⟨y, _, rfl⟩ := hu; rfl) (by unfold maxLen; omega) (by omega) hbase (fun v' w' h1 h2 _ h4 => h v' w' h1 h2 h4)
  intro j u hu
  rw [List.getElem?_map, Option.map_eq_some_iff] at hu
  obtain ⟨y, hy, rfl⟩ := hu
  obtain ⟨hj, rfl⟩ := List.getElem?_eq_some_iff.1 hy
  have := hb.cell (off + j)
  rw [hc j hj] at this
  have e : (⟨wg, off, none⟩ : Addr).add j = ⟨wg, off + j, none⟩ := by
   unfold Addr.add
   by_cases h0 : j = 0
   ·subst h0; simp
   ·simp [h0]
  rw [e]
  exact this

theorem AsmAt.objAt {B : Nat} {s : ByteArray} {b g : Nat} {st : As.St} {W : World} (h : AsmAt B s b g st W) : ObjAt W g st.obj := by
 obtain ⟨vt, vf, vd, va, vs, vr, ho⟩ := h.own
 exact ⟨vt, vf, vd, va, vs, vr, ho.blk, own_base ho.text (Nat.zero_le _), own_base ho.far (Nat.zero_le _), own_base ho.data (Nat.zero_le _), own_base ho.align (Nat.zero_le _), own_base ho.syms (Nat.zero_le _), own_base ho.rels (Nat.zero_le _)⟩
theorem StOk.small {s : ByteArray} {st : As.St} (h : StOk s st) : Small st.obj := ⟨by have := h.text; omega, by have := h.far; omega, by have := h.data; omega, by have := h.align; omega, by have := h.syms; omega, by have := h.rels; omega⟩
theorem seclen_eq (o : Lk.Obj) (sect : Nat) : seclen o (sect : Int) = As.secLen o sect := by
 unfold seclen As.secLen wordsOf
 by_cases h4 : sect = 4
 ·rw [if_pos (by omega), if_pos h4]
 by_cases h1 : sect = 1
 ·rw [if_neg (by omega), if_neg h4, if_pos (by omega), if_pos h1]
 by_cases h2 : sect = 2
 ·rw [if_neg (by omega), if_neg h4, if_neg (by omega), if_neg h1, if_pos (by omega), if_pos h2]
 by_cases h3 : sect = 3
 ·rw [if_neg (by omega), if_neg h4, if_neg (by omega), if_neg h1, if_neg (by omega), if_neg h2, if_pos (by omega), if_pos h3]
 ·rw [if_neg (by omega), if_neg h4, if_neg (by omega), if_neg h1, if_neg (by omega), if_neg h2, if_neg (by omega), if_neg h3]; rfl
theorem secLen_bnd {s : ByteArray} {st : As.St} (h : StOk s st) : 0 ≤ As.secLen st.obj st.sect ∧ As.secLen st.obj st.sect ≤ 1200 := by
 have h1 := h.text
 have h2 := h.far
 have h3 := h.data
 have h4 := h.bss
 unfold As.secLen
 repeat' split
 all_goals omega

theorem length_any (B : Nat) (s : ByteArray) (b g : Nat) (st : As.St) (W : World) (h : AsmAt B s b g st W) :
  Calls Tryz.prog 96 #[.pointer (some ⟨g, 0, none⟩), .int .i64 st.sect] W fun e W' => e = .returned (.int .i64 (4 * As.secLen st.obj st.sect)) ∧ W' = W := by
 rw [← seclen_eq]
 exact lengthOf_any g st.obj st.sect W h.objAt h.ok.small h.ok.bss

set_option maxHeartbeats 1000000 in
theorem limit_any (B : Nat) (s : ByteArray) (b g : Nat) (st : As.St) (W : World) (h : AsmAt B s b g st W) :
  Calls Tryz.prog 221 #[.pointer (some ⟨b, 0, none⟩)] W fun e W' => e = .returned (.int .i64 (As.limit st.sect)) ∧ W' = W := by
 have c := cell_sect h
 have hs := h.ok.sect
 clear h
 generalize st.sect = sect at *
 rcases (show sect = 1 ∨ sect = 2 ∨ sect = 3 ∨ sect = 4 by omega) with rfl | rfl | rfl | rfl
 all_goals
  go_enter Tryz.func221, Tryz.ntmps221
  go_wp2
  go_ret
  exact ⟨rfl, rfl⟩

theorem cell_op {B : Nat} {s : ByteArray} {b g : Nat} {st : As.St} {W : World} (h : AsmAt B s b g st W) : W.cell? ⟨b, 10, none⟩ = some (.int .i64 st.op.pos) := by
 have c := asm_cell h 10
 simpa only [asmCells, List.getElem?_toArray, List.getElem?_cons_succ, List.getElem?_cons_zero] using c

section
variable {B : Nat} {s : ByteArray} {b g : Nat} {V W' : World} {st : As.St} {vt vf vd va vs vr v' : Value}
theorem AsmAt.newText (h : AsmAt B s b g st V) (ho : ObjOwn B V b g st.obj vt vf vd va vs vr) (n : NewRow B V W' b g vt v') (xs : List Int) (hxs : xs.length ≤ 1200)
  (hblk : BlkAt W' g #[v', vf, vd, .int .i64 st.obj.bss, va, vs, vr] 90) (hown : W'.ownsRow B 3 1 v' xs.length (xs.map (Value.int .i64))) : Does B s b g V { st with obj := { st.obj with text := xs } } W' := by
 refine n.does h ho (i := 2) rfl (by omega) ⟨v', vf, vd, va, vs, vr, hblk, hown, ?_, ?_, ?_, ?_, ?_, n.apart ho h.blk.lt (i := 2) rfl⟩ rfl (h.ok.obj' _ hxs h.ok.far h.ok.data h.ok.bss h.ok.align h.ok.syms h.ok.rels) (row_blk ho.text (by simp))
 ·exact n.row ho (i := 2) (j := 3) rfl rfl (by omega) (by omega) ho.far
 ·exact n.row ho (i := 2) (j := 4) rfl rfl (by omega) (by omega) ho.data
 ·exact n.row ho (i := 2) (j := 5) rfl rfl (by omega) (by omega) ho.align
 ·exact n.row ho (i := 2) (j := 6) rfl rfl (by omega) (by omega) ho.syms
 ·exact n.row ho (i := 2) (j := 7) rfl rfl (by omega) (by omega) ho.rels
theorem AsmAt.newFar (h : AsmAt B s b g st V) (ho : ObjOwn B V b g st.obj vt vf vd va vs vr) (n : NewRow B V W' b g vf v') (xs : List Int) (hxs : xs.length ≤ 1200)
  (hblk : BlkAt W' g #[vt, v', vd, .int .i64 st.obj.bss, va, vs, vr] 90) (hown : W'.ownsRow B 3 1 v' xs.length (xs.map (Value.int .i64))) : Does B s b g V { st with obj := { st.obj with far := xs } } W' := by
 refine n.does h ho (i := 3) rfl (by omega) ⟨vt, v', vd, va, vs, vr, hblk, ?_, hown, ?_, ?_, ?_, ?_, n.apart ho h.blk.lt (i := 3) rfl⟩ rfl (h.ok.obj' _ h.ok.text hxs h.ok.data h.ok.bss h.ok.align h.ok.syms h.ok.rels) (row_blk ho.far (by simp))
 ·exact n.row ho (i := 3) (j := 2) rfl rfl (by omega) (by omega) ho.text
 ·exact n.row ho (i := 3) (j := 4) rfl rfl (by omega) (by omega) ho.data
 ·exact n.row ho (i := 3) (j := 5) rfl rfl (by omega) (by omega) ho.align
 ·exact n.row ho (i := 3) (j := 6) rfl rfl (by omega) (by omega) ho.syms
 ·exact n.row ho (i := 3) (j := 7) rfl rfl (by omega) (by omega) ho.rels
theorem AsmAt.newData (h : AsmAt B s b g st V) (ho : ObjOwn B V b g st.obj vt vf vd va vs vr) (n : NewRow B V W' b g vd v') (xs : List Int) (hxs : xs.length ≤ 64)
  (hblk : BlkAt W' g #[vt, vf, v', .int .i64 st.obj.bss, va, vs, vr] 90) (hown : W'.ownsRow B 3 1 v' xs.length (xs.map (Value.int .i64))) : Does B s b g V { st with obj := { st.obj with data := xs } } W' := by
 refine n.does h ho (i := 4) rfl (by omega) ⟨vt, vf, v', va, vs, vr, hblk, ?_, ?_, hown, ?_, ?_, ?_, n.apart ho h.blk.lt (i := 4) rfl⟩ rfl (h.ok.obj' _ h.ok.text h.ok.far hxs h.ok.bss h.ok.align h.ok.syms h.ok.rels) (row_blk ho.data (by simp))
 ·exact n.row ho (i := 4) (j := 2) rfl rfl (by omega) (by omega) ho.text
 ·exact n.row ho (i := 4) (j := 3) rfl rfl (by omega) (by omega) ho.far
 ·exact n.row ho (i := 4) (j := 5) rfl rfl (by omega) (by omega) ho.align
 ·exact n.row ho (i := 4) (j := 6) rfl rfl (by omega) (by omega) ho.syms
 ·exact n.row ho (i := 4) (j := 7) rfl rfl (by omega) (by omega) ho.rels
/-- append without an alloc ahead, then the field -/
theorem NewRow.app0 {v : Value} {w3 : World} {off : Nat} (hg : V.grownBy w3 v.ownBlock) (hat : v'.ownBlock = v.ownBlock ∨ v'.ownBlock = some V.heap.size) : NewRow B V (w3.setCell ⟨g, off, none⟩ v') b g v v' := by
 have gs := grown_set w3 g off v'
 refine ⟨fun k hk hne hkg => ?_, fun k hk => ?_, ?_, ?_, ?_, ?_⟩
 ·rw [gs.block k (by have := hg.size; omega) (by simpa using hkg), hg.block k hk hne]
 ·rcases hat with e | e
  ·exact .inl (by rw [← e]; exact hk)
  ·rw [e] at hk
   simp at hk
   exact .inr (by omega)
 ·rw [gs.os, hg.os]
 ·rw [gs.tape, hg.tape]
 ·rw [gs.output, hg.output]
 ·have := gs.size; have := hg.size; omega
end

end Go.Proofs.YtnfgdlkiialnnaaGreatDoor
