/- Linking: the image of all that is laid. -/
/- Linking: what does not reach. -/
/- Walks over package image: regionsFit. -/
import Derived.Test.YtnfgdlkiialnnaaGreatDoorG23
import Derived.Test.YtnfgdlkiialnnaaGreatDoorG04
import Derived.Test.YtnfgdlkiialnnaaGreatDoorG22
import Derived.Test.YtnfgdlkiialnnaaGreatDoorG03
import Derived.Deep.RegionWith
import Derived.Deep.CutRange
namespace Go.Proofs.YtnfgdlkiialnnaaGreatDoor
open Go.RowKit

namespace Ln
def image (ms : List Mod) (st : Spot) (bt bf bd no : Int) : Im.Img := ⟨spotAddr ms st, bt, bf, bd, region ms 1 bt 19 ms [], region ms 2 bf 19 ms [], region ms 3 bd 0 ms [], no⟩
end Ln

theorem region_take (ms : List Ln.Mod) (sect base fl : Int) : ∀ (l : List Ln.Mod) (k : Nat) (ws : List Int) (h : k < l.length), Ln.region ms sect base fl (l.take (k + 1)) ws = Ln.addTo ms l[k] sect base fl (Ln.region ms sect base fl (l.take k) ws) := by
 intro l
 induction l with
 | nil => intro k ws h; simp at h
 | cons m l ih =>
  intro k ws h
  cases k with
  | zero => rfl
  | succ k =>
   simp only [List.length_cons] at h
   rw [List.take_succ_cons, List.take_succ_cons]
   unfold Ln.region
   exact ih k _ (by omega)

theorem addTo_le {m : Ln.Mod} (ms : List Ln.Mod) (hv : Valid m.obj) (sect base fl : Int) (ws : List Int) (hb : 0 ≤ base) (ha : Ln.address m sect 0 ≤ 1200100000) (k : Nat) (h : ws.length ≤ 300025001 + 1200 * k) : (Ln.addTo ms m sect base fl ws).length ≤ 300025001 + 1200 * (k + 1) := by
 have a := addWords_len ms m sect (wordsOf m.obj sect) 0
 have b := wordsOf_few hv sect
 unfold Ln.addTo
 rw [List.length_append, gap_len]
 omega

def Apart2 (u v : Value) : Prop := ∀ k, u.ownBlock = some k → v.ownBlock ≠ some k
theorem Apart2.symm {u v : Value} (h : Apart2 u v) : Apart2 v u := fun k e c => h k c e
/-- three regions being filled -/
structure Regs (W0 : World) (R1 R2 R3 : Nat) (b1 f1 b2 f2 b3 f3 : Int) (l1 l2 l3 : List Int) (v1 v2 v3 : Value) (W : World) : Prop where
 a : RegAt W0 R1 b1 f1 l1 v1 W
 b : RegAt W0 R2 b2 f2 l2 v2 W
 c : RegAt W0 R3 b3 f3 l3 v3 W
 n12 : R1 ≠ R2
 n13 : R1 ≠ R3
 n23 : R2 ≠ R3
 p12 : Apart2 v1 v2
 p13 : Apart2 v1 v3
 p23 : Apart2 v2 v3
section
variable {W0 W W' : World} {R1 R2 R3 : Nat} {b1 f1 b2 f2 b3 f3 : Int} {l1 l2 l3 l' : List Int} {v1 v2 v3 v' : Value}
theorem Regs.kept (h : Regs W0 R1 R2 R3 b1 f1 b2 f2 b3 f3 l1 l2 l3 v1 v2 v3 W) (hg : W.grownBy W' none) : Regs W0 R1 R2 R3 b1 f1 b2 f2 b3 f3 l1 l2 l3 v1 v2 v3 W' :=
 ⟨h.a.kept hg, h.b.kept hg, h.c.kept hg, h.n12, h.n13, h.n23, h.p12, h.p13, h.p23⟩
theorem Regs.one (h : Regs W0 R1 R2 R3 b1 f1 b2 f2 b3 f3 l1 l2 l3 v1 v2 v3 W) (g : RegAt W0 R1 b1 f1 l' v' W') (t : RegTo W W' R1 v1 v') : Regs W0 R1 R2 R3 b1 f1 b2 f2 b3 f3 l' l2 l3 v' v2 v3 W' := by
 obtain ⟨x1, x2⟩ := h.b.other h.a t g.gr h.n12.symm h.p12.symm
 obtain ⟨y1, y2⟩ := h.c.other h.a t g.gr h.n13.symm h.p13.symm
 exact ⟨g, x1, y1, h.n12, h.n13, h.n23, Apart2.symm x2, Apart2.symm y2, h.p23⟩
theorem Regs.two (h : Regs W0 R1 R2 R3 b1 f1 b2 f2 b3 f3 l1 l2 l3 v1 v2 v3 W) (g : RegAt W0 R2 b2 f2 l' v' W') (t : RegTo W W' R2 v2 v') : Regs W0 R1 R2 R3 b1 f1 b2 f2 b3 f3 l1 l' l3 v1 v' v3 W' := by
 obtain ⟨x1, x2⟩ := h.a.other h.b t g.gr h.n12 h.p12
 obtain ⟨y1, y2⟩ := h.c.other h.b t g.gr h.n23.symm h.p23.symm
 exact ⟨x1, g, y1, h.n12, h.n13, h.n23, x2, h.p13, Apart2.symm y2⟩
theorem Regs.three (h : Regs W0 R1 R2 R3 b1 f1 b2 f2 b3 f3 l1 l2 l3 v1 v2 v3 W) (g : RegAt W0 R3 b3 f3 l' v' W') (t : RegTo W W' R3 v3 v') : Regs W0 R1 R2 R3 b1 f1 b2 f2 b3 f3 l1 l2 l' v1 v2 v' W' := by
 obtain ⟨x1, x2⟩ := h.a.other h.c t g.gr h.n13 h.p13
 obtain ⟨y1, y2⟩ := h.b.other h.c t g.gr h.n23 h.p23
 exact ⟨x1, y1, g, h.n12, h.n13, h.n23, h.p12, x2, y2⟩
end
theorem RegAt.img {W0 W : World} {R I o : Nat} {base fl : Int} {ws : List Int} {v u : Value} {cs : Array Value} (h : RegAt W0 R base fl ws v W) (hb : BlkAt W I cs 101) (hI : W0.heap.size ≤ I) : RegAt W0 R base fl ws v (W.setCell ⟨I, o, none⟩ u) := by
 have gs := grown_set W I o u
 exact ⟨grown_hi h.gr gs (by intro k e; simp at e; omega), h.lo, blk_ty h.blk gs (RowT.blk hb) (by decide), own_ty h.row gs (RowT.blk hb) (by decide)⟩
theorem Regs.img {W0 W : World} {R1 R2 R3 I o : Nat} {b1 f1 b2 f2 b3 f3 : Int} {l1 l2 l3 : List Int} {v1 v2 v3 u : Value} {cs : Array Value} (h : Regs W0 R1 R2 R3 b1 f1 b2 f2 b3 f3 l1 l2 l3 v1 v2 v3 W) (hb : BlkAt W I cs 101) (hI : W0.heap.size ≤ I) : Regs W0 R1 R2 R3 b1 f1 b2 f2 b3 f3 l1 l2 l3 v1 v2 v3 (W.setCell ⟨I, o, none⟩ u) :=
 ⟨h.a.img hb hI, h.b.img hb hI, h.c.img hb hI, h.n12, h.n13, h.n23, h.p12, h.p13, h.p23⟩
theorem regs_new (W : World) (bt bf bd : Int) : Regs W W.heap.size (W.heap.size + 1) (W.heap.size + 2) bt 19 bf 19 bd 0 [] [] [] (.slice none 0 0) (.slice none 0 0) (.slice none 0 0) (((W.alloc (.cells #[.int .i64 bt, .int .i64 19, .slice none 0 0] 128)).alloc (.cells #[.int .i64 bf, .int .i64 19, .slice none 0 0] 128)).alloc (.cells #[.int .i64 bd, .int .i64 0, .slice none 0 0] 128)) := by
 have s1 : (W.alloc (.cells #[.int .i64 bt, .int .i64 19, .slice none 0 0] 128)).heap.size = W.heap.size + 1 := Array.size_push _
 have s2 : ((W.alloc (.cells #[.int .i64 bt, .int .i64 19, .slice none 0 0] 128)).alloc (.cells #[.int .i64 bf, .int .i64 19, .slice none 0 0] 128)).heap.size = W.heap.size + 2 := by
  rw [show ((W.alloc (.cells #[.int .i64 bt, .int .i64 19, .slice none 0 0] 128)).alloc (.cells #[.int .i64 bf, .int .i64 19, .slice none 0 0] 128)).heap.size = (W.alloc (.cells #[.int .i64 bt, .int .i64 19, .slice none 0 0] 128)).heap.size + 1 from Array.size_push _, s1]
 have g1 := World.grownBy_alloc W (.cells #[.int .i64 bt, .int .i64 19, .slice none 0 0] 128) none
 have g2 := World.grownBy_alloc (W.alloc (.cells #[.int .i64 bt, .int .i64 19, .slice none 0 0] 128)) (.cells #[.int .i64 bf, .int .i64 19, .slice none 0 0] 128) none
 have g3 := World.grownBy_alloc ((W.alloc (.cells #[.int .i64 bt, .int .i64 19, .slice none 0 0] 128)).alloc (.cells #[.int .i64 bf, .int .i64 19, .slice none 0 0] 128)) (.cells #[.int .i64 bd, .int .i64 0, .slice none 0 0] 128) none
 have x1 := BlkAt.new W #[.int .i64 bt, .int .i64 19, .slice none 0 0] 128
 have x2 := BlkAt.new (W.alloc (.cells #[.int .i64 bt, .int .i64 19, .slice none 0 0] 128)) #[.int .i64 bf, .int .i64 19, .slice none 0 0] 128
 have x3 := BlkAt.new ((W.alloc (.cells #[.int .i64 bt, .int .i64 19, .slice none 0 0] 128)).alloc (.cells #[.int .i64 bf, .int .i64 19, .slice none 0 0] 128)) #[.int .i64 bd, .int .i64 0, .slice none 0 0] 128
 rw [s1] at x2
 rw [s2] at x3
 have G := grown_trans (grown_trans g1 g2) g3
 refine ⟨⟨G, Nat.le_refl _, (x1.grown g2 (by simp)).grown g3 (by simp), World.ownsRow_nil _ _ _ _⟩, ⟨G, by omega, x2.grown g3 (by simp), World.ownsRow_nil _ _ _ _⟩, ⟨G, by omega, x3, World.ownsRow_nil _ _ _ _⟩, by omega, by omega, by omega, ?_, ?_, ?_⟩
 all_goals (intro k e; simp [Value.ownBlock] at e)

set_option maxRecDepth 100000 in
set_option maxHeartbeats 16000000 in
theorem build_any (W0 : World) (P : Nat) (bt bf bd : Int) (vm : Value) (bl gl : List Nat) (ms : List Ln.Mod) (st : Ln.Spot) (no : Int) (W : World) (ht : Tabs W) (h : ProgAt W0 P bt bf bd vm bl gl ms st no W) (hn : ∀ m ∈ ms, MNice bl.length m) (hv : ∀ m ∈ ms, Valid m.obj) (hlow : ∀ m ∈ ms, MLow m) (hmean : ∀ m ∈ ms, ∀ s ∈ m.means, SLow s) (hst : SNice bl.length st) (hfew : bl.length ≤ 48)
  (hbt : 0 ≤ bt ∧ bt ≤ 1073741824) (hbf : 0 ≤ bf ∧ bf ≤ 1073741824) (hbd : 0 ≤ bd ∧ bd ≤ 1073741824) :
  Calls Tryz.prog 44 #[ptrV P] W fun e W' => ∃ I, e = .returned (ptrV I) ∧ ImgAt W' I (Ln.image ms st bt bf bd no) ∧ W.grownBy W' none := by
 obtain ⟨am, cm, rfl⟩ := own_form h.row
 have HP := hid h
 have RN := hid (regs_new W bt bf bd)
 have MA := hid (h.modsAt hn)
 have LO := hid h.lenO
 have cX := hid (fun (k : Nat) (hk : k < ms.length) (b g : Nat) (hm : ModAt W bl b g ms[k]) (sect : Int) (R : Nat) (base fl : Int) (ws : List Int) (v : Value) (w : World) (hr : RegAt W R base fl ws v w) (hb0 : 0 ≤ base) (hb1 : base ≤ 1200000000) (hl : ws.length ≤ 300090000) => add_any W bl ms b g ms[k] sect R base fl ws v w ht MA.out hm (hn _ (List.getElem_mem hk)) (hv _ (List.getElem_mem hk)) (relsNear_low hlow ms[k] (hmean _ (List.getElem_mem hk)) (hlow _ (List.getElem_mem hk)) (hv _ (List.getElem_mem hk))) hr hb0 hb1 hl (address_low (hlow _ (List.getElem_mem hk)) sect 0 (by omega) (by omega)).2)
 have LE := hid (fun (k : Nat) (hk : k < ms.length) (sect base fl : Int) (ws : List Int) (hb : 0 ≤ base) (h : ws.length ≤ 300025001 + 1200 * k) => addTo_le ms (hv _ (List.getElem_mem hk)) sect base fl ws hb (address_low (hlow _ (List.getElem_mem hk)) sect 0 (by omega) (by omega)).2 k h)
 have cSp := hid (fun V (hg : W.grownBy V none) => spotAddress_any bl ms st V (MA.out.kept hg) hst)
 have c0 : W.cell? ⟨P, 0, none⟩ = some (.int .i64 bt) := h.blk.cell 0
 have c1 : W.cell? ⟨P, 1, none⟩ = some (.int .i64 bf) := h.blk.cell 1
 have c2 : W.cell? ⟨P, 2, none⟩ = some (.int .i64 bd) := h.blk.cell 2
 have c3 : W.cell? ⟨P, 3, none⟩ = some (.slice am bl.length cm) := h.blk.cell 3
 have g1 := World.grownBy_alloc W (.cells #[.int .i64 bt, .int .i64 19, .slice none 0 0] 128) none
 have g2 := World.grownBy_alloc (W.alloc (.cells #[.int .i64 bt, .int .i64 19, .slice none 0 0] 128)) (.cells #[.int .i64 bf, .int .i64 19, .slice none 0 0] 128) none
 have g3 := World.grownBy_alloc ((W.alloc (.cells #[.int .i64 bt, .int .i64 19, .slice none 0 0] 128)).alloc (.cells #[.int .i64 bf, .int .i64 19, .slice none 0 0] 128)) (.cells #[.int .i64 bd, .int .i64 0, .slice none 0 0] 128) none
 have C1 := hid (gcell c1 g1)
 have C2 := hid (gcell c2 (grown_trans g1 g2))
 have C3 := hid (gcell c3 (grown_trans (grown_trans g1 g2) g3))
 have s1 : (W.alloc (.cells #[.int .i64 bt, .int .i64 19, .slice none 0 0] 128)).heap.size = W.heap.size + 1 := Array.size_push _
 have s2 : ((W.alloc (.cells #[.int .i64 bt, .int .i64 19, .slice none 0 0] 128)).alloc (.cells #[.int .i64 bf, .int .i64 19, .slice none 0 0] 128)).heap.size = W.heap.size + 2 := by
  rw [show ((W.alloc (.cells #[.int .i64 bt, .int .i64 19, .slice none 0 0] 128)).alloc (.cells #[.int .i64 bf, .int .i64 19, .slice none 0 0] 128)).heap.size = (W.alloc (.cells #[.int .i64 bt, .int .i64 19, .slice none 0 0] 128)).heap.size + 1 from Array.size_push _, s1]
 clear h hn hv hlow hmean hst ht g1 g2 g3 c1 c2 c3
 unfold ptrV at *
 go_enter Tryz.func44, Tryz.ntmps44
 go_upto_region 2 with fail
 clear c0
 generalize W.alloc (.cells #[.int .i64 bt, .int .i64 19, .slice none 0 0] 128) = W1 at *
 have c1 := C1.out
 clear C1
 go_upto_region 3 with fail
 clear c1
 generalize W1.alloc (.cells #[.int .i64 bf, .int .i64 19, .slice none 0 0] 128) = W2 at *
 have c2 := C2.out
 clear C2
 go_upto_region 4 with fail
 clear c2
 generalize W2.alloc (.cells #[.int .i64 bd, .int .i64 0, .slice none 0 0] 128) = W3 at *
 have c3 := C3.out
 go_wp2
 clear c3 C3 s1 s2
 generalize hR1 : W.heap.size = R1 at *
 generalize hR2 : R1 + 1 = R2 at *
 generalize hR3 : R1 + 2 = R3 at *
 clear hR1 hR2 hR3
 go_loopw [32] (fun i wr => ∃ (k : Nat) (l1 l2 l3 : List Int) (v1 v2 v3 : Value), k ≤ bl.length ∧ i = .int .i64 k ∧ Regs W R1 R2 R3 bt 19 bf 19 bd 0 l1 l2 l3 v1 v2 v3 wr ∧ l1 = Ln.region ms 1 bt 19 (ms.take k) [] ∧ l2 = Ln.region ms 2 bf 19 (ms.take k) [] ∧ l3 = Ln.region ms 3 bd 0 (ms.take k) [] ∧ (l1.length ≤ 300025001 + 1200 * k ∧ l2.length ≤ 300025001 + 1200 * k ∧ l3.length ≤ 300025001 + 1200 * k)) (fun i _ => bl.length - (intOf i).toNat)
 case atStart => exact ⟨0, [], [], [], _, _, _, Nat.zero_le _, rfl, RN.out, rfl, rfl, rfl, by simp, by simp, by simp⟩
 case round =>
  obtain ⟨k, l1, l2, l3, v1, v2, v3, hk, rfl, hrs, e1, e2, e3, hl1, hl2, hl3⟩ := hrel
  have HR := hid hrs
  have E1 := hid e1
  have E2 := hid e2
  have E3 := hid e3
  clear hrs e1 e2 e3 RN
  by_cases hlt : k < bl.length
  ·have hko : k < ms.length := by rw [LO.out]; exact hlt
   have hkg : k < gl.length := by rw [HP.out.lenG]; exact hlt
   obtain ⟨sg, off, hsg, hsc⟩ := HP.out.modsIn.ptrs (by omega)
   have ck := gcell (hsc k hlt) HR.out.a.gr
   have HM : ModAt W bl bl[k] (gl[k]'hkg) ms[k] := HP.out.mods k hlt
   have g1 : (k : Int) < (bl.length : Int) := by omega
   have T1 := hid (region_take ms 1 bt 19 ms k [] hko)
   have T2 := hid (region_take ms 2 bf 19 ms k [] hko)
   have T3 := hid (region_take ms 3 bd 0 ms k [] hko)
   have L1 := LE.out k hko 1 bt 19 l1 (by omega) hl1
   have L2 := LE.out k hko 2 bf 19 l2 (by omega) hl2
   have L3 := LE.out k hko 3 bd 0 l3 (by omega) hl3
   have cY := hid (fun sect R base fl ws v w hr hb0 hb1 hl => cX.out k hko bl[k] (gl[k]'hkg) HM sect R base fl ws v w hr hb0 hb1 hl)
   rw [← E1.out] at T1
   rw [← E2.out] at T2
   rw [← E3.out] at T3
   subst hsg
   clear hsc HM
   generalize ms[k] = m at *
   generalize hbk : bl[k] = bk at *
   clear hbk
   unfold ptrV at *
   go_wp2_with fail
   refine (cY.out 1 R1 bt 19 l1 v1 wr HR.out.a (by omega) (by omega) (by omega)).mono ?_
   rintro e U1 ⟨rfl, u1, ra, rt⟩
   have HR1 := hid (HR.out.one ra rt)
   clear ra rt HR ck
   go_wp2_with fail
   refine (cY.out 2 R2 bf 19 l2 v2 U1 HR1.out.b (by omega) (by omega) (by omega)).mono ?_
   rintro e U2 ⟨rfl, u2, ra, rt⟩
   have HR2 := hid (HR1.out.two ra rt)
   clear ra rt HR1
   go_wp2_with fail
   refine (cY.out 3 R3 bd 0 l3 v3 U2 HR2.out.c (by omega) (by omega) (by omega)).mono ?_
   rintro e U3 ⟨rfl, u3, ra, rt⟩
   have HR3 := hid (HR2.out.three ra rt)
   clear ra rt HR2
   go_wp2
   go_roundw
   case rel => exact ⟨k + 1, _, _, _, _, _, _, by omega, by go_num, HR3.out, T1.out.symm, T2.out.symm, T3.out.symm, L1, L2, L3⟩
   case measure => simp [intOf]; omega
  ·obtain rfl : k = bl.length := by omega
   have g3 : decide ((bl.length : Int) < (bl.length : Int)) = false := by simp
   rw [List.take_of_length_le (by rw [LO.out]; exact Nat.le_refl _)] at E1 E2 E3
   have BP := hid (HP.out.blk.grown HR.out.a.gr (by simp))
   have FIN := hid (show Ln.image ms st bt bf bd no = ⟨Ln.spotAddr ms st, bt, bf, bd, l1, l2, l3, no⟩ by rw [E1.out, E2.out, E3.out]; rfl)
   obtain ⟨sm, ss, so⟩ := st
   unfold spotA at cSp
   dsimp only at *
   generalize Ln.spotAddr ms ⟨sm, ss, so⟩ = sa at *
   generalize ptrOf bl sm = q at *
   have c0 : wr.cell? ⟨P, 0, none⟩ = some (.int .i64 bt) := BP.out.cell 0
   have c1 : wr.cell? ⟨P, 1, none⟩ = some (.int .i64 bf) := BP.out.cell 1
   have c2 : wr.cell? ⟨P, 2, none⟩ = some (.int .i64 bd) := BP.out.cell 2
   have c4 : wr.cell? ⟨P, 4, none⟩ = some (.pointer q) := BP.out.cell 4
   have c5 : wr.cell? ⟨P, 5, none⟩ = some (.int .i64 ss) := BP.out.cell 5
   have c6 : wr.cell? ⟨P, 6, none⟩ = some (.int .i64 so) := BP.out.cell 6
   have c7 : wr.cell? ⟨P, 7, none⟩ = some (.int .i64 no) := BP.out.cell 7
   have KD := hid (fun W2 (hq : wr.drew.grownBy W2 none) => show W2.cell? ⟨P, 0, none⟩ = some (.int .i64 bt) ∧ W2.cell? ⟨P, 1, none⟩ = some (.int .i64 bf) ∧ W2.cell? ⟨P, 2, none⟩ = some (.int .i64 bd) ∧ W2.cell? ⟨P, 4, none⟩ = some (.pointer q) ∧ W2.cell? ⟨P, 5, none⟩ = some (.int .i64 ss) ∧ W2.cell? ⟨P, 6, none⟩ = some (.int .i64 so) ∧ W2.cell? ⟨P, 7, none⟩ = some (.int .i64 no) from (fun (b : BlkAt W2 P _ 117) => ⟨b.cell 0, b.cell 1, b.cell 2, b.cell 4, b.cell 5, b.cell 6, b.cell 7⟩) ((blk_drew BP.out).grown hq (by simp)))
   go_wp2
   go_region_held3 (fun w' => w'.cell? ⟨P, 0, none⟩ = some (.int .i64 bt) ∧ w'.cell? ⟨P, 1, none⟩ = some (.int .i64 bf) ∧ w'.cell? ⟨P, 2, none⟩ = some (.int .i64 bd) ∧ w'.cell? ⟨P, 4, none⟩ = some (.pointer q) ∧ w'.cell? ⟨P, 5, none⟩ = some (.int .i64 ss) ∧ w'.cell? ⟨P, 6, none⟩ = some (.int .i64 so) ∧ w'.cell? ⟨P, 7, none⟩ = some (.int .i64 no))
    (go_keep)
    (first | (go_at_call 68; refine (cSp.out _ (grown_drew HR.out.a.gr)).mono ?_; rintro e w' ⟨rfl, hq⟩; obtain ⟨s0, s1, s2, s4, s5, s6, s7⟩ := KD.out _ hq))
   have GA := grown_trans (grown_trans (grown_drew (World.grownBy.refl wr none)) hq) (World.grownBy_alloc w' (.cells #[.int .i64 sa, .int .i64 bt, .int .i64 bf, .int .i64 bd, .slice none 0 0, .slice none 0 0, .slice none 0 0, .int .i64 no] 101) none)
   have H6 := hid (HR.out.kept GA)
   have B6 := hid (BlkAt.new w' #[.int .i64 sa, .int .i64 bt, .int .i64 bf, .int .i64 bd, .slice none 0 0, .slice none 0 0, .slice none 0 0, .int .i64 no] 101)
   have hI := hid (show W.heap.size ≤ w'.heap.size from Nat.le_trans HR.out.a.gr.size (grown_trans (grown_drew (World.grownBy.refl wr none)) hq).size)
   clear GA hq HR KD BP c0 c1 c2 c4 c5 c6 c7 s0 s1 s2 s4 s5 s6 s7
   generalize w'.alloc (.cells #[.int .i64 sa, .int .i64 bt, .int .i64 bf, .int .i64 bd, .slice none 0 0, .slice none 0 0, .slice none 0 0, .int .i64 no] 101) = W6 at *
   generalize w'.heap.size = I at *
   obtain ⟨a1, k1, rfl⟩ := own_form H6.out.a.row
   obtain ⟨a2, k2, rfl⟩ := own_form H6.out.b.row
   obtain ⟨a3, k3, rfl⟩ := own_form H6.out.c.row
   have B7 := hid (show BlkAt (W6.setCell ⟨I, 4, none⟩ (.slice a1 l1.length k1)) I #[.int .i64 sa, .int .i64 bt, .int .i64 bf, .int .i64 bd, .slice a1 l1.length k1, .slice none 0 0, .slice none 0 0, .int .i64 no] 101 by simpa using B6.out.set 4 (.slice a1 l1.length k1))
   have H7 := hid (show Regs W R1 R2 R3 bt 19 bf 19 bd 0 l1 l2 l3 _ _ _ (W6.setCell ⟨I, 4, none⟩ (.slice a1 l1.length k1)) from H6.out.img B6.out hI.out)
   have B8 := hid (show BlkAt ((W6.setCell ⟨I, 4, none⟩ (.slice a1 l1.length k1)).setCell ⟨I, 5, none⟩ (.slice a2 l2.length k2)) I #[.int .i64 sa, .int .i64 bt, .int .i64 bf, .int .i64 bd, .slice a1 l1.length k1, .slice a2 l2.length k2, .slice none 0 0, .int .i64 no] 101 by simpa using B7.out.set 5 (.slice a2 l2.length k2))
   have H8 := hid (show Regs W R1 R2 R3 bt 19 bf 19 bd 0 l1 l2 l3 _ _ _ ((W6.setCell ⟨I, 4, none⟩ (.slice a1 l1.length k1)).setCell ⟨I, 5, none⟩ (.slice a2 l2.length k2)) from H7.out.img B7.out hI.out)
   have r1 : W6.cell? ⟨R1, 2, none⟩ = some (.slice a1 l1.length k1) := H6.out.a.blk.cell 2
   have i4 : W6.cell? ⟨I, 4, none⟩ = some (.slice none 0 0) := B6.out.cell 4
   have f4 : W6.frozen? ⟨I, 4, none⟩ = false := B6.out.free 4
   go_upto_region 13 with fail
   clear r1 i4 f4 H6 B6
   generalize W6.setCell ⟨I, 4, none⟩ (.slice a1 l1.length k1) = W7 at *
   have r1 : W7.cell? ⟨R2, 2, none⟩ = some (.slice a2 l2.length k2) := H7.out.b.blk.cell 2
   have i4 : W7.cell? ⟨I, 5, none⟩ = some (.slice none 0 0) := B7.out.cell 5
   have f4 : W7.frozen? ⟨I, 5, none⟩ = false := B7.out.free 5
   go_upto_region 14 with fail
   clear r1 i4 f4 H7 B7
   generalize W7.setCell ⟨I, 5, none⟩ (.slice a2 l2.length k2) = W8 at *
   have B9 := hid (show BlkAt (W8.setCell ⟨I, 6, none⟩ (.slice a3 l3.length k3)) I #[.int .i64 sa, .int .i64 bt, .int .i64 bf, .int .i64 bd, .slice a1 l1.length k1, .slice a2 l2.length k2, .slice a3 l3.length k3, .int .i64 no] 101 by simpa using B8.out.set 6 (.slice a3 l3.length k3))
   have H9 := hid (show Regs W R1 R2 R3 bt 19 bf 19 bd 0 l1 l2 l3 _ _ _ (W8.setCell ⟨I, 6, none⟩ (.slice a3 l3.length k3)) from H8.out.img B8.out hI.out)
   have r1 : W8.cell? ⟨R3, 2, none⟩ = some (.slice a3 l3.length k3) := H8.out.c.blk.cell 2
   have i4 : W8.cell? ⟨I, 6, none⟩ = some (.slice none 0 0) := B8.out.cell 6
   have f4 : W8.frozen? ⟨I, 6, none⟩ = false := B8.out.free 6
   go_wp2
   clear r1 i4 f4 H8 B8
   generalize W8.setCell ⟨I, 6, none⟩ (.slice a3 l3.length k3) = W9 at *
   go_ret
   refine ⟨I, rfl, ?_, H9.out.a.gr⟩
   rw [FIN.out]
   exact ⟨_, _, _, B9.out, own_nought H9.out.a.row, own_nought H9.out.b.row, own_nought H9.out.c.row⟩

end Go.Proofs.YtnfgdlkiialnnaaGreatDoor

namespace Go.Proofs.YtnfgdlkiialnnaaGreatDoor
open Go.RowKit

namespace Ln
def reachesB (kind d : Int) : Bool := if kind = 2 then decide (-4096 ≤ d) && decide (d ≤ 4095) else if kind = 3 then decide (-1048576 ≤ d) && decide (d ≤ 1048575) else true
def symName (o : Lk.Obj) (i : Int) : List UInt8 := if i < 0 then [] else match o.syms[i.toNat]? with
 | none => []
 | some y => y.name
def reachIn (ms : List Mod) (m : Mod) (i : Nat) : List Lk.Rel → Option Flt
 | [] => none
 | r :: rs => if reachesB r.kind (distance ms m r) then reachIn ms m i rs else some ⟨37, i, symName m.obj r.sym⟩
def reachAt (ms : List Mod) : Nat → List Mod → Flt
 | _, [] => ok
 | i, m :: r => match reachIn ms m i m.obj.rels with
  | some f => f
  | none => reachAt ms (i + 1) r
def checkReach (ms : List Mod) : Flt := reachAt ms 0 ms
end Ln

theorem reachIn_drop (ms : List Ln.Mod) (m : Ln.Mod) (i : Nat) (rs : List Lk.Rel) (j : Nat) (h : j < rs.length) : Ln.reachIn ms m i (rs.drop j) = if Ln.reachesB rs[j].kind (Ln.distance ms m rs[j]) then Ln.reachIn ms m i (rs.drop (j + 1)) else some ⟨37, i, Ln.symName m.obj rs[j].sym⟩ := by
 rw [List.drop_eq_getElem_cons h]
 rfl
theorem reachAt_drop (ms l : List Ln.Mod) (k : Nat) (h : k < l.length) : Ln.reachAt ms k (l.drop k) = match Ln.reachIn ms l[k] k l[k].obj.rels with
  | some f => f
  | none => Ln.reachAt ms (k + 1) (l.drop (k + 1)) := by
 rw [List.drop_eq_getElem_cons h]
 rfl

set_option maxRecDepth 100000 in
set_option maxHeartbeats 2000000 in
theorem reaches_any (kind d : Int) (w : World) :
  Calls Tryz.prog 103 #[.int .i64 kind, .int .i64 d] w fun e w' => e = .returned (.bool (Ln.reachesB kind d)) ∧ w' = w := by
 have R := hid (show Ln.reachesB kind d = if kind = 2 then decide (-4096 ≤ d) && decide (d ≤ 4095) else if kind = 3 then decide (-1048576 ≤ d) && decide (d ≤ 1048575) else true from rfl)
 by_cases e2 : kind = 2
 ·subst e2
  by_cases a : -4096 ≤ d
  ·have d1 : decide (-4096 ≤ d) = true := by simpa using a
   have E := hid (show Ln.reachesB 2 d = decide (d ≤ 4095) by rw [R.out]; simp [a])
   clear a
   go_enter Tryz.func103, Tryz.ntmps103
   go_wp2
   go_ret
   exact ⟨by rw [E.out]; rfl, rfl⟩
  ·have d1 : decide (-4096 ≤ d) = false := by simpa using a
   have E := hid (show Ln.reachesB 2 d = false by rw [R.out]; simp [a])
   clear a
   go_enter Tryz.func103, Tryz.ntmps103
   go_wp2
   go_ret
   exact ⟨by rw [E.out]; rfl, rfl⟩
 ·by_cases e3 : kind = 3
  ·subst e3
   clear e2
   by_cases a : -1048576 ≤ d
   ·have d1 : decide (-1048576 ≤ d) = true := by simpa using a
    have E := hid (show Ln.reachesB 3 d = decide (d ≤ 1048575) by rw [R.out]; simp [a])
    clear a
    go_enter Tryz.func103, Tryz.ntmps103
    go_wp2
    go_ret
    exact ⟨by rw [E.out]; rfl, rfl⟩
   ·have d1 : decide (-1048576 ≤ d) = false := by simpa using a
    have E := hid (show Ln.reachesB 3 d = false by rw [R.out]; simp [a])
    clear a
    go_enter Tryz.func103, Tryz.ntmps103
    go_wp2
    go_ret
    exact ⟨by rw [E.out]; rfl, rfl⟩
  ·have E := hid (show Ln.reachesB kind d = true by rw [R.out, if_neg e2, if_neg e3])
   have d2 : (kind == 2) = false := by simpa using e2
   have d3 : (kind == 3) = false := by simpa using e3
   clear e2 e3
   go_enter Tryz.func103, Tryz.ntmps103
   go_wp2
   go_ret
   exact ⟨by rw [E.out]; rfl, rfl⟩

set_option maxRecDepth 100000 in
set_option maxHeartbeats 2000000 in
theorem symbolName_any (bl : List Nat) (b g : Nat) (m : Ln.Mod) (i : Int) (w : World) (h : ModAt w bl b g m) (hs : m.obj.syms.length ≤ 65535) :
  Calls Tryz.prog 104 #[ptrV b, .int .i64 i] w fun e w' => e = .returned (.string (bs (Ln.symName m.obj i))) ∧ w' = w := by
 obtain ⟨v1, v2, v3, v4, q0, q1, -⟩ := h
 obtain ⟨at_, ct, af, cf, ad, cd, aa, ca, as_, cs, ar, cr, hb, -, -, -, -, p5, -⟩ := q1.open
 have S := SymsIn.of_own p5
 have k5 := hb.cell 5
 simp only [List.getElem?_toArray, List.getElem?_cons_succ, List.getElem?_cons_zero] at k5
 have k0 : w.cell? ⟨b, 0, none⟩ = some (.pointer (some ⟨g, 0, none⟩)) := q0.cell 0
 clear q0 q1 hb p5
 have R := hid (show Ln.symName m.obj i = if i < 0 then [] else match m.obj.syms[i.toNat]? with
  | none => []
  | some y => y.name from rfl)
 generalize m.obj.syms = ys at *
 unfold ptrV
 by_cases h0 : i < 0
 ·have d0 : decide (i < 0) = true := by simpa using h0
  have E := hid (show Ln.symName m.obj i = [] by rw [R.out, if_pos h0])
  clear h0
  go_enter Tryz.func104, Tryz.ntmps104
  go_wp2
  go_ret
  exact ⟨by rw [E.out]; rfl, rfl⟩
 ·obtain ⟨k, rfl⟩ : ∃ k : Nat, i = (k : Int) := ⟨i.toNat, by omega⟩
  have d0 : decide ((k : Int) < 0) = false := by simp
  clear h0
  by_cases hlt : k < ys.length
  ·have d1 : decide ((ys.length : Int) ≤ (k : Int)) = false := by simp; omega
   obtain ⟨sg, hsg, hgs, hcs⟩ := S (by omega)
   subst hsg
   obtain ⟨q0, q1, q2, q3⟩ := hcs k hlt
   clear hcs
   have E := hid (show Ln.symName m.obj k = ys[k].name by rw [R.out, if_neg (by omega), Int.toNat_natCast, List.getElem?_eq_getElem hlt])
   generalize ys[k] = y at *
   go_enter Tryz.func104, Tryz.ntmps104
   go_wp2
   go_ret
   exact ⟨by rw [E.out]; rfl, rfl⟩
  ·have d1 : decide ((ys.length : Int) ≤ (k : Int)) = true := by simp; omega
   have E := hid (show Ln.symName m.obj k = [] by rw [R.out, if_neg (by omega), Int.toNat_natCast, List.getElem?_eq_none (by omega)])
   go_enter Tryz.func104, Tryz.ntmps104
   go_wp2
   go_ret
   exact ⟨by rw [E.out]; rfl, rfl⟩

set_option maxRecDepth 100000 in
set_option maxHeartbeats 8000000 in
theorem checkReach_any (W0 : World) (P : Nat) (bt bf bd : Int) (vm : Value) (bl gl : List Nat) (ms : List Ln.Mod) (st : Ln.Spot) (no : Int) (W : World) (h : ProgAt W0 P bt bf bd vm bl gl ms st no W) (hn : ∀ m ∈ ms, MNice bl.length m) :
  Calls Tryz.prog 70 #[ptrV P] W fun e W' => e = .returned (lfA (Ln.checkReach ms)) ∧ W.grownBy W' none := by
 obtain ⟨am, cm, rfl⟩ := own_form h.row
 have HP := hid h
 have c3 : W.cell? ⟨P, 3, none⟩ = some (.slice am bl.length cm) := h.blk.cell 3
 have hbl := h.few
 have LO := hid h.lenO
 have HN := hid hn
 have G0 := hid (World.grownBy_alloc W (.cells #[.int .i64 0, .int .i64 0, .string ⟨#[]⟩] 45) none)
 have B0 := hid (BlkAt.new W #[.int .i64 0, .int .i64 0, .string ⟨#[]⟩] 45)
 have c3' := gcell c3 G0.out
 clear h hn c3
 unfold ptrV
 go_enter Tryz.func70, Tryz.ntmps70
 go_wp2
 generalize W.alloc (.cells #[.int .i64 0, .int .i64 0, .string ⟨#[]⟩] 45) = W1 at *
 clear c3'
 go_loopw [12] (fun i wr => ∃ k : Nat, k ≤ bl.length ∧ i = .int .i64 k ∧ Ln.checkReach ms = Ln.reachAt ms k (ms.drop k) ∧ W1.grownBy wr none) (fun i _ => bl.length - (intOf i).toNat)
 case atStart => exact ⟨0, Nat.zero_le _, rfl, rfl, World.grownBy.refl _ _⟩
 case round =>
  obtain ⟨k, hk, rfl, hf, hgr⟩ := hrel
  have HF := hid hf
  have HG := hid hgr
  clear hf hgr
  by_cases hlt : k < bl.length
  ·have hko : k < ms.length := by rw [LO.out]; exact hlt
   have hkg : k < gl.length := by rw [HP.out.lenG]; exact hlt
   have PR := HP.out.kept (grown_trans G0.out HG.out)
   obtain ⟨sg, off, hsg, hsc⟩ := PR.modsIn.ptrs (by omega)
   have ck := hsc k hlt
   have HM : ModAt wr bl bl[k] (gl[k]'hkg) ms[k] := PR.mods k hlt
   have MN := HN.out _ (List.getElem_mem hko)
   have MA := hid (PR.modsAt HN.out)
   have HMH := hid HM
   obtain ⟨v1, v2, v3, v4, q0, q1, -⟩ := HM
   obtain ⟨at_, ct, af, cf, ad, cd, aa, ca, as_, cs, ar, cr, hb, -, -, -, -, -, p6⟩ := q1.open
   have S := hid (RelsIn.of_own p6)
   have k6 := hb.cell 6
   simp only [List.getElem?_toArray, List.getElem?_cons_succ, List.getElem?_cons_zero] at k6
   have k0 : wr.cell? ⟨bl[k], 0, none⟩ = some (.pointer (some ⟨gl[k]'hkg, 0, none⟩)) := q0.cell 0
   have hrl := MN.rels.1
   have hsy := HP.out.syms _ (List.getElem_mem hko)
   have FD := hid (reachAt_drop ms ms k hko)
   have cD := hid (fun W2 (hg : wr.grownBy W2 none) r (hr : r ∈ ms[k].obj.rels) => distance_any bl ms bl[k] (gl[k]'hkg) ms[k] r W2 (MA.out.kept hg) (HMH.out.kept hg) MN (MN.rels.2 r hr).2.1 (MN.rels.2 r hr).2.2)
   have cS := hid (fun W2 (hg : wr.grownBy W2 none) i => symbolName_any bl bl[k] (gl[k]'hkg) ms[k] i W2 (HMH.out.kept hg) hsy)
   subst hsg
   clear hsc q0 q1 hb p6 PR MN hsy
   generalize (gl[k]'hkg) = gk at *
   generalize bl[k] = bk at *
   generalize ms[k] = m at *
   have g1 : (k : Int) < (bl.length : Int) := by omega
   unfold ptrV relA at *
   go_wp2
   generalize wr = U at *
   clear ck k0 k6
   go_loopw [25] (fun i wr => ∃ j : Nat, j ≤ m.obj.rels.length ∧ i = .int .i64 j ∧ Ln.reachIn ms m k m.obj.rels = Ln.reachIn ms m k (m.obj.rels.drop j) ∧ U.grownBy wr none) (fun i _ => m.obj.rels.length - (intOf i).toNat)
   case atStart => exact ⟨0, Nat.zero_le _, rfl, rfl, World.grownBy.refl _ _⟩
   case round =>
    obtain ⟨j, hj, rfl, hf2, hgr2⟩ := hrel
    have HF2 := hid hf2
    have HG2 := hid hgr2
    clear hf2 hgr2
    by_cases hlt2 : j < m.obj.rels.length
    ·obtain ⟨sg2, hsg2, hgs, hcs⟩ := S.out.grown HG2.out (by omega)
     subst hsg2
     obtain ⟨q0, q1, q2, q3, q4⟩ := hcs j hlt2
     clear hcs
     have g2 : (j : Int) < (m.obj.rels.length : Int) := by omega
     have FI := hid (show Ln.reachIn ms m k m.obj.rels = _ from HF2.out.trans (reachIn_drop ms m k m.obj.rels j hlt2))
     have cE := hid (fun W2 hg => cD.out W2 hg m.obj.rels[j] (List.getElem_mem hlt2))
     have hn2 : m.obj.rels.length = m.obj.rels.length := rfl
     generalize m.obj.rels[j] = r at *
     have BX := hid (BlkAt.new wr #[.int .i64 r.sect, .int .i64 r.off, .int .i64 r.kind, .int .i64 r.sym, .int .i64 r.addend] 139)
     have GA := hid (World.grownBy_alloc wr (.cells #[.int .i64 r.sect, .int .i64 r.off, .int .i64 r.kind, .int .i64 r.sym, .int .i64 r.addend] 139) none)
     have GW := hid (grown_trans HG2.out GA.out)
     have cRe := hid (fun d W2 => reaches_any r.kind d W2)
     generalize Ln.distance ms m r = ds at *
     go_upto_region 7 with fail
     clear q0 q1 q2 q3 q4
     generalize wr.alloc (.cells #[.int .i64 r.sect, .int .i64 r.off, .int .i64 r.kind, .int .i64 r.sym, .int .i64 r.addend] 139) = W2 at *
     generalize wr.heap.size = L at *
     have c0 : W2.cell? ⟨L, 0, none⟩ = some (.int .i64 r.sect) := BX.out.cell 0
     have c1 : W2.cell? ⟨L, 1, none⟩ = some (.int .i64 r.off) := BX.out.cell 1
     have c2 : W2.cell? ⟨L, 2, none⟩ = some (.int .i64 r.kind) := BX.out.cell 2
     have c3 : W2.cell? ⟨L, 3, none⟩ = some (.int .i64 r.sym) := BX.out.cell 3
     have c4 : W2.cell? ⟨L, 4, none⟩ = some (.int .i64 r.addend) := BX.out.cell 4
     have BD := hid (fun W (hq : W2.drew.grownBy W none) => show BlkAt W L #[.int .i64 r.sect, .int .i64 r.off, .int .i64 r.kind, .int .i64 r.sym, .int .i64 r.addend] 139 from (blk_drew BX.out).grown hq (by simp))
     go_region_held3 (fun w' => w'.cell? ⟨L, 0, none⟩ = some (.int .i64 r.sect) ∧ w'.cell? ⟨L, 1, none⟩ = some (.int .i64 r.off) ∧ w'.cell? ⟨L, 2, none⟩ = some (.int .i64 r.kind) ∧ w'.cell? ⟨L, 3, none⟩ = some (.int .i64 r.sym) ∧ w'.cell? ⟨L, 4, none⟩ = some (.int .i64 r.addend))
      (go_keep)
      (first | (go_at_call 97; refine (cE.out _ (grown_drew GW.out)).mono ?_; rintro e w' ⟨rfl, hq⟩; have bq := BD.out _ hq; have s0 := bq.cell 0; have s1 := bq.cell 1; have s2 := bq.cell 2; have s3 := bq.cell 3; have s4 := bq.cell 4; simp only [List.getElem?_toArray, List.getElem?_cons_succ, List.getElem?_cons_zero] at s0 s1 s2 s3 s4) | (go_at_call 103; refine (cRe.out _ _).mono ?_; rintro e w2 ⟨rfl, hw⟩; rw [hw]; clear hw w2))
     have GQ := hid (grown_trans (grown_drew GW.out) hq)
     have BQ := hid bq
     clear hq bq c0 c1 c2 c3 c4 s0 s1 s2 s3 s4 cE cRe GA
     generalize hrb : Ln.reachesB r.kind ds = rb at *
     have HRB := hid hrb
     clear hrb
     cases rb
     ·have E := hid (show Ln.checkReach ms = ⟨37, k, Ln.symName m.obj r.sym⟩ by rw [HF.out, FD.out, FI.out]; rfl)
      have BR := hid (B0.out.grown (grown_trans HG.out GQ.out) (by simp))
      have cSy := hid (cS.out _ GQ.out r.sym)
      generalize Ln.symName m.obj r.sym = nm at *
      have c3 : w'.cell? ⟨L, 3, none⟩ = some (.int .i64 r.sym) := BQ.out.cell 3
      have z0 : w'.cell? ⟨W.heap.size, 0, none⟩ = some (.int .i64 0) := BR.out.cell 0
      have z1 : w'.cell? ⟨W.heap.size, 1, none⟩ = some (.int .i64 0) := BR.out.cell 1
      have z2 : w'.cell? ⟨W.heap.size, 2, none⟩ = some (.string ⟨#[]⟩) := BR.out.cell 2
      have f0 := BR.out.free 0
      have f1 := BR.out.free 1
      have f2 := BR.out.free 2
      go_wp2_with fail
      refine cSy.out.mono ?_
      rintro e w2 ⟨rfl, hw⟩
      rw [hw]
      clear hw w2 cSy c3
      go_wp2
      have F := ((BR.out.set 0 (.int .i64 37)).set 1 (.int .i64 k)).set 2 (.string (bs nm))
      have h0 := F.cell 0
      have h1 := F.cell 1
      have h2 := F.cell 2
      simp only [List.setIfInBounds_toArray, List.set_cons_succ, List.set_cons_zero, List.getElem?_toArray, List.getElem?_cons_succ, List.getElem?_cons_zero] at h0 h1 h2
      refine bodyPost_ret (v := lfA ⟨37, k, nm⟩) ?_ rfl ⟨by rw [E.out], sets3_grown (grown_trans G0.out (grown_trans HG.out GQ.out)) _ (Nat.le_refl _) _ _ _⟩
      clear F z0 z1 z2 f0 f1 f2
      generalize World.setCell _ _ _ = WF at *
      simp [results, Tryz.results70, go_sem, lfA, h0, h1, h2]
     ·have E := hid (show Ln.reachIn ms m k m.obj.rels = Ln.reachIn ms m k (m.obj.rels.drop (j + 1)) from FI.out)
      go_wp2
      go_roundw
      case rel => exact ⟨j + 1, by omega, by go_num, E.out, GQ.out⟩
      case measure => simp [intOf]; omega
    ·obtain rfl : j = m.obj.rels.length := by omega
     have E := hid (show Ln.reachIn ms m k m.obj.rels = none by rw [HF2.out, List.drop_length]; rfl)
     have g3 : decide ((m.obj.rels.length : Int) < (m.obj.rels.length : Int)) = false := by simp
     go_wp2
     go_roundw
     case rel => exact ⟨k + 1, by omega, by go_num, by rw [HF.out, FD.out, E.out], grown_trans HG.out HG2.out⟩
     case measure => simp [intOf]; omega
  ·obtain rfl : k = bl.length := by omega
   have E := hid (show Ln.checkReach ms = Ln.ok by rw [HF.out, ← LO.out, List.drop_length]; rfl)
   have g3 : decide ((bl.length : Int) < (bl.length : Int)) = false := by simp
   have BR := hid (B0.out.grown HG.out (by simp))
   have z0 : wr.cell? ⟨W.heap.size, 0, none⟩ = some (.int .i64 0) := BR.out.cell 0
   have z1 : wr.cell? ⟨W.heap.size, 1, none⟩ = some (.int .i64 0) := BR.out.cell 1
   have z2 : wr.cell? ⟨W.heap.size, 2, none⟩ = some (.string ⟨#[]⟩) := BR.out.cell 2
   have f0 := BR.out.free 0
   have f1 := BR.out.free 1
   have f2 := BR.out.free 2
   go_wp2
   have F := ((BR.out.set 0 (.int .i64 0)).set 1 (.int .i64 0)).set 2 (.string ⟨#[]⟩)
   have h0 := F.cell 0
   have h1 := F.cell 1
   have h2 := F.cell 2
   simp only [List.setIfInBounds_toArray, List.set_cons_succ, List.set_cons_zero, List.getElem?_toArray, List.getElem?_cons_succ, List.getElem?_cons_zero] at h0 h1 h2
   refine bodyPost_ret (v := lfA Ln.ok) ?_ rfl ⟨by rw [E.out], sets3_grown (grown_trans G0.out HG.out) _ (Nat.le_refl _) _ _ _⟩
   clear F z0 z1 z2 f0 f1 f2
   generalize World.setCell _ _ _ = WF at *
   simp [results, Tryz.results70, go_sem, lfA, Ln.ok, bs, h0, h1, h2]

end Go.Proofs.YtnfgdlkiialnnaaGreatDoor

namespace Go.Proofs.YtnfgdlkiialnnaaGreatDoor
open Go.RowKit

namespace Im
def endT (m : Img) : Int := m.text + 4 * (m.T.length : Int)
def endF (m : Img) : Int := m.far + 4 * (m.F.length : Int)
def endD (m : Img) : Int := m.data + 4 * ((m.D.length : Int) + m.noughts)
def Fits (m : Img) : Prop := (endT m ≤ 1073741824 ∧ endF m ≤ 1073741824 ∧ endD m ≤ 1073741824) ∧ (¬ Meet m.text (endT m) m.far (endF m) ∧ ¬ Meet m.text (endT m) m.data (endD m) ∧ ¬ Meet m.far (endF m) m.data (endD m))
end Im

def regC (a b : Int) : Array Value := #[.int .i64 a, .int .i64 b]
theorem two_regions (w : World) (a b : Int) : BlkAt ((w.alloc (.cells (regC a b) 163)).alloc (.cells (regC a b) 163)).drew w.heap.size (regC a b) 163 ∧
  BlkAt ((w.alloc (.cells (regC a b) 163)).alloc (.cells (regC a b) 163)).drew (w.heap.size + 1) (regC a b) 163 ∧ w.grownBy ((w.alloc (.cells (regC a b) 163)).alloc (.cells (regC a b) 163)).drew none := by
 have b1 := BlkAt.new w (regC a b) 163
 have b2 := BlkAt.new (w.alloc (.cells (regC a b) 163)) (regC a b) 163
 rw [show (w.alloc (.cells (regC a b) 163)).heap.size = w.heap.size + 1 from Array.size_push _] at b2
 exact ⟨(b1.grown (World.grownBy_alloc _ _ none) (by simp)).drewN 1, b2.drewN 1, grown_drew (grown_trans (World.grownBy_alloc _ _ none) (World.grownBy_alloc _ _ none))⟩

set_option maxHeartbeats 8000000 in
theorem regionsFit_any (g : Nat) (m : Im.Img) (w : World) (h : ImgAt w g m) (ht : Im.Tame m) :
  Calls Tryz.prog 69 #[.pointer (some ⟨g, 0, none⟩)] w fun e w' => Tells e (Im.Fits m) ∧ w.grownBy w' none := by
 obtain ⟨at_, ct, af, cf, ad, cd, hb, q1, q2, q3⟩ := h.open
 have HB := hid hb
 have hl := ht.lens
 have hn := ht.noughts
 have r1 := ht.text
 have r2 := ht.far
 have r3 := ht.data
 have cT := hid (fun W => regionOf_any m.text m.T.length W ht.text.1 ht.text.2 (by omega) (by omega))
 have cF := hid (fun W => regionOf_any m.far m.F.length W ht.far.1 ht.far.2 (by omega) (by omega))
 have cD := hid (fun W => regionOf_any m.data (m.D.length + m.noughts) W ht.data.1 ht.data.2 (by omega) (by omega))
 have F0 := hid (show Im.Fits m ↔ (Im.endT m ≤ 1073741824 ∧ Im.endF m ≤ 1073741824 ∧ Im.endD m ≤ 1073741824) ∧ (¬ Im.Meet m.text (Im.endT m) m.far (Im.endF m) ∧ ¬ Im.Meet m.text (Im.endT m) m.data (Im.endD m) ∧ ¬ Im.Meet m.far (Im.endF m) m.data (Im.endD m)) from Iff.rfl)
 generalize Im.Fits m = Q at *
 have ww : IntKind.i64.wrap ((m.D.length : Int) + m.noughts) = (m.D.length : Int) + m.noughts := IntWalk.i64_in _ ⟨by omega, by omega⟩
 clear h ht hb q1 q2 q3
 have k1 := HB.out.cell 1
 have k4 := HB.out.cell 4
 simp only [List.getElem?_toArray, List.getElem?_cons_succ, List.getElem?_cons_zero] at k1 k4
 have hlt := HB.out.lt
 have hne : g ≠ w.heap.size := by omega
 go_enter Tryz.func69, Tryz.ntmps69
 go_upto_region 1 with fail
 go_cut [3] from 6 to 16 (fun v wx => ∃ r, v = .pointer (some ⟨r, 0, none⟩) ∧ BlkAt wx r (regC m.text (Im.endT m)) 163 ∧ w.grownBy wx none)
 case first =>
  go_region_with (go_at_call 101; refine (cT.out _).mono ?_; rintro e w' ⟨rfl, rfl⟩)
  all_goals (go_wp2_with fail; go_meet; first | exact ⟨w.heap.size, rfl, (two_regions w m.text (Im.endT m)).1, (two_regions w m.text (Im.endT m)).2.2⟩ | exact ⟨w.heap.size + 1, rfl, (two_regions w m.text (Im.endT m)).2.1, (two_regions w m.text (Im.endT m)).2.2⟩)
 case rest =>
 obtain ⟨ra, rfl, b1, g1⟩ := hcut
 clear k1 k4 hlt hne cT
 generalize wc = W1 at *
 have HB1 := hid (HB.out.grown g1 (by simp))
 have P1 := hid b1
 have G1 := hid g1
 clear b1 g1 HB
 have k2 := HB1.out.cell 2
 have k5 := HB1.out.cell 5
 simp only [List.getElem?_toArray, List.getElem?_cons_succ, List.getElem?_cons_zero] at k2 k5
 have hlt := HB1.out.lt
 have hne : g ≠ W1.heap.size := by omega
 go_upto_region 2 with fail
 go_cut [4] from 17 to 27 (fun v wx => ∃ r, v = .pointer (some ⟨r, 0, none⟩) ∧ BlkAt wx r (regC m.far (Im.endF m)) 163 ∧ W1.grownBy wx none)
 case first =>
  go_region_with (go_at_call 101; refine (cF.out _).mono ?_; rintro e w' ⟨rfl, rfl⟩)
  all_goals (go_wp2_with fail; go_meet; first | exact ⟨W1.heap.size, rfl, (two_regions W1 m.far (Im.endF m)).1, (two_regions W1 m.far (Im.endF m)).2.2⟩ | exact ⟨W1.heap.size + 1, rfl, (two_regions W1 m.far (Im.endF m)).2.1, (two_regions W1 m.far (Im.endF m)).2.2⟩)
 case rest =>
 obtain ⟨rb, rfl, b1, g1⟩ := hcut
 clear k2 k5 hlt hne cF
 generalize wc = W2 at *
 have HB2 := hid (HB1.out.grown g1 (by simp))
 have P1' := hid (P1.out.grown g1 (by simp))
 have P2 := hid b1
 have G2 := hid (grown_trans G1.out g1)
 clear b1 g1 HB1 P1 G1
 have k3 := HB2.out.cell 3
 have k6 := HB2.out.cell 6
 have k7 := HB2.out.cell 7
 simp only [List.getElem?_toArray, List.getElem?_cons_succ, List.getElem?_cons_zero] at k3 k6 k7
 have hlt := HB2.out.lt
 have hne : g ≠ W2.heap.size := by omega
 go_upto_region 3 with fail
 go_cut [5] from 28 to 43 (fun v wx => ∃ r, v = .pointer (some ⟨r, 0, none⟩) ∧ BlkAt wx r (regC m.data (Im.endD m)) 163 ∧ W2.grownBy wx none)
 case first =>
  go_region_with (go_at_call 101; refine (cD.out _).mono ?_; rintro e w' ⟨rfl, rfl⟩)
  all_goals (go_wp2_with fail; go_meet; first | exact ⟨W2.heap.size, rfl, (two_regions W2 m.data (Im.endD m)).1, (two_regions W2 m.data (Im.endD m)).2.2⟩ | exact ⟨W2.heap.size + 1, rfl, (two_regions W2 m.data (Im.endD m)).2.1, (two_regions W2 m.data (Im.endD m)).2.2⟩)
 case rest =>
 obtain ⟨rc, rfl, b1, g1⟩ := hcut
 clear k3 k6 k7 hlt hne cD
 generalize wc = W3 at *
 have B1 := hid (P1'.out.grown g1 (by simp))
 have B2 := hid (P2.out.grown g1 (by simp))
 have B3 := hid b1
 have G := hid (grown_trans G2.out g1)
 clear b1 g1 HB2 P1' P2 G2
 generalize Im.endT m = eT at *
 generalize Im.endF m = eF at *
 generalize Im.endD m = eD at *
 have a0 := B1.out.cell 0
 have a1 := B1.out.cell 1
 have c0 := B2.out.cell 0
 have c1 := B2.out.cell 1
 have d0 := B3.out.cell 0
 have d1 := B3.out.cell 1
 simp only [regC, List.getElem?_toArray, List.getElem?_cons_succ, List.getElem?_cons_zero] at a0 a1 c0 c1 d0 d1
 by_cases z1 : 1073741824 < eT
 ·have e1 : decide (1073741824 < eT) = true := by simpa using z1
  have N := hid (show ¬ Q from fun q => by have := (F0.out.1 q).1.1; omega)
  clear z1
  go_wp2
  go_ret
  exact ⟨Tells.no N.out, G.out⟩
 ·have e1 : decide (1073741824 < eT) = false := by simpa using z1
  by_cases z2 : 1073741824 < eF
  ·have e2 : decide (1073741824 < eF) = true := by simpa using z2
   have N := hid (show ¬ Q from fun q => by have := (F0.out.1 q).1.2.1; omega)
   clear z1 z2
   go_wp2
   go_ret
   exact ⟨Tells.no N.out, G.out⟩
  ·have e2 : decide (1073741824 < eF) = false := by simpa using z2
   by_cases z3 : 1073741824 < eD
   ·have e3 : decide (1073741824 < eD) = true := by simpa using z3
    have N := hid (show ¬ Q from fun q => by have := (F0.out.1 q).1.2.2; omega)
    clear z1 z2 z3
    go_wp2
    go_ret
    exact ⟨Tells.no N.out, G.out⟩
   ·have e3 : decide (1073741824 < eD) = false := by simpa using z3
    have LE := hid (show eT ≤ 1073741824 ∧ eF ≤ 1073741824 ∧ eD ≤ 1073741824 by omega)
    clear z1 z2 z3
    go_wp2_with fail
    refine (meet_any m.text eT m.far eF W3).mono ?_
    rintro e V1 ⟨t1, h1⟩
    have G1 := hid (grown_trans G.out h1)
    replace a0 := gcell a0 h1
    replace a1 := gcell a1 h1
    replace c0 := gcell c0 h1
    replace c1 := gcell c1 h1
    replace d0 := gcell d0 h1
    replace d1 := gcell d1 h1
    rcases t1.split with ⟨rfl, p1⟩ | ⟨rfl, p1⟩ <;> clear t1 h1
    ·go_wp2_with fail
     refine (meet_any m.text eT m.data eD V1).mono ?_
     rintro e V2 ⟨t2, h2⟩
     have G2 := hid (grown_trans G1.out h2)
     replace a0 := gcell a0 h2
     replace a1 := gcell a1 h2
     replace c0 := gcell c0 h2
     replace c1 := gcell c1 h2
     replace d0 := gcell d0 h2
     replace d1 := gcell d1 h2
     rcases t2.split with ⟨rfl, p2⟩ | ⟨rfl, p2⟩ <;> clear t2 h2
     ·go_wp2_with fail
      refine (meet_any m.far eF m.data eD V2).mono ?_
      rintro e V3 ⟨t3, h3⟩
      have G3 := hid (grown_trans G2.out h3)
      rcases t3.split with ⟨rfl, p3⟩ | ⟨rfl, p3⟩ <;> clear t3 h3
      ·go_wp2
       go_ret
       exact ⟨Tells.yes (F0.out.2 ⟨LE.out, p1.out, p2.out, p3.out⟩), G3.out⟩
      ·go_wp2
       go_ret
       exact ⟨Tells.no fun q => (F0.out.1 q).2.2.2 p3.out, G3.out⟩
     ·go_wp2
      go_ret
      exact ⟨Tells.no fun q => (F0.out.1 q).2.2.1 p2.out, G2.out⟩
    ·go_wp2
     go_ret
     exact ⟨Tells.no fun q => (F0.out.1 q).2.1 p1.out, G1.out⟩

end Go.Proofs.YtnfgdlkiialnnaaGreatDoor
