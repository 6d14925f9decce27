/- Walks over the document's answer: an object's bytes. -/
/- Walks over the document's answer: Parse. -/
/- The plain side: archives. -/
/- Walks over package archive: Members. -/
import Derived.Test.YtogbomihnhfaiaaDoorG17
import Derived.Test.YtogbomihnhfaiaaDoorG07
import Derived.Test.YtogbomihnhfaiaaDoorG08
namespace Go.Proofs.YtogbomihnhfaiaaDoor
open Go.RowKit

theorem lk_append (b : List UInt8) : (⟨#[76, 75]⟩ : ByteArray) ++ bs b = bs ([76, 75] ++ b) := bs_append [76, 75] b

theorem symB_le' (y : Lk.Sym) (h : y.name.length ≤ 255) : (Lk.symB y).length ≤ 260 := by
  simp only [Lk.symB, List.length_append, Lk.le_length]
  omega
theorem le_sz (v : Int) (n : Nat) (hn : n ≤ 4) : (bs (Lk.le v n)).size ≤ 4 := by rw [bs_size, Lk.le_length]; exact hn
theorem bs_sz (l : List UInt8) (k : Nat) (h : l.length ≤ k) : (bs l).size ≤ k := by rw [bs_size]; exact h

set_option maxRecDepth 100000 in
set_option maxHeartbeats 8000000 in
theorem bytes_any (g : Nat) (o : Lk.Obj) (w : World) (h : ObjAt w g o) (hn : Small o) (ha : o.align.length = 4) (hz : o.syms.length ≤ 16 ∧ o.rels.length ≤ 32) (hl : ∀ y ∈ o.syms, y.name.length ≤ 255) :
    Calls Tryd.prog 19 #[.pointer (some ⟨g, 0, none⟩)] w fun e w' => e = .returned (.string (bs (Lk.objB o))) ∧ w.grownBy w' none := by
  obtain ⟨at_, ct, af, cf, ad, cd, aa, ca, as_, cs, ar, cr, hb, h1, h2, h3, h4, h5, h6⟩ := h.open
  have HB := hid hb
  have I1 := hid (IntsIn.of_own h1)
  have I2 := hid (IntsIn.of_own h2)
  have I3 := hid (IntsIn.of_own h3)
  have I4 := hid (IntsIn.of_own h4)
  have I5 := hid (SymsIn.of_own h5)
  have I6 := hid (RelsIn.of_own h6)
  have k0 := hb.cell 0
  obtain ⟨m1, m2, m3, m4, m5, m6⟩ := hn
  have HA := hid ha
  have HL := hid hl
  have ha4 : 4 ≤ o.align.length := by omega
  have ha5 : o.align.length ≤ 4 := by omega
  clear h hb h1 h2 h3 h4 h5 h6 hl ha
  have z1 := le_sz o.text.length 2 (by decide)
  have z2 := le_sz o.far.length 2 (by decide)
  have z3 := le_sz o.data.length 2 (by decide)
  have z4 := le_sz o.bss 2 (by decide)
  go_enter Tryd.func19, Tryd.ntmps19
  go_wp2_with fail
  refine (le_lit (o.text.length : Int) 2 2 rfl w (by omega)).mono ?_
  rintro e w1 ⟨rfl, q1⟩
  have k1 := (HB.out.grown q1 (by simp)).cell 1
  have Q1 := hid q1
  clear q1 k0
  go_wp2_with fail
  refine (le_lit (o.far.length : Int) 2 2 rfl w1 (by omega)).mono ?_
  rintro e w2 ⟨rfl, q2⟩
  have Q2 := hid (grown_trans Q1.out q2)
  have k2 := (HB.out.grown Q2.out (by simp)).cell 2
  clear q2 k1 Q1
  go_wp2_with fail
  refine (le_lit (o.data.length : Int) 2 2 rfl w2 (by omega)).mono ?_
  rintro e w3 ⟨rfl, q3⟩
  have Q3 := hid (grown_trans Q2.out q3)
  have k3 := (HB.out.grown Q3.out (by simp)).cell 3
  clear q3 k2 Q2
  go_wp2_with fail
  refine (le_lit o.bss 2 2 rfl w3 (by omega)).mono ?_
  rintro e w4 ⟨rfl, q4⟩
  have Q4 := hid (grown_trans Q3.out q4)
  clear q4 k3 Q3
  go_wp2
  obtain ⟨p1, hp1⟩ : ∃ p1, p1 = [76, 75] ++ (Lk.le o.text.length 2 ++ (Lk.le o.far.length 2 ++ (Lk.le o.data.length 2 ++ Lk.le o.bss 2))) := ⟨_, rfl⟩
  have HP1 := hid hp1
  have hl1 : p1.length ≤ 10 := by rw [hp1]; simp [Lk.le_length]
  clear hp1
  go_loopw [3, 8] (fun t i wr => ∃ n : Nat, n ≤ 4 ∧ i = .int .i64 n ∧ (∃ acc : List UInt8, t = .string (bs acc) ∧ acc = p1 ++ Lk.nums (o.align.take n) 1) ∧ w.grownBy wr none) (fun _ i _ => 4 - (intOf i).toNat)
  case atStart =>
    refine ⟨0, Nat.zero_le _, rfl, ⟨p1, ?_, by simp [Lk.nums]⟩, Q4.out⟩
    rw [HP1.out, lk_append, bs_append, bs_append, bs_append]
    simp
  case round =>
    obtain ⟨n, hn4, rfl, hacc, hgr⟩ := hrel
    obtain ⟨acc, hte, hae⟩ := hacc
    subst hte
    have HG := hid hgr
    have HAE := hid hae
    clear hgr hae
    have B := HB.out.grown HG.out (by simp)
    by_cases hlt : n < 4
    · obtain ⟨ga, off, hao, hc⟩ := (I4.out.kept (fun a v hv => gcell hv HG.out)) (by omega)
      subst hao
      have hck := hc n (by omega)
      have k4 := B.cell 4
      have hlt2 : n < o.align.length := by omega
      have g1 : (n : Int) < 4 := by omega
      have g2 : (n : Int) < (o.align.length : Int) := by omega
      have cL := hid (fun W => le_lit (o.align[n]'hlt2) 1 1 rfl W (by omega))
      clear hc B
      go_wp2_with fail
      refine (cL.out _).mono ?_
      rintro e w5 ⟨rfl, q5⟩
      have Q5 := hid (grown_trans HG.out q5)
      clear q5
      have y1 := bs_sz acc 14 (by rw [HAE.out, List.length_append, nums_length, List.length_take]; omega)
      have y2 := le_sz (o.align[n]'hlt2) 1 (by decide)
      go_wp2
      go_roundw
      case rel => exact ⟨n + 1, by omega, by go_num, ⟨acc ++ Lk.le (o.align[n]'hlt2) 1, by rw [← bs_append], by rw [HAE.out, nums_snoc o.align n 1 hlt2, List.append_assoc]⟩, Q5.out⟩
      case measure => simp [intOf]; omega
    · have hae := HAE.out
      rw [List.take_of_length_le (show o.align.length ≤ n by omega)] at hae
      have HP2 := hid hae
      have hl2 : acc.length ≤ 14 := by rw [hae, List.length_append, nums_length]; omega
      have k5 := B.cell 5
      have g1 : (4 : Int) ≤ (n : Int) := by omega
      clear hae HAE B
      go_wp2_with fail
      refine (le_lit (o.syms.length : Int) 1 1 rfl wr (by omega)).mono ?_
      rintro e w6 ⟨rfl, q6⟩
      have Q6 := hid (grown_trans HG.out q6)
      have k6 := (HB.out.grown Q6.out (by simp)).cell 6
      clear q6 k5
      go_wp2_with fail
      refine (le_lit (o.rels.length : Int) 1 1 rfl w6 (by omega)).mono ?_
      rintro e w7 ⟨rfl, q7⟩
      have Q7 := hid (grown_trans Q6.out q7)
      clear q7 k6
      have y1 := bs_sz acc 14 hl2
      have y2 := le_sz o.syms.length 1 (by decide)
      have y3 := le_sz o.rels.length 1 (by decide)
      go_wp2
      obtain ⟨p3, hp3⟩ : ∃ p3, p3 = acc ++ (Lk.le o.syms.length 1 ++ Lk.le o.rels.length 1) := ⟨_, rfl⟩
      have HP3 := hid hp3
      have hl3 : p3.length ≤ 16 := by rw [hp3, List.length_append, List.length_append, Lk.le_length, Lk.le_length]; omega
      clear hp3
      go_loopw [3, 9] (fun t i wr => ∃ n : Nat, n ≤ o.syms.length ∧ i = .int .i64 n ∧ (∃ acc : List UInt8, t = .string (bs acc) ∧ acc = p3 ++ (o.syms.take n).flatMap Lk.symB) ∧ w.grownBy wr none) (fun _ i _ => o.syms.length - (intOf i).toNat)
      case atStart =>
        refine ⟨0, Nat.zero_le _, rfl, ⟨p3, ?_, by simp⟩, Q7.out⟩
        rw [HP3.out, bs_append, bs_append]
        simp
      case round =>
        obtain ⟨n, hn4, rfl, hacc, hgr⟩ := hrel
        obtain ⟨acc, hte, hae⟩ := hacc
        subst hte
        have HG := hid hgr
        have HAE := hid hae
        have hla : acc.length ≤ 4176 := by
          have := flat_take_le Lk.symB 260 n o.syms (fun y hy => symB_le' y (HL.out y hy))
          rw [hae, List.length_append]
          omega
        clear hgr hae
        have B := HB.out.grown HG.out (by simp)
        have kk := B.cell 5
        by_cases hlt : n < o.syms.length
        · obtain ⟨sg, hao, hgs, hc⟩ := (I5.out.grown HG.out) (by omega)
          subst hao
          obtain ⟨q0, q1, q2, q3⟩ := hc n hlt
          have S0 := hid (BlkAt.new wr #[.string (bs o.syms[n].name), .int .i64 o.syms[n].bind, .int .i64 o.syms[n].sect, .int .i64 o.syms[n].off] 46)
          have G0 := hid (grown_trans HG.out (World.grownBy_alloc wr (.cells #[.string (bs o.syms[n].name), .int .i64 o.syms[n].bind, .int .i64 o.syms[n].sect, .int .i64 o.syms[n].off] 46) none))
          clear hc B
          go_wp2_with fail
          refine (le_lit ((bs o.syms[n].name).size : Int) 1 1 rfl (wr.alloc (.cells #[.string (bs o.syms[n].name), .int .i64 o.syms[n].bind, .int .i64 o.syms[n].sect, .int .i64 o.syms[n].off] 46)) (by omega)).mono ?_
          rintro e v1 ⟨rfl, r1⟩
          have S1 := hid (S0.out.grown r1 (by simp))
          have G1 := hid (grown_trans G0.out r1)
          clear r1
          have c11 := S1.out.cell 1
          go_wp2_with fail
          refine (le_lit o.syms[n].bind 1 1 rfl v1 (by omega)).mono ?_
          rintro e v2 ⟨rfl, r2⟩
          have S2 := hid (S1.out.grown r2 (by simp))
          have G2 := hid (grown_trans G1.out r2)
          clear r2
          have c22 := S2.out.cell 2
          go_wp2_with fail
          refine (le_lit o.syms[n].sect 1 1 rfl v2 (by omega)).mono ?_
          rintro e v3 ⟨rfl, r3⟩
          have S3 := hid (S2.out.grown r3 (by simp))
          have G3 := hid (grown_trans G2.out r3)
          clear r3
          have c33 := S3.out.cell 3
          go_wp2_with fail
          refine (le_lit o.syms[n].off 2 2 rfl v3 (by omega)).mono ?_
          rintro e v4 ⟨rfl, r4⟩
          have S4 := hid (S3.out.grown r4 (by simp))
          have G4 := hid (grown_trans G3.out r4)
          clear r4
          have c40 := S4.out.cell 0
          have x0 := bs_sz acc 4176 hla
          have x1 := le_sz ((bs o.syms[n].name).size : Int) 1 (by decide)
          have x2 := le_sz o.syms[n].bind 1 (by decide)
          have x3 := le_sz o.syms[n].sect 1 (by decide)
          have x4 := le_sz o.syms[n].off 2 (by decide)
          have xn := bs_sz o.syms[n].name 255 (HL.out _ (List.getElem_mem hlt))
          have HSZ := hid (bs_size o.syms[n].name)
          go_wp2
          go_roundw
          case rel =>
            refine ⟨n + 1, by omega, by go_num, ⟨acc ++ Lk.symB o.syms[n], ?_, by rw [HAE.out, syms_snoc Lk.symB o.syms n hlt, List.append_assoc]⟩, G4.out⟩
            rw [bs_append, bs_append, bs_append, bs_append, bs_append, HSZ.out]
            simp [Lk.symB]
          case measure => simp [intOf]; omega
        · have hae := HAE.out
          rw [List.take_of_length_le (show o.syms.length ≤ n by omega)] at hae
          have HP4 := hid hae
          clear hae HAE
          have B2 := HB.out.grown HG.out (by simp)
          go_wp2
          obtain ⟨p4, hp4⟩ : ∃ p4, p4 = acc := ⟨_, rfl⟩
          have HP5 := hid hp4
          have hl4 : p4.length ≤ 4176 := by rw [hp4]; exact hla
          clear hp4
          go_loopw [3, 11] (fun t i wr => ∃ n : Nat, n ≤ o.rels.length ∧ i = .int .i64 n ∧ (∃ acc : List UInt8, t = .string (bs acc) ∧ acc = p4 ++ (o.rels.take n).flatMap Lk.relB) ∧ w.grownBy wr none) (fun _ i _ => o.rels.length - (intOf i).toNat)
          case atStart =>
            exact ⟨0, Nat.zero_le _, rfl, ⟨p4, by rw [HP5.out], by simp⟩, HG.out⟩
          case round =>
            obtain ⟨n, hn4, rfl, hacc, hgr⟩ := hrel
            obtain ⟨acc, hte, hae⟩ := hacc
            subst hte
            have HG := hid hgr
            have HAE := hid hae
            have hla : acc.length ≤ 4400 := by
              have := flat_take_le Lk.relB 7 n o.rels (fun y hy => relB_le y)
              rw [hae, List.length_append]
              omega
            clear hgr hae
            have B := HB.out.grown HG.out (by simp)
            have kk := B.cell 6
            by_cases hlt : n < o.rels.length
            · obtain ⟨sg, hao, hgs, hc⟩ := (I6.out.grown HG.out) (by omega)
              subst hao
              obtain ⟨q0, q1, q2, q3, q4⟩ := hc n hlt
              have S0 := hid (BlkAt.new wr #[.int .i64 o.rels[n].sect, .int .i64 o.rels[n].off, .int .i64 o.rels[n].kind, .int .i64 o.rels[n].sym, .int .i64 o.rels[n].addend] 48)
              have G0 := hid (grown_trans HG.out (World.grownBy_alloc wr (.cells #[.int .i64 o.rels[n].sect, .int .i64 o.rels[n].off, .int .i64 o.rels[n].kind, .int .i64 o.rels[n].sym, .int .i64 o.rels[n].addend] 48) none))
              clear hc B
              have x0 := bs_sz acc 4400 hla
              have x1 := le_sz o.rels[n].sect 1 (by decide)
              have x2 := le_sz o.rels[n].kind 1 (by decide)
              have x3 := le_sz o.rels[n].off 2 (by decide)
              have x4 := le_sz o.rels[n].sym 1 (by decide)
              have x5 := le_sz o.rels[n].addend 2 (by decide)
              go_wp2_with fail
              refine (le_lit o.rels[n].sect 1 1 rfl (wr.alloc (.cells #[.int .i64 o.rels[n].sect, .int .i64 o.rels[n].off, .int .i64 o.rels[n].kind, .int .i64 o.rels[n].sym, .int .i64 o.rels[n].addend] 48)) (by omega)).mono ?_
              rintro e v1 ⟨rfl, r1⟩
              have S1 := hid (S0.out.grown r1 (by simp))
              have G1 := hid (grown_trans G0.out r1)
              clear r1
              have c12 := S1.out.cell 2
              go_wp2_with fail
              refine (le_lit o.rels[n].kind 1 1 rfl v1 (by omega)).mono ?_
              rintro e v2 ⟨rfl, r2⟩
              have S2 := hid (S1.out.grown r2 (by simp))
              have G2 := hid (grown_trans G1.out r2)
              clear r2
              have c21 := S2.out.cell 1
              go_wp2_with fail
              refine (le_lit o.rels[n].off 2 2 rfl v2 (by omega)).mono ?_
              rintro e v3 ⟨rfl, r3⟩
              have S3 := hid (S2.out.grown r3 (by simp))
              have G3 := hid (grown_trans G2.out r3)
              clear r3
              have c33 := S3.out.cell 3
              go_wp2_with fail
              refine (le_lit o.rels[n].sym 1 1 rfl v3 (by omega)).mono ?_
              rintro e v4 ⟨rfl, r4⟩
              have S4 := hid (S3.out.grown r4 (by simp))
              have G4 := hid (grown_trans G3.out r4)
              clear r4
              have c44 := S4.out.cell 4
              go_wp2_with fail
              refine (le_lit o.rels[n].addend 2 2 rfl v4 (by omega)).mono ?_
              rintro e v5 ⟨rfl, r5⟩
              have S5 := hid (S4.out.grown r5 (by simp))
              have G5 := hid (grown_trans G4.out r5)
              clear r5
              go_wp2
              go_roundw
              case rel =>
                refine ⟨n + 1, by omega, by go_num, ⟨acc ++ Lk.relB o.rels[n], ?_, by rw [HAE.out, syms_snoc Lk.relB o.rels n hlt, List.append_assoc]⟩, G5.out⟩
                rw [bs_append, bs_append, bs_append, bs_append, bs_append]
                simp [Lk.relB]
              case measure => simp [intOf]; omega
            · have hae := HAE.out
              rw [List.take_of_length_le (show o.rels.length ≤ n by omega)] at hae
              have HP6 := hid hae
              clear hae HAE
              have kA := (HB.out.grown HG.out (by simp)).cell 0
              go_wp2_with fail
              refine (leAll_any at_ ct o.text wr (I1.out.kept (fun a v hv => gcell hv HG.out)) (by omega)).mono ?_
              rintro e u1 ⟨rfl, r1⟩
              have F1 := hid (grown_trans HG.out r1)
              have kA1 := (HB.out.grown F1.out (by simp)).cell 1
              clear r1
              go_wp2_with fail
              refine (leAll_any af cf o.far u1 (I2.out.kept (fun a v hv => gcell hv F1.out)) (by omega)).mono ?_
              rintro e u2 ⟨rfl, r2⟩
              have F2 := hid (grown_trans F1.out r2)
              have kA2 := (HB.out.grown F2.out (by simp)).cell 2
              clear r2
              go_wp2_with fail
              refine (leAll_any ad cd o.data u2 (I3.out.kept (fun a v hv => gcell hv F2.out)) (by omega)).mono ?_
              rintro e u3 ⟨rfl, r3⟩
              have F3 := hid (grown_trans F2.out r3)
              clear r3
              have x0 := bs_sz acc 4400 (by omega)
              have x1 := bs_sz (Lk.nums o.text 4) 262140 (by rw [nums_length]; omega)
              have x2 := bs_sz (Lk.nums o.far 4) 262140 (by rw [nums_length]; omega)
              have x3 := bs_sz (Lk.nums o.data 4) 262140 (by rw [nums_length]; omega)
              go_wp2
              go_ret
              refine ⟨ret_str ?_, F3.out⟩
              rw [bs_append, bs_append, bs_append]
              congr 1
              rw [HP6.out, HP5.out, HP4.out, HP3.out, HP2.out, HP1.out]
              simp [Lk.objB]

end Go.Proofs.YtogbomihnhfaiaaDoor

namespace Go.Proofs.YtogbomihnhfaiaaDoor
open Go.RowKit

theorem cut_lit (s : ByteArray) (p n : Nat) (mp mn : Int) (hp' : mp = (p : Int)) (hn' : mn = (n : Int)) (w : World) (hs : s.size ≤ 1048576) (hp : p ≤ 16777216) (hn : n ≤ 16777216) :
    Calls Tryd.prog 16 #[.string s, .int .i64 mp, .int .i64 mn] w fun e w' => e = .returned (.string (bs (cutL (sl s) p n))) ∧ w' = w := by
  subst hp' hn'; exact cut_any s p n w hs hp hn
theorem numbers_lit (s : ByteArray) (p n : Nat) (mp mn : Int) (hp' : mp = (p : Int)) (hn' : mn = (n : Int)) (w : World) (hs : s.size ≤ 1048576) (hp : p ≤ 8388608) (hn : n ≤ 65535) :
    Calls Tryd.prog 17 #[.string s, .int .i64 mp, .int .i64 mn] w fun e w' => ∃ v, e = .returned v ∧ w'.ownsRow w.heap.size 3 1 v (min n 1201) ((numsAt (sl s) p (min n 1201)).map (Value.int .i64)) ∧ w.grownBy w' none := by
  subst hp' hn'; exact numbers_any s p n w hs hp hn

/-- the borders -/
def alL (l : List UInt8) : Nat → List Int
  | 0 => []
  | k + 1 => alL l k ++ [atL l (10 + k) 1]

/-- while the document's answer builds an object: the object in g, what its lists own -/
structure PSt (w : World) (g : Nat) (cs : Array Value) (rows : List Row) (W : World) : Prop where
  obj : BlkAt W g cs 42
  rows : ∀ r ∈ rows, r.In W (g + 1)
  gr : w.grownBy W none

section
variable {w W W' w3 : World} {g : Nat} {cs cs' : Array Value} {rows : List Row}
theorem PSt.begin (w : World) (cs : Array Value) : PSt w w.heap.size cs [] (w.alloc (.cells cs 42)) :=
  ⟨BlkAt.new w cs 42, (by simp), World.grownBy_alloc w _ none⟩
theorem PSt.store (h : PSt w g cs rows W) (hw : w.heap.size ≤ g) (o : Nat) (v : Value) : PSt w g (cs.setIfInBounds o v) rows (W.setCell ⟨g, o, none⟩ v) :=
  ⟨h.obj.set o v, fun r hr => ownsRow_setCell_below (h.rows r hr) (Nat.lt_succ_self g) v, grown_above h.gr (grown_set W g o v) hw⟩
theorem PSt.row (h : PSt w g cs rows W) (hw : w.heap.size ≤ g) (hB : BlkAt W' g cs' 42) (hg : W.grownBy W' (some g)) (r : Row) (hrow : r.In W' W.heap.size) : PSt w g cs' (r :: rows) W' := by
  refine ⟨hB, ?_, grown_above h.gr hg hw⟩
  intro q hq
  rcases List.mem_cons.1 hq with rfl | hq
  · exact own_base hrow h.obj.lt
  · exact own_kept (h.rows q hq) (Nat.lt_succ_self g) hg
theorem PSt.put (h : PSt w g cs rows W) (hw : w.heap.size ≤ g) (hg : W.grownBy W' none) (r : Row) (hrow : r.In W' W.heap.size) (o : Nat) : PSt w g (cs.setIfInBounds o r.v) (r :: rows) (W'.setCell ⟨g, o, none⟩ r.v) := by
  have hB := h.obj.grown hg (by simp)
  refine PSt.row h hw (hB.set o r.v) (grown_trans (World.grownBy.mk hg.os hg.tape hg.output hg.size (fun i hi _ => hg.block i hi (by simp))) (grown_set W' g o r.v)) r ?_
  exact ownsRow_setCell_below hrow h.obj.lt r.v
theorem app_pre {wS wr : World} {ob : Obj} {row : Option Nat} (hg : g < wS.heap.size) (hB : BlkAt wr g cs 42) (hk : (wr.alloc ob).grownBy w3 row) (hrow : ∀ b, row = some b → wS.heap.size ≤ b) : BlkAt w3 g cs 42 :=
  (hB.grown (World.grownBy_alloc wr ob none) (by simp)).grown hk (fun e => by have := hrow g e.symm; omega)
theorem app_step {wS wr : World} {o : Nat} {e : TypeId} {size : Nat} {v' : Value} {n : Nat} {xs : List Value} {ob : Obj} {row : Option Nat} (hg : g < wS.heap.size) (hB : BlkAt wr g cs 42) (hG : wS.grownBy wr (some g)) (hk : (wr.alloc ob).grownBy w3 row) (hrow : ∀ b, row = some b → wS.heap.size ≤ b) (hown : w3.ownsRow wS.heap.size e size v' n xs) :
    BlkAt (w3.setCell ⟨g, o, none⟩ v') g (cs.setIfInBounds o v') 42 ∧ (w3.setCell ⟨g, o, none⟩ v').ownsRow wS.heap.size e size v' n xs ∧ wS.grownBy (w3.setCell ⟨g, o, none⟩ v') (some g) := by
  have h1 : wr.grownBy (wr.alloc ob) none := World.grownBy_alloc wr ob none
  have h2 : BlkAt w3 g cs 42 := (hB.grown h1 (by simp)).grown hk (fun e => by have := hrow g e.symm; omega)
  exact ⟨h2.set o v', ownsRow_setCell_below hown hg v', grown_trans (grown_own (grown_own hG h1 (by simp)) hk hrow) (grown_set w3 g o v')⟩
end

theorem news1 (W : World) (cs : Array Value) (t : TypeId) : ∀ j u, cs.toList[j]? = some u → (W.alloc (.cells cs t)).cell? ((⟨W.heap.size, 0, none⟩ : Addr).add j) = some u :=
  World.news_of_block (heap_alloc_new W (.cells cs t))

/-- what Parse gives -/
def ParseRet (s : ByteArray) (e : Ending) (w' : World) : Prop :=
  (IsObj (sl s) ∧ ∃ g, e = .returned (.tuple #[.pointer (some ⟨g, 0, none⟩), .bool true]) ∧ ObjAt w' g (rawObj (sl s))) ∨
  (¬ IsObj (sl s) ∧ ∃ v, e = .returned (.tuple #[v, .bool false]))

theorem raw_tame (l : List UInt8) : Tame (rawObj l) := by
  have r2 := atL_range l 2 2
  have r14 := atL_range l 14 1
  have r15 := atL_range l 15 1
  simp only [Int.reducePow] at r2 r14 r15
  refine ⟨⟨?_, ?_, ?_, ?_, ?_, ?_⟩, ?_, ?_⟩
  · simp only [rawObj, numsAt_length]; omega
  · simp only [rawObj, numsAt_length]; omega
  · simp only [rawObj, numsAt_length]; omega
  · simp [rawObj]
  · simp only [rawObj, symsRaw_length]; omega
  · simp only [rawObj, relsRaw_length]; omega
  · have H : ∀ k, ∀ y ∈ (symsRaw l k).1, y.name.length ≤ 255 := by
      intro k
      induction k with
      | zero => intro y hy; simp [symsRaw] at hy
      | succ k ih =>
        intro y hy
        simp only [symsRaw, List.mem_append, List.mem_singleton] at hy
        rcases hy with hy | rfl
        · exact ih y hy
        · have h := atL_range l (symsRaw l k).2 1
          simp only [Int.reducePow] at h
          simp only [symAt, cutL, List.length_take]
          omega
    exact H _
  · have H : ∀ p k, ∀ r ∈ relsRaw l p k, r.off ≤ 9223372036854775807 := by
      intro p k
      induction k with
      | zero => intro y hy; simp [relsRaw] at hy
      | succ k ih =>
        intro y hy
        simp only [relsRaw, List.mem_append, List.mem_singleton] at hy
        rcases hy with hy | rfl
        · exact ih y hy
        · have h := atL_range l (p + 7 * k + 2) 2
          simp only [Int.reducePow] at h
          simp only [relAtL]
          omega
    exact H _ _

set_option maxRecDepth 100000 in
set_option maxHeartbeats 16000000 in
theorem parse_any (s : ByteArray) (w : World) (hs : s.size ≤ 1048576) :
    Calls Tryd.prog 8 #[.string s] w fun e w' => ParseRet s e w' ∧ w.grownBy w' none := by
  obtain ⟨i0, hi, hz0, hz1, hz2⟩ := info_parts Tryd.infoInt
  obtain ⟨i1, hi1, hy0, hy1, hy2⟩ := info_parts Tryd.infoSym
  obtain ⟨i2, hi2, hx0, hx1, hx2⟩ := info_parts Tryd.infoRel
  by_cases hlen : 65536 < s.size
  · have d : decide (65536 < (s.size : Int)) = true := by simp; omega
    have HL := hid (sl_length s)
    go_enter Tryd.func8, Tryd.ntmps8
    go_wp2
    go_ret2
    exact ⟨.inr ⟨fun h => by have := isObj_short h; rw [HL.out] at this; omega, _, rfl⟩, World.grownBy.refl _ _⟩
  have dlen : decide (65536 < (s.size : Int)) = false := by simp; omega
  have q2 := atL_range (sl s) 2 2
  have q4 := atL_range (sl s) 4 2
  have q6 := atL_range (sl s) 6 2
  have q14 := atL_range (sl s) 14 1
  have q15 := atL_range (sl s) 15 1
  simp only [Int.reducePow] at q2 q4 q6 q14 q15
  have RAW := hid (show rawObj (sl s) = ⟨numsAt (sl s) ((symsRaw (sl s) (atL (sl s) 14 1).toNat).2 + 7 * (atL (sl s) 15 1).toNat) (min (atL (sl s) 2 2).toNat 1201),
    numsAt (sl s) ((symsRaw (sl s) (atL (sl s) 14 1).toNat).2 + 7 * (atL (sl s) 15 1).toNat + 4 * (atL (sl s) 2 2).toNat) (min (atL (sl s) 4 2).toNat 1201),
    numsAt (sl s) ((symsRaw (sl s) (atL (sl s) 14 1).toNat).2 + 7 * (atL (sl s) 15 1).toNat + 4 * (atL (sl s) 2 2).toNat + 4 * (atL (sl s) 4 2).toNat) (min (atL (sl s) 6 2).toNat 1201),
    atL (sl s) 8 2, alL (sl s) 4, (symsRaw (sl s) (atL (sl s) 14 1).toNat).1, relsRaw (sl s) (symsRaw (sl s) (atL (sl s) 14 1).toNat).2 (atL (sl s) 15 1).toNat⟩ from rfl)
  have HPS := hid (symsRaw_pos (sl s))
  have a2 := hid (fun W => at_lit s 2 2 2 2 rfl rfl W hs (by omega) (by omega))
  have a4 := hid (fun W => at_lit s 4 2 4 2 rfl rfl W hs (by omega) (by omega))
  have a6 := hid (fun W => at_lit s 6 2 6 2 rfl rfl W hs (by omega) (by omega))
  have a8 := hid (fun W => at_lit s 8 2 8 2 rfl rfl W hs (by omega) (by omega))
  have a14 := hid (fun W => at_lit s 14 1 14 1 rfl rfl W hs (by omega) (by omega))
  have a15 := hid (fun W => at_lit s 15 1 15 1 rfl rfl W hs (by omega) (by omega))
  generalize atL (sl s) 8 2 = bss at *
  obtain ⟨nt, ht⟩ := Int.eq_ofNat_of_zero_le q2.1
  obtain ⟨nf, hf⟩ := Int.eq_ofNat_of_zero_le q4.1
  obtain ⟨nd, hd⟩ := Int.eq_ofNat_of_zero_le q6.1
  obtain ⟨ns, hns⟩ := Int.eq_ofNat_of_zero_le q14.1
  obtain ⟨nr, hnr⟩ := Int.eq_ofNat_of_zero_le q15.1
  rw [ht] at q2
  rw [hf] at q4
  rw [hd] at q6
  rw [hns] at q14
  rw [hnr] at q15
  rw [ht] at a2
  rw [hf] at a4
  rw [hd] at a6
  rw [hns] at a14
  rw [hnr] at a15
  rw [ht, hf, hd, hns, hnr] at RAW
  simp only [Int.toNat_natCast] at RAW
  clear ht hf hd hns hnr
  go_enter Tryd.func8, Tryd.ntmps8
  go_wp2_with fail
  refine Calls.at_world (PSt w w.heap.size #[.slice none 0 0, .slice none 0 0, .slice none 0 0, .int .i64 0, .slice none 0 0, .slice none 0 0, .slice none 0 0] []) (PSt.begin w _) ?_
  generalize hg : w.heap.size = g at *
  have hw0 : w.heap.size ≤ g := by omega
  clear hg
  intro V0 h0
  refine (a8.out V0).mono ?_
  rintro e V ⟨rfl, rfl⟩
  have k := h0.obj.cell 3
  have f := h0.obj.free 3
  have P0 := hid (h0.store hw0 3 (.int .i64 bss))
  clear h0
  simp only [List.setIfInBounds_toArray, List.set_cons_succ, List.set_cons_zero] at P0
  go_wp2
  have hlt0 := P0.out.obj.lt
  generalize World.setCell V ⟨g, 3, none⟩ (.int .i64 bss) = V1 at *
  clear k f V
  go_loopw [5] (fun i wr => ∃ k : Nat, ∃ v : Value, k ≤ 4 ∧ i = .int .i64 k ∧ BlkAt wr g #[.slice none 0 0, .slice none 0 0, .slice none 0 0, .int .i64 bss, v, .slice none 0 0, .slice none 0 0] 42 ∧ wr.ownsRow V1.heap.size 3 1 v k ((alL (sl s) k).map (Value.int .i64)) ∧ V1.grownBy wr (some g)) (fun i _ => 4 - (intOf i).toNat)
  case atStart => exact ⟨0, _, Nat.zero_le _, rfl, P0.out.obj, World.ownsRow_nil _ _ _ _, World.grownBy.refl _ _⟩
  case round =>
    obtain ⟨k, v, hk4, rfl, hB, hown, hgr⟩ := hrel
    obtain ⟨av, cv, rfl⟩ := own_form hown
    have HB := hid hB
    have HG := hid hgr
    have c4 := hB.cell 4
    have f4 := hB.free 4
    have hsz := hgr.size
    clear hB hgr
    by_cases hlt : k < 4
    · have hlt' : (k : Int) < 4 := by omega
      have aK := hid (fun W => at_lit s (10 + k) 1 (10 + (k : Int)) 1 (by omega) rfl W hs (by omega) (by omega))
      have HAL := hid (show alL (sl s) (k + 1) = alL (sl s) k ++ [atL (sl s) (10 + k) 1] from rfl)
      generalize atL (sl s) (10 + k) 1 = x at *
      go_wp2_with fail
      refine (aK.out _).mono ?_
      rintro e V ⟨rfl, rfl⟩
      go_wp2_with (at_builtin; refine wpList_append_own _ rfl _ _ 38 rfl V1.heap.size 3 i0 (.int .i64 0) 1 8 Tryd.underlying38 hi hz0 hz1 hz2 rfl (by decide) _ _ _ rfl (hown.alloc _) ⟨V.heap.size, 0, none⟩ 1 1 [.int .i64 x] rfl rfl (cell_one_new _ _ _) (by intro u hu; simp at hu; subst hu; rfl) (by unfold maxLen; omega) (by omega) (by simp; omega) ?_; intro v' w3 hown' hgrow _; obtain ⟨av', cv', rfl⟩ := own_form hown'; have KB := app_pre hlt0 HB.out hgrow (fun b hb => (hown.lt b hb).1); have c4' := KB.cell 4; have f4' := KB.free 4; have K := hid (app_step (o := 4) hlt0 HB.out HG.out hgrow (fun b hb => (hown.lt b hb).1) hown'); clear hgrow hown' KB)
      simp only [List.setIfInBounds_toArray, List.set_cons_succ, List.set_cons_zero] at K
      go_wp2
      go_roundw
      case rel => exact ⟨k + 1, _, by omega, by go_num, K.out.1, by rw [HAL.out, List.map_append]; exact K.out.2.1, K.out.2.2⟩
      case measure => simp [intOf]; omega
    · obtain rfl : k = 4 := by omega
      have P1 := hid (P0.out.row hw0 HB.out HG.out ⟨3, 1, .slice av 4 cv, 4, (alL (sl s) 4).map (Value.int .i64)⟩ hown)
      obtain ⟨V2, hV2⟩ : ∃ wo : World, wo = wr := ⟨_, rfl⟩
      subst hV2
      clear hown HB HG c4 f4 hsz P0 hlt0
      have hlt0 := P1.out.obj.lt
      go_wp2_with fail
      refine (a14.out _).mono ?_
      rintro e V ⟨rfl, rfl⟩
      go_wp2_with fail
      refine (a15.out _).mono ?_
      rintro e V3 ⟨rfl, rfl⟩
      go_wp2
      go_loopw [9, 10] (fun p i wr => ∃ k : Nat, ∃ v : Value, k ≤ ns ∧ i = .int .i64 k ∧ p = .int .i64 ((symsRaw (sl s) k).2 : Int) ∧ BlkAt wr g #[.slice none 0 0, .slice none 0 0, .slice none 0 0, .int .i64 bss, .slice av 4 cv, v, .slice none 0 0] 42 ∧ wr.ownsRow V3.heap.size 46 4 v k ((symsRaw (sl s) k).1.flatMap symV) ∧ V3.grownBy wr (some g)) (fun _ i _ => ns - (intOf i).toNat)
      case atStart => exact ⟨0, _, Nat.zero_le _, rfl, rfl, P1.out.obj, World.ownsRow_nil _ _ _ _, World.grownBy.refl _ _⟩
      case round =>
        obtain ⟨k, v, hkn, rfl, rfl, hB, hown, hgr⟩ := hrel
        obtain ⟨avs, cvs, rfl⟩ := own_form hown
        have HB := hid hB
        have HG := hid hgr
        have c5 := hB.cell 5
        have f5 := hB.free 5
        have hsz := hgr.size
        have hpos := HPS.out k
        clear hB hgr
        by_cases hlt : k < ns
        · have hlt' : (k : Int) < (ns : Int) := by omega
          have HE := hid (show (symsRaw (sl s) (k + 1)).1 = (symsRaw (sl s) k).1 ++ [symAt (sl s) (symsRaw (sl s) k).2] from rfl)
          have HP := hid (show (symsRaw (sl s) (k + 1)).2 = (symsRaw (sl s) k).2 + 5 + (atL (sl s) (symsRaw (sl s) k).2 1).toNat from rfl)
          generalize (symsRaw (sl s) k).2 = p at *
          have rn := atL_range (sl s) p 1
          simp only [Int.reducePow] at rn
          have b0 := hid (fun W => at_lit s p 1 (p : Int) 1 rfl rfl W hs (by omega) (by omega))
          have HX := hid (show symAt (sl s) p = ⟨cutL (sl s) (p + 1) (atL (sl s) p 1).toNat, atL (sl s) (p + 1 + (atL (sl s) p 1).toNat) 1, atL (sl s) (p + 2 + (atL (sl s) p 1).toNat) 1, atL (sl s) (p + 3 + (atL (sl s) p 1).toNat) 2⟩ from rfl)
          obtain ⟨n, hn⟩ := Int.eq_ofNat_of_zero_le rn.1
          rw [hn] at rn b0 HX HP
          simp only [Int.toNat_natCast] at HX HP
          clear hn
          have b1 := hid (fun W => at_lit s (p + 1 + n) 1 ((p : Int) + 1 + (n : Int)) 1 (by omega) rfl W hs (by omega) (by omega))
          have b2 := hid (fun W => at_lit s (p + 2 + n) 1 ((p : Int) + 2 + (n : Int)) 1 (by omega) rfl W hs (by omega) (by omega))
          have b3 := hid (fun W => at_lit s (p + 3 + n) 2 ((p : Int) + 3 + (n : Int)) 2 (by omega) rfl W hs (by omega) (by omega))
          have b4 := hid (fun W => cut_lit s (p + 1) n ((p : Int) + 1) (n : Int) (by omega) rfl W hs (by omega) (by omega))
          generalize atL (sl s) (p + 1 + n) 1 = y1 at *
          generalize atL (sl s) (p + 2 + n) 1 = y2 at *
          generalize atL (sl s) (p + 3 + n) 2 = y3 at *
          generalize cutL (sl s) (p + 1) n = y0 at *
          go_wp2_with fail
          refine (b0.out _).mono ?_
          rintro e V ⟨rfl, rfl⟩
          go_wp2_with fail
          refine (b1.out _).mono ?_
          rintro e V ⟨rfl, rfl⟩
          go_wp2_with fail
          refine (b2.out _).mono ?_
          rintro e V ⟨rfl, rfl⟩
          go_wp2_with fail
          refine (b3.out _).mono ?_
          rintro e V ⟨rfl, rfl⟩
          go_wp2_with fail
          refine (b4.out _).mono ?_
          rintro e V ⟨rfl, rfl⟩
          go_wp2_with (at_builtin; refine wpList_append_own _ rfl _ _ 39 rfl V3.heap.size 46 i1 (.agg #[.string ⟨#[]⟩, .int .i64 0, .int .i64 0, .int .i64 0]) 4 40 Tryd.underlying39 hi1 hy0 hy1 hy2 rfl (by decide) _ _ _ rfl (hown.alloc _) ⟨V.heap.size, 0, none⟩ 1 1 (symV ⟨y0, y1, y2, y3⟩) rfl rfl (news1 _ _ _) (by intro u hu; simp [symV] at hu; rcases hu with rfl | rfl | rfl | rfl <;> rfl) (by unfold maxLen; omega) (by omega) (by simp; omega) ?_; intro v' w3 hown' hgrow _; obtain ⟨av', cv', rfl⟩ := own_form hown'; have KB := app_pre hlt0 HB.out hgrow (fun b hb => (hown.lt b hb).1); have c5' := KB.cell 5; have f5' := KB.free 5; have K := hid (app_step (o := 5) hlt0 HB.out HG.out hgrow (fun b hb => (hown.lt b hb).1) hown'); clear hgrow hown' KB)
          simp only [List.setIfInBounds_toArray, List.set_cons_succ, List.set_cons_zero] at K
          go_wp2
          go_roundw
          case rel => exact ⟨k + 1, _, by omega, by go_num, by rw [HP.out]; go_num, K.out.1, by rw [HE.out, HX.out, List.flatMap_append]; simpa using K.out.2.1, K.out.2.2⟩
          case measure => simp [intOf]; omega
        · obtain rfl : k = ns := by omega
          have P2 := hid (P1.out.row hw0 HB.out HG.out ⟨46, 4, .slice avs k cvs, k, (symsRaw (sl s) k).1.flatMap symV⟩ hown)
          obtain ⟨V4, hV4⟩ : ∃ wo : World, wo = wr := ⟨_, rfl⟩
          subst hV4
          clear hown HB HG c5 f5 hsz P1 hlt0
          have hlt0 := P2.out.obj.lt
          generalize (symsRaw (sl s) k).2 = ps at *
          go_wp2
          go_loopw [9, 17] (fun p i wr => ∃ j : Nat, ∃ v : Value, j ≤ nr ∧ i = .int .i64 j ∧ p = .int .i64 ((ps + 7 * j : Nat) : Int) ∧ BlkAt wr g #[.slice none 0 0, .slice none 0 0, .slice none 0 0, .int .i64 bss, .slice av 4 cv, .slice avs k cvs, v] 42 ∧ wr.ownsRow V4.heap.size 48 5 v j ((relsRaw (sl s) ps j).flatMap relV) ∧ V4.grownBy wr (some g)) (fun _ i _ => nr - (intOf i).toNat)
          case atStart => exact ⟨0, _, Nat.zero_le _, rfl, rfl, P2.out.obj, World.ownsRow_nil _ _ _ _, World.grownBy.refl _ _⟩
          case round =>
            obtain ⟨j, v, hjn, rfl, rfl, hB, hown, hgr⟩ := hrel
            obtain ⟨avr, cvr, rfl⟩ := own_form hown
            have HB := hid hB
            have HG := hid hgr
            have c6 := hB.cell 6
            have f6 := hB.free 6
            have hsz := hgr.size
            clear hB hgr
            by_cases hlt : j < nr
            · have hlt' : (j : Int) < (nr : Int) := by omega
              have HE := hid (show relsRaw (sl s) ps (j + 1) = relsRaw (sl s) ps j ++ [relAtL (sl s) (ps + 7 * j)] from rfl)
              have HP := hid (show ps + 7 * (j + 1) = ps + 7 * j + 7 from by omega)
              have hpp : ps + 7 * j ≤ 1048576 := by omega
              generalize ps + 7 * j = p at *
              have HX := hid (show relAtL (sl s) p = ⟨atL (sl s) p 1, atL (sl s) (p + 2) 2, atL (sl s) (p + 1) 1, atL (sl s) (p + 4) 1, Lk.sgn (atL (sl s) (p + 5) 2)⟩ from rfl)
              have rn := atL_range (sl s) (p + 5) 2
              simp only [Int.reducePow] at rn
              have b0 := hid (fun W => at_lit s p 1 (p : Int) 1 rfl rfl W hs (by omega) (by omega))
              have b1 := hid (fun W => at_lit s (p + 1) 1 ((p : Int) + 1) 1 (by omega) rfl W hs (by omega) (by omega))
              have b2 := hid (fun W => at_lit s (p + 2) 2 ((p : Int) + 2) 2 (by omega) rfl W hs (by omega) (by omega))
              have b3 := hid (fun W => at_lit s (p + 4) 1 ((p : Int) + 4) 1 (by omega) rfl W hs (by omega) (by omega))
              have b4 := hid (fun W => at_lit s (p + 5) 2 ((p : Int) + 5) 2 (by omega) rfl W hs (by omega) (by omega))
              generalize atL (sl s) p 1 = y0 at *
              generalize atL (sl s) (p + 1) 1 = y1 at *
              generalize atL (sl s) (p + 2) 2 = y2 at *
              generalize atL (sl s) (p + 4) 1 = y3 at *
              generalize atL (sl s) (p + 5) 2 = y4 at *
              go_wp2_with fail
              refine (b0.out _).mono ?_
              rintro e V ⟨rfl, rfl⟩
              go_wp2_with fail
              refine (b1.out _).mono ?_
              rintro e V ⟨rfl, rfl⟩
              go_wp2_with fail
              refine (b2.out _).mono ?_
              rintro e V ⟨rfl, rfl⟩
              go_wp2_with fail
              refine (b3.out _).mono ?_
              rintro e V ⟨rfl, rfl⟩
              go_wp2_with fail
              refine (b4.out _).mono ?_
              rintro e V ⟨rfl, rfl⟩
              rcases (show (y4 - 65536 = Lk.sgn y4 ∧ decide (32767 < y4) = true) ∨ (y4 = Lk.sgn y4 ∧ decide (32767 < y4) = false) from by unfold Lk.sgn; by_cases c : 32767 < y4 <;> simp <;> omega) with ⟨hsg, hdc⟩ | ⟨hsg, hdc⟩
              · have HSG := hid hsg
                clear hsg
                go_wp2_with (at_builtin; refine wpList_append_own _ rfl _ _ 40 rfl V4.heap.size 48 i2 (.agg #[.int .i64 0, .int .i64 0, .int .i64 0, .int .i64 0, .int .i64 0]) 5 40 Tryd.underlying40 hi2 hx0 hx1 hx2 rfl (by decide) _ _ _ rfl (hown.alloc _) ⟨V.heap.size, 0, none⟩ 1 1 (relV ⟨y0, y2, y1, y3, y4 - 65536⟩) rfl rfl (news1 _ _ _) (by intro u hu; simp [relV] at hu; rcases hu with rfl | rfl | rfl | rfl | rfl <;> rfl) (by unfold maxLen; omega) (by omega) (by simp; omega) ?_; intro v' w3 hown' hgrow _; obtain ⟨av', cv', rfl⟩ := own_form hown'; have KB := app_pre hlt0 HB.out hgrow (fun b hb => (hown.lt b hb).1); have c6' := KB.cell 6; have f6' := KB.free 6; have K := hid (app_step (o := 6) hlt0 HB.out HG.out hgrow (fun b hb => (hown.lt b hb).1) hown'); clear hgrow hown' KB)
                simp only [List.setIfInBounds_toArray, List.set_cons_succ, List.set_cons_zero] at K
                go_wp2
                go_roundw
                case rel => exact ⟨j + 1, _, by omega, by go_num, by rw [HP.out]; go_num, K.out.1, by rw [HE.out, HX.out, ← HSG.out, List.flatMap_append]; simpa using K.out.2.1, K.out.2.2⟩
                case measure => simp [intOf]; omega
              · have HSG := hid hsg
                clear hsg
                go_wp2_with (at_builtin; refine wpList_append_own _ rfl _ _ 40 rfl V4.heap.size 48 i2 (.agg #[.int .i64 0, .int .i64 0, .int .i64 0, .int .i64 0, .int .i64 0]) 5 40 Tryd.underlying40 hi2 hx0 hx1 hx2 rfl (by decide) _ _ _ rfl (hown.alloc _) ⟨V.heap.size, 0, none⟩ 1 1 (relV ⟨y0, y2, y1, y3, y4⟩) rfl rfl (news1 _ _ _) (by intro u hu; simp [relV] at hu; rcases hu with rfl | rfl | rfl | rfl | rfl <;> rfl) (by unfold maxLen; omega) (by omega) (by simp; omega) ?_; intro v' w3 hown' hgrow _; obtain ⟨av', cv', rfl⟩ := own_form hown'; have KB := app_pre hlt0 HB.out hgrow (fun b hb => (hown.lt b hb).1); have c6' := KB.cell 6; have f6' := KB.free 6; have K := hid (app_step (o := 6) hlt0 HB.out HG.out hgrow (fun b hb => (hown.lt b hb).1) hown'); clear hgrow hown' KB)
                simp only [List.setIfInBounds_toArray, List.set_cons_succ, List.set_cons_zero] at K
                go_wp2
                go_roundw
                case rel => exact ⟨j + 1, _, by omega, by go_num, by rw [HP.out]; go_num, K.out.1, by rw [HE.out, HX.out, ← HSG.out, List.flatMap_append]; simpa using K.out.2.1, K.out.2.2⟩
                case measure => simp [intOf]; omega
            · obtain rfl : j = nr := by omega
              have P3 := hid (P2.out.row hw0 HB.out HG.out ⟨48, 5, .slice avr j cvr, j, (relsRaw (sl s) ps j).flatMap relV⟩ hown)
              obtain ⟨V5, hV5⟩ : ∃ wo : World, wo = wr := ⟨_, rfl⟩
              subst hV5
              clear hown HB HG c6 f6 hsz P2 hlt0
              have hpe : ps + 7 * j ≤ 1048576 := by omega
              generalize ps + 7 * j = pe at *
              have n1 := hid (fun W => numbers_lit s pe nt (pe : Int) (nt : Int) rfl rfl W hs (by omega) (by omega))
              have n2 := hid (fun W => numbers_lit s (pe + 4 * nt) nf ((pe : Int) + 4 * (nt : Int)) (nf : Int) (by omega) rfl W hs (by omega) (by omega))
              have n3 := hid (fun W => numbers_lit s (pe + 4 * nt + 4 * nf) nd ((pe : Int) + 4 * (nt : Int) + 4 * (nf : Int)) (nd : Int) (by omega) rfl W hs (by omega) (by omega))
              go_wp2_with fail
              refine (a2.out _).mono ?_
              rintro e V ⟨rfl, rfl⟩
              go_wp2_with fail
              refine (a4.out _).mono ?_
              rintro e V ⟨rfl, rfl⟩
              go_wp2_with fail
              refine (a6.out _).mono ?_
              rintro e V ⟨rfl, rfl⟩
              go_wp2_with fail
              refine (n1.out _).mono ?_
              rintro e V6 ⟨vt, rfl, o, q⟩
              obtain ⟨avt, cvt, rfl⟩ := own_form o
              have P4 := hid (P3.out.put hw0 q ⟨3, 1, .slice avt (min nt 1201) cvt, min nt 1201, (numsAt (sl s) pe (min nt 1201)).map (Value.int .i64)⟩ o 0)
              have KB := P3.out.obj.grown q (by simp)
              have kc := KB.cell 0
              have kf := KB.free 0
              clear KB o q P3
              simp only [List.setIfInBounds_toArray, List.set_cons_zero] at P4
              go_wp2_with fail
              refine Calls.at_world (PSt w g #[.slice avt (min nt 1201) cvt, .slice none 0 0, .slice none 0 0, .int .i64 bss, .slice av 4 cv, .slice avs k cvs, .slice avr j cvr] [⟨3, 1, .slice avt (min nt 1201) cvt, min nt 1201, (numsAt (sl s) pe (min nt 1201)).map (Value.int .i64)⟩, ⟨48, 5, .slice avr j cvr, j, (relsRaw (sl s) ps j).flatMap relV⟩, ⟨46, 4, .slice avs k cvs, k, (symsRaw (sl s) k).1.flatMap symV⟩, ⟨3, 1, .slice av 4 cv, 4, (alL (sl s) 4).map (Value.int .i64)⟩]) P4.out ?_
              clear P4 kc kf V6
              intro V7 h7
              refine (n2.out V7).mono ?_
              rintro e V8 ⟨vf, rfl, o, q⟩
              obtain ⟨avf, cvf, rfl⟩ := own_form o
              have P5 := hid (h7.put hw0 q ⟨3, 1, .slice avf (min nf 1201) cvf, min nf 1201, (numsAt (sl s) (pe + 4 * nt) (min nf 1201)).map (Value.int .i64)⟩ o 1)
              have KB := h7.obj.grown q (by simp)
              have kc := KB.cell 1
              have kf := KB.free 1
              clear KB o q h7
              simp only [List.setIfInBounds_toArray, List.set_cons_succ, List.set_cons_zero] at P5
              go_wp2_with fail
              refine Calls.at_world (PSt w g #[.slice avt (min nt 1201) cvt, .slice avf (min nf 1201) cvf, .slice none 0 0, .int .i64 bss, .slice av 4 cv, .slice avs k cvs, .slice avr j cvr] [⟨3, 1, .slice avf (min nf 1201) cvf, min nf 1201, (numsAt (sl s) (pe + 4 * nt) (min nf 1201)).map (Value.int .i64)⟩, ⟨3, 1, .slice avt (min nt 1201) cvt, min nt 1201, (numsAt (sl s) pe (min nt 1201)).map (Value.int .i64)⟩, ⟨48, 5, .slice avr j cvr, j, (relsRaw (sl s) ps j).flatMap relV⟩, ⟨46, 4, .slice avs k cvs, k, (symsRaw (sl s) k).1.flatMap symV⟩, ⟨3, 1, .slice av 4 cv, 4, (alL (sl s) 4).map (Value.int .i64)⟩]) P5.out ?_
              clear P5 kc kf V8
              intro V9 h9
              refine (n3.out V9).mono ?_
              rintro e V10 ⟨vd, rfl, o, q⟩
              obtain ⟨avd, cvd, rfl⟩ := own_form o
              have P6 := hid (h9.put hw0 q ⟨3, 1, .slice avd (min nd 1201) cvd, min nd 1201, (numsAt (sl s) (pe + 4 * nt + 4 * nf) (min nd 1201)).map (Value.int .i64)⟩ o 2)
              have KB := h9.obj.grown q (by simp)
              have kc := KB.cell 2
              have kf := KB.free 2
              clear KB o q h9
              simp only [List.setIfInBounds_toArray, List.set_cons_succ, List.set_cons_zero] at P6
              go_wp2_with fail
              refine Calls.at_world (PSt w g #[.slice avt (min nt 1201) cvt, .slice avf (min nf 1201) cvf, .slice avd (min nd 1201) cvd, .int .i64 bss, .slice av 4 cv, .slice avs k cvs, .slice avr j cvr] [⟨3, 1, .slice avd (min nd 1201) cvd, min nd 1201, (numsAt (sl s) (pe + 4 * nt + 4 * nf) (min nd 1201)).map (Value.int .i64)⟩, ⟨3, 1, .slice avf (min nf 1201) cvf, min nf 1201, (numsAt (sl s) (pe + 4 * nt) (min nf 1201)).map (Value.int .i64)⟩, ⟨3, 1, .slice avt (min nt 1201) cvt, min nt 1201, (numsAt (sl s) pe (min nt 1201)).map (Value.int .i64)⟩, ⟨48, 5, .slice avr j cvr, j, (relsRaw (sl s) ps j).flatMap relV⟩, ⟨46, 4, .slice avs k cvs, k, (symsRaw (sl s) k).1.flatMap symV⟩, ⟨3, 1, .slice av 4 cv, 4, (alL (sl s) 4).map (Value.int .i64)⟩]) P6.out ?_
              clear P6 kc kf V10
              intro V11 h11
              have HOB := hid (show ObjAt V11 g (rawObj (sl s)) from by
                have e1 := numsAt_length (sl s) pe (min nt 1201)
                have e2 := numsAt_length (sl s) (pe + 4 * nt) (min nf 1201)
                have e3 := numsAt_length (sl s) (pe + 4 * nt + 4 * nf) (min nd 1201)
                have e4 : (alL (sl s) 4).length = 4 := rfl
                have e5 := symsRaw_length (sl s) k
                have e6 := relsRaw_length (sl s) ps j
                rw [RAW.out]
                refine ⟨_, _, _, _, _, _, h11.obj, ?_, ?_, ?_, ?_, ?_, ?_⟩
                · simp only [e1]; exact own_base (h11.rows ⟨3, 1, .slice avt (min nt 1201) cvt, min nt 1201, (numsAt (sl s) pe (min nt 1201)).map (Value.int .i64)⟩ (by simp)) (Nat.zero_le _)
                · simp only [e2]; exact own_base (h11.rows ⟨3, 1, .slice avf (min nf 1201) cvf, min nf 1201, (numsAt (sl s) (pe + 4 * nt) (min nf 1201)).map (Value.int .i64)⟩ (by simp)) (Nat.zero_le _)
                · simp only [e3]; exact own_base (h11.rows ⟨3, 1, .slice avd (min nd 1201) cvd, min nd 1201, (numsAt (sl s) (pe + 4 * nt + 4 * nf) (min nd 1201)).map (Value.int .i64)⟩ (by simp)) (Nat.zero_le _)
                · simp only [e4]; exact own_base (h11.rows ⟨3, 1, .slice av 4 cv, 4, (alL (sl s) 4).map (Value.int .i64)⟩ (by simp)) (Nat.zero_le _)
                · simp only [e5]; exact own_base (h11.rows ⟨46, 4, .slice avs k cvs, k, (symsRaw (sl s) k).1.flatMap symV⟩ (by simp)) (Nat.zero_le _)
                · simp only [e6]; exact own_base (h11.rows ⟨48, 5, .slice avr j cvr, j, (relsRaw (sl s) ps j).flatMap relV⟩ (by simp)) (Nat.zero_le _))
              have GR := hid h11.gr
              clear h11 RAW n1 n2 n3 a2 a4 a6 a8 a14 a15 HPS
              have HTM := hid (raw_tame (sl s))
              have HIO := hid (show IsObj (sl s) ↔ Valid (rawObj (sl s)) ∧ Lk.objB (rawObj (sl s)) = sl s from Iff.rfl)
              have HBS := hid (bs_sl s)
              have cI := hid (isObject_any g (rawObj (sl s)) V11 HOB.out HTM.out)
              refine cI.out.mono ?_
              rintro e V12 ⟨t, q⟩
              have GR2 := hid (grown_trans GR.out q)
              have HO2 := hid (HOB.out.kept q)
              rcases t.split with ⟨rfl, pv⟩ | ⟨rfl, pv⟩ <;> clear t q cI
              · go_wp2
                go_ret2
                exact ⟨.inr ⟨fun h => pv.out h.1, _, rfl⟩, GR2.out⟩
              · have cB := hid (bytes_any g (rawObj (sl s)) V12 HO2.out HTM.out.1 pv.out.2.1.1 ⟨pv.out.1.2.2.1, pv.out.1.2.2.2⟩ HTM.out.2.1)
                go_wp2_with fail
                refine cB.out.mono ?_
                rintro e V13 ⟨rfl, q⟩
                have GR3 := hid (grown_trans GR2.out q)
                have HO3 := hid (HO2.out.kept q)
                clear q cB
                have HTL := hid (toList_bs (Lk.objB (rawObj (sl s))))
                have HTS := hid (show s.toList = sl s from ByteArray.toList_eq s)
                by_cases c : Lk.objB (rawObj (sl s)) = sl s
                · have d : ((bs (Lk.objB (rawObj (sl s)))).toList == s.toList) = true := by rw [HTL.out, HTS.out, beq_iff_eq]; exact c
                  have CC := hid c
                  clear c
                  go_wp2
                  go_ret2
                  exact ⟨.inl ⟨⟨pv.out, CC.out⟩, g, rfl, HO3.out⟩, GR3.out⟩
                · have d : ((bs (Lk.objB (rawObj (sl s)))).toList == s.toList) = false := by rw [HTL.out, HTS.out, beq_eq_false_iff_ne]; exact c
                  have CC := hid c
                  clear c
                  go_wp2
                  go_ret2
                  exact ⟨.inr ⟨fun h => CC.out h.2, _, rfl⟩, GR3.out⟩

end Go.Proofs.YtogbomihnhfaiaaDoor

namespace Go.Proofs.YtogbomihnhfaiaaDoor
open Go.RowKit

def memB (m : List UInt8) : List UInt8 := Lk.le m.length 2 ++ m
def arB (ms : List (List UInt8)) : List UInt8 := [65, 82] ++ (Lk.le ms.length 1 ++ ms.flatMap memB)
def IsArch (l : List UInt8) (ms : List (List UInt8)) : Prop := (1 ≤ ms.length ∧ ms.length ≤ 6) ∧ (∀ m ∈ ms, IsObj m) ∧ arB ms = l

theorem not_isObj_nil : ¬ IsObj [] := fun h => by
  have := congrArg List.length h.2
  simp [Lk.objB] at this

/-- k members and where they end -/
def memsRaw (l : List UInt8) : Nat → List (List UInt8) × Nat
  | 0 => ([], 3)
  | k + 1 => ((memsRaw l k).1 ++ [cutL l ((memsRaw l k).2 + 2) (atL l (memsRaw l k).2 2).toNat], (memsRaw l k).2 + 2 + (atL l (memsRaw l k).2 2).toNat)
def rawMems (l : List UInt8) : List (List UInt8) := (memsRaw l (min (atL l 2 1).toNat 6)).1

theorem memsRaw_length (l : List UInt8) (k : Nat) : (memsRaw l k).1.length = k := by
  induction k with
  | zero => rfl
  | succ k ih => simp [memsRaw, ih]
theorem memsRaw_pos (l : List UInt8) (k : Nat) : (memsRaw l k).2 ≤ 3 + 65537 * k := by
  induction k with
  | zero => simp [memsRaw]
  | succ k ih =>
    have h := atL_range l (memsRaw l k).2 2
    simp only [memsRaw, Int.reducePow] at *
    omega
theorem memsRaw_short (l : List UInt8) (k : Nat) : ∀ m ∈ (memsRaw l k).1, m.length ≤ 65535 := by
  induction k with
  | zero => intro m hm; simp [memsRaw] at hm
  | succ k ih =>
    intro m hm
    simp only [memsRaw, List.mem_append, List.mem_singleton] at hm
    rcases hm with hm | rfl
    · exact ih m hm
    · have h := atL_range l (memsRaw l k).2 2
      simp only [Int.reducePow] at h
      simp only [cutL, List.length_take]
      omega

theorem memsRaw_on {l rest : List UInt8} {ms : List (List UInt8)} (h : l.drop 3 = ms.flatMap memB ++ rest) (hg : ∀ m ∈ ms, m.length ≤ 65535) (k : Nat) (hk : k ≤ ms.length) :
    memsRaw l k = (ms.take k, 3 + ((ms.take k).flatMap memB).length) := by
  induction k with
  | zero => rfl
  | succ k ih =>
    have hk' : k < ms.length := by omega
    have e : l.drop 3 = (ms.take k).flatMap memB ++ (memB ms[k] ++ ((ms.drop (k + 1)).flatMap memB ++ rest)) := by
      have e0 : ms = ms.take k ++ ms[k] :: ms.drop (k + 1) := by rw [← List.drop_eq_getElem_cons hk', List.take_append_drop]
      rw [h]
      refine (congrArg (fun z => List.flatMap memB z ++ rest) e0).trans ?_
      simp only [List.flatMap_append, List.flatMap_cons, List.append_assoc]
    have e2 := drop_on e
    have hm := hg _ (List.getElem_mem hk')
    unfold memB at e2
    rw [List.append_assoc] at e2
    have a0 : atL l (3 + ((ms.take k).flatMap memB).length) 2 = (ms[k].length : Int) := atL_on e2 (by omega) (by simp only [Int.reducePow]; omega)
    have e3 := drop_on e2
    rw [Lk.le_length] at e3
    have a1 := cutL_on e3
    simp only [memsRaw, ih (by omega)]
    rw [a0, Int.toNat_natCast]
    refine Prod.ext ?_ ?_
    · simp only
      rw [List.take_succ_eq_append_getElem hk']
      congr 2
    · simp only
      rw [List.take_succ_eq_append_getElem hk', List.flatMap_append, List.length_append]
      simp only [List.flatMap_cons, List.flatMap_nil, List.append_nil, memB, List.length_append, Lk.le_length]
      omega

theorem arch_raw {l : List UInt8} {ms : List (List UInt8)} (h : IsArch l ms) : rawMems l = ms := by
  obtain ⟨⟨h1, h2⟩, h3, h4⟩ := h
  have d0 : l.drop 0 = [65, 82] ++ (Lk.le ms.length 1 ++ ms.flatMap memB) := by rw [← h4]; rfl
  have d2 := drop_on d0
  have d3 := drop_on d2
  rw [Lk.le_length] at d3
  simp only [List.length_cons, List.length_nil, Nat.zero_add, Nat.reduceAdd] at d2 d3
  have a : atL l 2 1 = (ms.length : Int) := atL_on d2 (by omega) (by simp only [Int.reducePow]; omega)
  unfold rawMems
  rw [a, Int.toNat_natCast, Nat.min_eq_left h2, memsRaw_on (rest := []) (by rw [List.append_nil]; exact d3) (fun m hm => isObj_short (h3 m hm)) ms.length (Nat.le_refl _), List.take_length]

end Go.Proofs.YtogbomihnhfaiaaDoor

namespace Go.Proofs.YtogbomihnhfaiaaDoor
open Go.RowKit

theorem Tryd.infoStr : (Tryd.prog.info? 9).map (fun i => (i.zero, i.size, i.bytes)) = some (some (.string ⟨#[]⟩), 1, 16) := by kernel_rfl

theorem mem_step {l : List UInt8} {p : Nat} (hp : p ≤ l.length) (h : IsObj (Lk.rdText l (Lk.rdNum l 2 (p, false)).1.toNat (Lk.rdNum l 2 (p, false)).2).1) :
    ∃ m, Lk.rdText l (Lk.rdNum l 2 (p, false)).1.toNat (Lk.rdNum l 2 (p, false)).2 = (m, (p + 2 + m.length, false)) ∧ l.drop p = memB m ++ l.drop (p + 2 + m.length) ∧ p + 2 + m.length ≤ l.length := by
  by_cases h1 : 2 ≤ l.length - p
  · have e1 : Lk.rdNum l 2 (p, false) = (Lk.num ((l.drop p).take 2), (p + 2, false)) := by simp [Lk.rdNum, Lk.rdText, h1]
    rw [e1] at h ⊢
    simp only at h ⊢
    have hn := Lk.num_nonneg ((l.drop p).take 2)
    have hlen : ((l.drop p).take 2).length = 2 := by simp; omega
    have hle := Lk.le_num ((l.drop p).take 2)
    rw [hlen] at hle
    obtain ⟨n, hn'⟩ := Int.eq_ofNat_of_zero_le hn
    rw [hn'] at h hle ⊢
    simp only [Int.toNat_natCast] at h ⊢
    by_cases h2 : n ≤ l.length - (p + 2)
    · have hml : ((l.drop (p + 2)).take n).length = n := by simp; omega
      have e2 : Lk.rdText l n (p + 2, false) = ((l.drop (p + 2)).take n, (p + 2 + n, false)) := by simp [Lk.rdText, h2]
      refine ⟨(l.drop (p + 2)).take n, by rw [e2, hml], ?_, by rw [hml]; omega⟩
      rw [hml]
      unfold memB
      rw [hml, hle, List.append_assoc, ← List.drop_drop (i := n), List.take_append_drop, ← List.drop_drop (i := 2), List.take_append_drop]
    · have e2 : (Lk.rdText l n (p + 2, false)).1 = [] := by simp [Lk.rdText, h2]
      rw [e2] at h
      exact absurd h not_isObj_nil
  · have e1 : Lk.rdNum l 2 (p, false) = (0, (p, true)) := by simp [Lk.rdNum, Lk.rdText, h1, Lk.num]
    rw [e1] at h
    have e2 : (Lk.rdText l (0 : Int).toNat (p, true)).1 = [] := by simp [Lk.rdText]
    rw [e2] at h
    exact absurd h not_isObj_nil

theorem mem_on {l m rest : List UInt8} {p : Nat} (hp : p ≤ l.length) (h : l.drop p = memB m ++ rest) (hm : m.length ≤ 65535) : (Lk.rdText l (Lk.rdNum l 2 (p, false)).1.toNat (Lk.rdNum l 2 (p, false)).2).1 = m := by
  unfold memB at h
  rw [List.append_assoc] at h
  obtain ⟨a1, b1, c1, p1, d1⟩ := (Lk.reads_num l 2).on (st := (p, false)) hp rfl (x := (m.length : Int)) ⟨by omega, by simp only [Int.reducePow]; omega⟩ h
  rw [a1, Int.toNat_natCast]
  exact ((Lk.reads_text l m.length).on p1 b1 (x := m) rfl d1).1

set_option maxHeartbeats 1000000 in
theorem validCount_any (n : Int) (w : World) :
    Calls Tryd.prog 42 #[.int .i64 n] w fun e w' => Tells e (1 ≤ n ∧ n ≤ 6) ∧ w' = w := by
  go_enter Tryd.func42, Tryd.ntmps42
  by_cases h1 : 1 ≤ n
  · by_cases h2 : n ≤ 6
    · have d1 : decide (1 ≤ n) = true := by simpa using h1
      have d2 : decide (n ≤ 6) = true := by simpa using h2
      go_wp2
      go_ret
      exact ⟨Tells.yes ⟨h1, h2⟩, rfl⟩
    · have d1 : decide (1 ≤ n) = true := by simpa using h1
      have d2 : decide (n ≤ 6) = false := by simp; omega
      go_wp2
      go_ret
      exact ⟨Tells.no (fun h => by omega), rfl⟩
  · have d1 : decide (1 ≤ n) = false := by simp; omega
    go_wp2
    go_ret
    exact ⟨Tells.no (fun h => by omega), rfl⟩

set_option maxHeartbeats 1000000 in
theorem archObject_any (s : ByteArray) (w : World) (ht : Tabs w) (hs : s.size ≤ 1048576) :
    Calls Tryd.prog 43 #[.string s] w fun e w' => Tells e (IsObj (sl s)) ∧ w.grownBy w' none := by
  have cR := hid (read_any s w ht hs)
  go_enter Tryd.func43, Tryd.ntmps43
  go_wp2_with fail
  refine cR.out.mono ?_
  rintro e w1 ⟨⟨o, g, hr, hv, rfl, -, -⟩ | ⟨hno, rfl⟩, hq⟩
  · have H := hid (isObj_of_read hr hv).1
    have HQ := hid hq
    go_wp2
    go_ret
    exact ⟨Tells.yes H.out, HQ.out⟩
  · have H := hid (not_isObj_of_read hno)
    have HQ := hid hq
    go_wp2
    go_ret
    exact ⟨Tells.no H.out, HQ.out⟩

end Go.Proofs.YtogbomihnhfaiaaDoor
