/- Walks over the document's answer: an object's bytes. -/
import Derived.Test.YtafjgogdeinpcaaDoorGG
import Derived.Test.YtafjgogdeinpcaaDoorGF
namespace Go.Proofs.YtafjgogdeinpcaaDoor
open Go.RowKit

theorem lk_append (b : List UInt8) : (⟨#[76, 75]⟩ : ByteArray) ++ bs b = bs ([76, 75] ++ b) := bs_append [76, 75] b

theorem symB_le' (y : Lk.Sym) (h : y.name.length ≤ 255) : (Lk.symB y).length ≤ 260 := by
  simp only [Lk.symB, List.length_append, Lk.le_length]
  omega
theorem le_sz (v : Int) (n : Nat) (hn : n ≤ 4) : (bs (Lk.le v n)).size ≤ 4 := by rw [bs_size, Lk.le_length]; exact hn
theorem bs_sz (l : List UInt8) (k : Nat) (h : l.length ≤ k) : (bs l).size ≤ k := by rw [bs_size]; exact h

set_option maxRecDepth 100000 in
set_option maxHeartbeats 8000000 in
theorem bytes_any (g : Nat) (o : Lk.Obj) (w : World) (h : ObjAt w g o) (hn : Small o) (ha : o.align.length = 4) (hz : o.syms.length ≤ 16 ∧ o.rels.length ≤ 32) (hl : ∀ y ∈ o.syms, y.name.length ≤ 255) :
    Calls Tryd.prog 19 #[.pointer (some ⟨g, 0, none⟩)] w fun e w' => e = .returned (.string (bs (Lk.objB o))) ∧ w.grownBy w' none := by
  obtain ⟨at_, ct, af, cf, ad, cd, aa, ca, as_, cs, ar, cr, hb, h1, h2, h3, h4, h5, h6⟩ := h.open
  have HB := hid hb
  have I1 := hid (IntsIn.of_own h1)
  have I2 := hid (IntsIn.of_own h2)
  have I3 := hid (IntsIn.of_own h3)
  have I4 := hid (IntsIn.of_own h4)
  have I5 := hid (SymsIn.of_own h5)
  have I6 := hid (RelsIn.of_own h6)
  have k0 := hb.cell 0
  obtain ⟨m1, m2, m3, m4, m5, m6⟩ := hn
  have HA := hid ha
  have HL := hid hl
  have ha4 : 4 ≤ o.align.length := by omega
  have ha5 : o.align.length ≤ 4 := by omega
  clear h hb h1 h2 h3 h4 h5 h6 hl ha
  have z1 := le_sz o.text.length 2 (by decide)
  have z2 := le_sz o.far.length 2 (by decide)
  have z3 := le_sz o.data.length 2 (by decide)
  have z4 := le_sz o.bss 2 (by decide)
  go_enter Tryd.func19, Tryd.ntmps19
  go_wp2_with fail
  refine (le_lit (o.text.length : Int) 2 2 rfl w (by omega)).mono ?_
  rintro e w1 ⟨rfl, q1⟩
  have k1 := (HB.out.grown q1 (by simp)).cell 1
  have Q1 := hid q1
  clear q1 k0
  go_wp2_with fail
  refine (le_lit (o.far.length : Int) 2 2 rfl w1 (by omega)).mono ?_
  rintro e w2 ⟨rfl, q2⟩
  have Q2 := hid (grown_trans Q1.out q2)
  have k2 := (HB.out.grown Q2.out (by simp)).cell 2
  clear q2 k1 Q1
  go_wp2_with fail
  refine (le_lit (o.data.length : Int) 2 2 rfl w2 (by omega)).mono ?_
  rintro e w3 ⟨rfl, q3⟩
  have Q3 := hid (grown_trans Q2.out q3)
  have k3 := (HB.out.grown Q3.out (by simp)).cell 3
  clear q3 k2 Q2
  go_wp2_with fail
  refine (le_lit o.bss 2 2 rfl w3 (by omega)).mono ?_
  rintro e w4 ⟨rfl, q4⟩
  have Q4 := hid (grown_trans Q3.out q4)
  clear q4 k3 Q3
  go_wp2
  obtain ⟨p1, hp1⟩ : ∃ p1, p1 = [76, 75] ++ (Lk.le o.text.length 2 ++ (Lk.le o.far.length 2 ++ (Lk.le o.data.length 2 ++ Lk.le o.bss 2))) := ⟨_, rfl⟩
  have HP1 := hid hp1
  have hl1 : p1.length ≤ 10 := by rw [hp1]; simp [Lk.le_length]
  clear hp1
  go_loopw [3, 8] (fun t i wr => ∃ n : Nat, n ≤ 4 ∧ i = .int .i64 n ∧ (∃ acc : List UInt8, t = .string (bs acc) ∧ acc = p1 ++ Lk.nums (o.align.take n) 1) ∧ w.grownBy wr none) (fun _ i _ => 4 - (intOf i).toNat)
  case atStart =>
    refine ⟨0, Nat.zero_le _, rfl, ⟨p1, ?_, by simp [Lk.nums]⟩, Q4.out⟩
    rw [HP1.out, lk_append, bs_append, bs_append, bs_append]
    simp
  case round =>
    obtain ⟨n, hn4, rfl, hacc, hgr⟩ := hrel
    obtain ⟨acc, hte, hae⟩ := hacc
    subst hte
    have HG := hid hgr
    have HAE := hid hae
    clear hgr hae
    have B := HB.out.grown HG.out (by simp)
    by_cases hlt : n < 4
    · obtain ⟨ga, off, hao, hc⟩ := (I4.out.kept (fun a v hv => gcell hv HG.out)) (by omega)
      subst hao
      have hck := hc n (by omega)
      have k4 := B.cell 4
      have hlt2 : n < o.align.length := by omega
      have g1 : (n : Int) < 4 := by omega
      have g2 : (n : Int) < (o.align.length : Int) := by omega
      have cL := hid (fun W => le_lit (o.align[n]'hlt2) 1 1 rfl W (by omega))
      clear hc B
      go_wp2_with fail
      refine (cL.out _).mono ?_
      rintro e w5 ⟨rfl, q5⟩
      have Q5 := hid (grown_trans HG.out q5)
      clear q5
      have y1 := bs_sz acc 14 (by rw [HAE.out, List.length_append, nums_length, List.length_take]; omega)
      have y2 := le_sz (o.align[n]'hlt2) 1 (by decide)
      go_wp2
      go_roundw
      case rel => exact ⟨n + 1, by omega, by go_num, ⟨acc ++ Lk.le (o.align[n]'hlt2) 1, by rw [← bs_append], by rw [HAE.out, nums_snoc o.align n 1 hlt2, List.append_assoc]⟩, Q5.out⟩
      case measure => simp [intOf]; omega
    · have hae := HAE.out
      rw [List.take_of_length_le (show o.align.length ≤ n by omega)] at hae
      have HP2 := hid hae
      have hl2 : acc.length ≤ 14 := by rw [hae, List.length_append, nums_length]; omega
      have k5 := B.cell 5
      have g1 : (4 : Int) ≤ (n : Int) := by omega
      clear hae HAE B
      go_wp2_with fail
      refine (le_lit (o.syms.length : Int) 1 1 rfl wr (by omega)).mono ?_
      rintro e w6 ⟨rfl, q6⟩
      have Q6 := hid (grown_trans HG.out q6)
      have k6 := (HB.out.grown Q6.out (by simp)).cell 6
      clear q6 k5
      go_wp2_with fail
      refine (le_lit (o.rels.length : Int) 1 1 rfl w6 (by omega)).mono ?_
      rintro e w7 ⟨rfl, q7⟩
      have Q7 := hid (grown_trans Q6.out q7)
      clear q7 k6
      have y1 := bs_sz acc 14 hl2
      have y2 := le_sz o.syms.length 1 (by decide)
      have y3 := le_sz o.rels.length 1 (by decide)
      go_wp2
      obtain ⟨p3, hp3⟩ : ∃ p3, p3 = acc ++ (Lk.le o.syms.length 1 ++ Lk.le o.rels.length 1) := ⟨_, rfl⟩
      have HP3 := hid hp3
      have hl3 : p3.length ≤ 16 := by rw [hp3, List.length_append, List.length_append, Lk.le_length, Lk.le_length]; omega
      clear hp3
      go_loopw [3, 9] (fun t i wr => ∃ n : Nat, n ≤ o.syms.length ∧ i = .int .i64 n ∧ (∃ acc : List UInt8, t = .string (bs acc) ∧ acc = p3 ++ (o.syms.take n).flatMap Lk.symB) ∧ w.grownBy wr none) (fun _ i _ => o.syms.length - (intOf i).toNat)
      case atStart =>
        refine ⟨0, Nat.zero_le _, rfl, ⟨p3, ?_, by simp⟩, Q7.out⟩
        rw [HP3.out, bs_append, bs_append]
        simp
      case round =>
        obtain ⟨n, hn4, rfl, hacc, hgr⟩ := hrel
        obtain ⟨acc, hte, hae⟩ := hacc
        subst hte
        have HG := hid hgr
        have HAE := hid hae
        have hla : acc.length ≤ 4176 := by
          have := flat_take_le Lk.symB 260 n o.syms (fun y hy => symB_le' y (HL.out y hy))
          rw [hae, List.length_append]
          omega
        clear hgr hae
        have B := HB.out.grown HG.out (by simp)
        have kk := B.cell 5
        by_cases hlt : n < o.syms.length
        · obtain ⟨sg, hao, hgs, hc⟩ := (I5.out.grown HG.out) (by omega)
          subst hao
          obtain ⟨q0, q1, q2, q3⟩ := hc n hlt
          have S0 := hid (BlkAt.new wr #[.string (bs o.syms[n].name), .int .i64 o.syms[n].bind, .int .i64 o.syms[n].sect, .int .i64 o.syms[n].off] 46)
          have G0 := hid (grown_trans HG.out (World.grownBy_alloc wr (.cells #[.string (bs o.syms[n].name), .int .i64 o.syms[n].bind, .int .i64 o.syms[n].sect, .int .i64 o.syms[n].off] 46) none))
          clear hc B
          go_wp2_with fail
          refine (le_lit ((bs o.syms[n].name).size : Int) 1 1 rfl (wr.alloc (.cells #[.string (bs o.syms[n].name), .int .i64 o.syms[n].bind, .int .i64 o.syms[n].sect, .int .i64 o.syms[n].off] 46)) (by omega)).mono ?_
          rintro e v1 ⟨rfl, r1⟩
          have S1 := hid (S0.out.grown r1 (by simp))
          have G1 := hid (grown_trans G0.out r1)
          clear r1
          have c11 := S1.out.cell 1
          go_wp2_with fail
          refine (le_lit o.syms[n].bind 1 1 rfl v1 (by omega)).mono ?_
          rintro e v2 ⟨rfl, r2⟩
          have S2 := hid (S1.out.grown r2 (by simp))
          have G2 := hid (grown_trans G1.out r2)
          clear r2
          have c22 := S2.out.cell 2
          go_wp2_with fail
          refine (le_lit o.syms[n].sect 1 1 rfl v2 (by omega)).mono ?_
          rintro e v3 ⟨rfl, r3⟩
          have S3 := hid (S2.out.grown r3 (by simp))
          have G3 := hid (grown_trans G2.out r3)
          clear r3
          have c33 := S3.out.cell 3
          go_wp2_with fail
          refine (le_lit o.syms[n].off 2 2 rfl v3 (by omega)).mono ?_
          rintro e v4 ⟨rfl, r4⟩
          have S4 := hid (S3.out.grown r4 (by simp))
          have G4 := hid (grown_trans G3.out r4)
          clear r4
          have c40 := S4.out.cell 0
          have x0 := bs_sz acc 4176 hla
          have x1 := le_sz ((bs o.syms[n].name).size : Int) 1 (by decide)
          have x2 := le_sz o.syms[n].bind 1 (by decide)
          have x3 := le_sz o.syms[n].sect 1 (by decide)
          have x4 := le_sz o.syms[n].off 2 (by decide)
          have xn := bs_sz o.syms[n].name 255 (HL.out _ (List.getElem_mem hlt))
          have HSZ := hid (bs_size o.syms[n].name)
          go_wp2
          go_roundw
          case rel =>
            refine ⟨n + 1, by omega, by go_num, ⟨acc ++ Lk.symB o.syms[n], ?_, by rw [HAE.out, syms_snoc Lk.symB o.syms n hlt, List.append_assoc]⟩, G4.out⟩
            rw [bs_append, bs_append, bs_append, bs_append, bs_append, HSZ.out]
            simp [Lk.symB]
          case measure => simp [intOf]; omega
        · have hae := HAE.out
          rw [List.take_of_length_le (show o.syms.length ≤ n by omega)] at hae
          have HP4 := hid hae
          clear hae HAE
          have B2 := HB.out.grown HG.out (by simp)
          go_wp2
          obtain ⟨p4, hp4⟩ : ∃ p4, p4 = acc := ⟨_, rfl⟩
          have HP5 := hid hp4
          have hl4 : p4.length ≤ 4176 := by rw [hp4]; exact hla
          clear hp4
          go_loopw [3, 11] (fun t i wr => ∃ n : Nat, n ≤ o.rels.length ∧ i = .int .i64 n ∧ (∃ acc : List UInt8, t = .string (bs acc) ∧ acc = p4 ++ (o.rels.take n).flatMap Lk.relB) ∧ w.grownBy wr none) (fun _ i _ => o.rels.length - (intOf i).toNat)
          case atStart =>
            exact ⟨0, Nat.zero_le _, rfl, ⟨p4, by rw [HP5.out], by simp⟩, HG.out⟩
          case round =>
            obtain ⟨n, hn4, rfl, hacc, hgr⟩ := hrel
            obtain ⟨acc, hte, hae⟩ := hacc
            subst hte
            have HG := hid hgr
            have HAE := hid hae
            have hla : acc.length ≤ 4400 := by
              have := flat_take_le Lk.relB 7 n o.rels (fun y hy => relB_le y)
              rw [hae, List.length_append]
              omega
            clear hgr hae
            have B := HB.out.grown HG.out (by simp)
            have kk := B.cell 6
            by_cases hlt : n < o.rels.length
            · obtain ⟨sg, hao, hgs, hc⟩ := (I6.out.grown HG.out) (by omega)
              subst hao
              obtain ⟨q0, q1, q2, q3, q4⟩ := hc n hlt
              have S0 := hid (BlkAt.new wr #[.int .i64 o.rels[n].sect, .int .i64 o.rels[n].off, .int .i64 o.rels[n].kind, .int .i64 o.rels[n].sym, .int .i64 o.rels[n].addend] 48)
              have G0 := hid (grown_trans HG.out (World.grownBy_alloc wr (.cells #[.int .i64 o.rels[n].sect, .int .i64 o.rels[n].off, .int .i64 o.rels[n].kind, .int .i64 o.rels[n].sym, .int .i64 o.rels[n].addend] 48) none))
              clear hc B
              have x0 := bs_sz acc 4400 hla
              have x1 := le_sz o.rels[n].sect 1 (by decide)
              have x2 := le_sz o.rels[n].kind 1 (by decide)
              have x3 := le_sz o.rels[n].off 2 (by decide)
              have x4 := le_sz o.rels[n].sym 1 (by decide)
              have x5 := le_sz o.rels[n].addend 2 (by decide)
              go_wp2_with fail
              refine (le_lit o.rels[n].sect 1 1 rfl (wr.alloc (.cells #[.int .i64 o.rels[n].sect, .int .i64 o.rels[n].off, .int .i64 o.rels[n].kind, .int .i64 o.rels[n].sym, .int .i64 o.rels[n].addend] 48)) (by omega)).mono ?_
              rintro e v1 ⟨rfl, r1⟩
              have S1 := hid (S0.out.grown r1 (by simp))
              have G1 := hid (grown_trans G0.out r1)
              clear r1
              have c12 := S1.out.cell 2
              go_wp2_with fail
              refine (le_lit o.rels[n].kind 1 1 rfl v1 (by omega)).mono ?_
              rintro e v2 ⟨rfl, r2⟩
              have S2 := hid (S1.out.grown r2 (by simp))
              have G2 := hid (grown_trans G1.out r2)
              clear r2
              have c21 := S2.out.cell 1
              go_wp2_with fail
              refine (le_lit o.rels[n].off 2 2 rfl v2 (by omega)).mono ?_
              rintro e v3 ⟨rfl, r3⟩
              have S3 := hid (S2.out.grown r3 (by simp))
              have G3 := hid (grown_trans G2.out r3)
              clear r3
              have c33 := S3.out.cell 3
              go_wp2_with fail
              refine (le_lit o.rels[n].sym 1 1 rfl v3 (by omega)).mono ?_
              rintro e v4 ⟨rfl, r4⟩
              have S4 := hid (S3.out.grown r4 (by simp))
              have G4 := hid (grown_trans G3.out r4)
              clear r4
              have c44 := S4.out.cell 4
              go_wp2_with fail
              refine (le_lit o.rels[n].addend 2 2 rfl v4 (by omega)).mono ?_
              rintro e v5 ⟨rfl, r5⟩
              have S5 := hid (S4.out.grown r5 (by simp))
              have G5 := hid (grown_trans G4.out r5)
              clear r5
              go_wp2
              go_roundw
              case rel =>
                refine ⟨n + 1, by omega, by go_num, ⟨acc ++ Lk.relB o.rels[n], ?_, by rw [HAE.out, syms_snoc Lk.relB o.rels n hlt, List.append_assoc]⟩, G5.out⟩
                rw [bs_append, bs_append, bs_append, bs_append, bs_append]
                simp [Lk.relB]
              case measure => simp [intOf]; omega
            · have hae := HAE.out
              rw [List.take_of_length_le (show o.rels.length ≤ n by omega)] at hae
              have HP6 := hid hae
              clear hae HAE
              have kA := (HB.out.grown HG.out (by simp)).cell 0
              go_wp2_with fail
              refine (leAll_any at_ ct o.text wr (I1.out.kept (fun a v hv => gcell hv HG.out)) (by omega)).mono ?_
              rintro e u1 ⟨rfl, r1⟩
              have F1 := hid (grown_trans HG.out r1)
              have kA1 := (HB.out.grown F1.out (by simp)).cell 1
              clear r1
              go_wp2_with fail
              refine (leAll_any af cf o.far u1 (I2.out.kept (fun a v hv => gcell hv F1.out)) (by omega)).mono ?_
              rintro e u2 ⟨rfl, r2⟩
              have F2 := hid (grown_trans F1.out r2)
              have kA2 := (HB.out.grown F2.out (by simp)).cell 2
              clear r2
              go_wp2_with fail
              refine (leAll_any ad cd o.data u2 (I3.out.kept (fun a v hv => gcell hv F2.out)) (by omega)).mono ?_
              rintro e u3 ⟨rfl, r3⟩
              have F3 := hid (grown_trans F2.out r3)
              clear r3
              have x0 := bs_sz acc 4400 (by omega)
              have x1 := bs_sz (Lk.nums o.text 4) 262140 (by rw [nums_length]; omega)
              have x2 := bs_sz (Lk.nums o.far 4) 262140 (by rw [nums_length]; omega)
              have x3 := bs_sz (Lk.nums o.data 4) 262140 (by rw [nums_length]; omega)
              go_wp2
              go_ret
              refine ⟨ret_str ?_, F3.out⟩
              rw [bs_append, bs_append, bs_append]
              congr 1
              rw [HP6.out, HP5.out, HP4.out, HP3.out, HP2.out, HP1.out]
              simp [Lk.objB]

end Go.Proofs.YtafjgogdeinpcaaDoor
