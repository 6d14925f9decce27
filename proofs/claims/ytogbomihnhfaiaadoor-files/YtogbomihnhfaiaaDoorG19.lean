/- Walks over package archive: Members, the walk. -/
/- Walks over the document's answer: Archive, Unpack. -/
/- Walks over the law: lists that are the same. -/
/- Walks over the law: objects that are the same; what Read and Parse say of the same bytes. -/
/- Walks over the law: Read and Parse, Members and Unpack of the same bytes; Files. -/
/- The row and the card of Files. -/
import Derived.Test.YtogbomihnhfaiaaDoorG18
import Derived.Test.YtogbomihnhfaiaaDoorG17
import Derived.Test.YtogbomihnhfaiaaDoorCards
import Derived.Test.YtogbomihnhfaiaaDoorTie
import Derived.ProofKit
import Derived.OpenShut
import Derived.ChangeMaps5
import Derived.Deep.DeepHandedRow
import Derived.Lib.LaidTab
namespace Go.Proofs.YtogbomihnhfaiaaDoor
open Go.RowKit

/-- the strings of a list of files -/
def strV (ms : List (List UInt8)) : List Value := ms.map (fun m => Value.string (bs m))

/-- what Members gives -/
def MembersRet (l : List UInt8) (base : Nat) (e : Ending) (w' : World) : Prop :=
  (∃ ms v, IsArch l ms ∧ e = .returned (.tuple #[v, .int .i64 0]) ∧ w'.ownsRow base 9 1 v ms.length (strV ms)) ∨
  ((∀ ms, ¬ IsArch l ms) ∧ e = .returned (.tuple #[.slice none 0 0, .int .i64 21]))

set_option maxHeartbeats 8000000 in
theorem members_any (s : ByteArray) (w : World) (ht : Tabs w) (hs : s.size ≤ 1048576) :
    Calls Tryd.prog 23 #[.string s] w fun e w' => MembersRet (sl s) w.heap.size e w' ∧ w.grownBy w' none := by
  obtain ⟨i0, hi, hz0, hz1, hz2⟩ := info_parts Tryd.infoStr
  have HT := hid ht
  clear ht
  have hlen := sl_length s
  have l0 := rdText_le (sl s) 2 (0, false) (by rw [hlen]; omega)
  have c0 := fun W b h => text_lit b s 0 2 2 rfl false W h hs (Nat.zero_le _) (by omega)
  have HX0 := hid (Lk.reads_text (sl s) 2)
  have T0 := hid (show (Lk.rdText (sl s) 2 (0, false)).1 = [65, 82] → Lk.rdText (sl s) 2 (0, false) = ([65, 82], (2, false)) ∧ (sl s).drop 0 = [65, 82] ++ (sl s).drop 2 ∧ 2 ≤ (sl s).length from fun h => by
    unfold Lk.rdText at h ⊢
    simp only at h ⊢
    by_cases c : 2 ≤ (sl s).length - 0
    · rw [if_pos c] at h ⊢
      simp only at h ⊢
      refine ⟨by rw [h], ?_, by omega⟩
      rw [← h, List.drop_zero, List.take_append_drop]
    · rw [if_neg c] at h
      simp at h)
  have N0 := hid (show ∀ ms, IsArch (sl s) ms → (Lk.rdText (sl s) 2 (0, false)).1 = [65, 82] from fun ms h => (HX0.out.on (st := (0, false)) (Nat.zero_le _) rfl (x := [65, 82]) (rest := Lk.le ms.length 1 ++ ms.flatMap memB) rfl (by rw [← h.2.2]; rfl)).1)
  clear HX0
  rw [hlen] at l0
  generalize Lk.rdText (sl s) 2 (0, false) = x0 at *
  obtain ⟨mk, p0, s0⟩ := x0
  simp only at c0 T0 N0 l0
  have c1 := fun W b h => number_lit b s p0 1 1 rfl s0 W h hs l0 (by omega)
  have l1 := rdNum_le (sl s) 1 (p0, s0) (by rw [hlen]; exact l0)
  rw [hlen] at l1
  have b1 := rdNum_byte (sl s) 1 (p0, s0)
  simp only [Int.reducePow] at b1
  have T1 := hid (show mk = [65, 82] → 1 ≤ (Lk.rdNum (sl s) 1 (p0, s0)).1 → (Lk.rdNum (sl s) 1 (p0, s0)).2 = (3, false) ∧ (sl s).drop 0 = [65, 82] ++ (Lk.le (Lk.rdNum (sl s) 1 (p0, s0)).1 1 ++ (sl s).drop 3) ∧ 3 ≤ (sl s).length from fun hm h => by
    obtain ⟨e, d, hl2⟩ := T0.out hm
    simp only [Prod.mk.injEq] at e
    obtain ⟨-, rfl, rfl⟩ := e
    by_cases c : 1 ≤ (sl s).length - 2
    · have e1 : Lk.rdNum (sl s) 1 (2, false) = (Lk.num (((sl s).drop 2).take 1), (3, false)) := by simp [Lk.rdNum, Lk.rdText, c]
      rw [e1]
      have hle := Lk.le_num (((sl s).drop 2).take 1)
      rw [show (((sl s).drop 2).take 1).length = 1 from by simp; omega] at hle
      refine ⟨rfl, ?_, by omega⟩
      simp only
      rw [d, hle, show (sl s).drop 3 = ((sl s).drop 2).drop 1 from by rw [List.drop_drop], List.take_append_drop]
    · have e1 : Lk.rdNum (sl s) 1 (2, false) = (0, (2, true)) := by simp [Lk.rdNum, Lk.rdText, c, Lk.num]
      rw [e1] at h
      simp at h)
  have N1 := hid (show ∀ ms, IsArch (sl s) ms → (Lk.rdNum (sl s) 1 (p0, s0)).1 = (ms.length : Int) from fun ms h => by
    obtain ⟨e, d, hl2⟩ := T0.out (N0.out ms h)
    simp only [Prod.mk.injEq] at e
    obtain ⟨-, rfl, rfl⟩ := e
    have d0 : (sl s).drop 0 = [65, 82] ++ (Lk.le ms.length 1 ++ ms.flatMap memB) := by rw [← h.2.2]; rfl
    exact ((Lk.reads_num (sl s) 1).on (st := (2, false)) hl2 rfl (x := (ms.length : Int)) (rest := ms.flatMap memB) ⟨by omega, by have := h.1.2; simp only [Int.reducePow]; omega⟩ (drop_on d0)).1)
  generalize Lk.rdNum (sl s) 1 (p0, s0) = x1 at *
  obtain ⟨cnt, p1, s1⟩ := x1
  simp only at c1 T1 N1 l1 b1
  have C0 := hid c0
  have C1 := hid c1
  clear c0 c1
  have HLN := hid hlen
  clear hlen
  have cV := hid (fun W => validCount_any cnt W)
  go_enter Tryd.func23, Tryd.ntmps23
  go_wp2_with fail
  refine (newReader_any s w).mono ?_
  rintro e W1 ⟨rfl, g1⟩
  have R : RdAt (W1.alloc (.cells #[.string s, .int .i64 0, .bool false] 68)) W1.heap.size s 0 false := heap_alloc_new W1 _
  have HR := hid R
  have G1 := hid (grown_trans g1 (World.grownBy_alloc W1 (.cells #[.string s, .int .i64 0, .bool false] 68) none))
  have hbw : w.heap.size ≤ W1.heap.size := g1.size
  clear R g1
  generalize hb : W1.heap.size = b at *
  go_wp2_with fail
  refine (C0.out _ b HR.out).mono ?_
  rintro e W2 ⟨rfl, r2, g2⟩
  have R2 := hid r2
  have G2 := hid (grown_above G1.out g2 hbw)
  clear r2 g2 HR G1 hb
  go_wp2_with fail
  refine (C1.out _ b R2.out).mono ?_
  rintro e W3 ⟨rfl, r3, g3⟩
  have R3 := hid r3
  have G3 := hid (grown_above G2.out g3 hbw)
  clear r3 g3 R2 G2
  have HTB := hid (toList_bs mk)
  by_cases c : mk = [65, 82]
  rotate_left
  · have d : ((bs mk).toList == [65, 82]) = false := by rw [HTB.out, beq_eq_false_iff_ne]; exact c
    have CC := hid c
    clear c
    go_wp2
    go_ret2
    exact ⟨.inr ⟨fun ms h => CC.out (N0.out ms h), rfl⟩, G3.out⟩
  have d : ((bs mk).toList == [65, 82]) = true := by rw [HTB.out, beq_iff_eq]; exact c
  have CC := hid c
  clear c
  go_wp2_with fail
  refine (cV.out _).mono ?_
  rintro e W4 ⟨t, rfl⟩
  rcases t.split with ⟨rfl, pv⟩ | ⟨rfl, pv⟩ <;> clear t
  · go_wp2
    go_ret2
    exact ⟨.inr ⟨fun ms h => pv.out (by rw [N1.out ms h]; have := h.1; omega), rfl⟩, G3.out⟩
  obtain ⟨hst, hd, hl3⟩ := T1.out CC.out pv.out.1
  simp only [Prod.mk.injEq] at hst
  obtain ⟨rfl, rfl⟩ := hst
  obtain ⟨n, rfl⟩ := Int.eq_ofNat_of_zero_le b1.1
  have HPV := hid pv.out
  have hn6 : n ≤ 6 := by have := pv.out.2; omega
  have HN1 := hid N1.out
  have A3 := hid (show ∀ ms, IsArch (sl s) ms → ms.length = n ∧ ∃ ms', ms = [] ++ ms' ∧ (sl s).drop 3 = ms'.flatMap memB from fun ms h => by
    refine ⟨by have := HN1.out ms h; omega, ms, rfl, ?_⟩
    have d0 : (sl s).drop 0 = [65, 82] ++ (Lk.le ms.length 1 ++ ms.flatMap memB) := by rw [← h.2.2]; rfl
    have := drop_on (drop_on d0)
    rw [Lk.le_length] at this
    exact this)
  have HD := hid hd
  clear hd hl3 pv N1 HN1 T0 T1 N0 C0 C1
  have hbs : W4.heap.size ≤ W4.heap.size := Nat.le_refl _
  have hblt : b < W4.heap.size := R3.out.lt
  have hw4 : w.heap.size ≤ W4.heap.size := G3.out.size
  go_wp2
  go_loopw [7, 8] (fun v i wr => ∃ (k : Nat) (acc : List (List UInt8)) (p : Nat), k ≤ n ∧ i = .int .i64 k ∧ acc.length = k ∧ p ≤ s.size ∧
      wr.ownsRow W4.heap.size 9 1 v k (strV acc) ∧ RdAt wr b s p false ∧ w.grownBy wr none ∧ W4.heap.size ≤ wr.heap.size ∧ (∀ m ∈ acc, IsObj m) ∧ (sl s).drop 3 = acc.flatMap memB ++ (sl s).drop p ∧
      ∀ ms, IsArch (sl s) ms → ms.length = n ∧ ∃ ms', ms = acc ++ ms' ∧ (sl s).drop p = ms'.flatMap memB) (fun _ i _ => n - (intOf i).toNat)
  case atStart => exact ⟨0, [], 3, Nat.zero_le _, rfl, rfl, l1, World.ownsRow_nil _ _ _ _, R3.out, G3.out, Nat.le_refl _, by simp, by simp, A3.out⟩
  case round =>
    obtain ⟨k, acc, p, hk, rfl, hacc, hp, hown, hrd, hgr, hsz, hall, hdr, har⟩ := hrel
    have HACC := hid hacc
    have HRD := hid hrd
    have HG := hid hgr
    have HALL := hid hall
    have HDR := hid hdr
    have HAR := hid har
    clear hacc hrd hgr hall hdr har
    by_cases hlt : k < n
    · have hlt' : (k : Int) < (n : Int) := by omega
      have hstep := hid (fun h => mem_step (l := sl s) (p := p) (by rw [HLN.out]; exact hp) h)
      have hon := hid (fun (m rest : List UInt8) h hm => mem_on (l := sl s) (m := m) (rest := rest) (p := p) (by rw [HLN.out]; exact hp) h hm)
      have k0 := hid (fun W h => number_lit b s p 2 2 rfl false W h hs hp (by omega))
      have r0 := rdNum_byte (sl s) 2 (p, false)
      have q0 := rdNum_le (sl s) 2 (p, false) (by rw [HLN.out]; exact hp)
      rw [HLN.out] at q0
      simp only [Int.reducePow] at r0
      generalize Lk.rdNum (sl s) 2 (p, false) = y0 at *
      obtain ⟨len, p2, s2⟩ := y0
      simp only at k0 r0 q0 hstep hon
      obtain ⟨len, rfl⟩ := Int.eq_ofNat_of_zero_le r0.1
      simp only [Int.toNat_natCast] at hstep hon
      have k1 := hid (fun W h => text_lit b s p2 len (len : Int) rfl s2 W h hs q0 (by omega))
      have q1 := rdText_le (sl s) len (p2, s2) (by rw [HLN.out]; exact q0)
      rw [HLN.out] at q1
      have q2 : (Lk.rdText (sl s) len (p2, s2)).1.length ≤ 65535 := by
        unfold Lk.rdText
        split
        · simp only [List.length_take]; omega
        · simp
      generalize Lk.rdText (sl s) len (p2, s2) = y1 at *
      obtain ⟨m, p3, s3⟩ := y1
      simp only at k1 q1 q2 hstep hon
      go_wp2_with fail
      refine (k0.out _ HRD.out).mono ?_
      rintro e U1 ⟨rfl, r1, g1⟩
      have RA := hid r1
      have GA := hid (grown_above HG.out g1 hbw)
      have hown1 := own_kept hown hblt g1
      have hsz1 := Nat.le_trans hsz g1.size
      clear r1 g1 hown hsz HRD HG k0
      go_wp2_with fail
      refine (k1.out _ RA.out).mono ?_
      rintro e U2 ⟨rfl, r1, g1⟩
      have RB := hid r1
      have GB := hid (grown_above GA.out g1 hbw)
      have hown2 := own_kept hown1 hblt g1
      have hsz2 := Nat.le_trans hsz1 g1.size
      clear r1 g1 hown1 hsz1 RA GA k1
      have cO := hid (archObject_any (bs m) U2 (HT.out.grown GB.out) (by show m.length ≤ 1048576; omega))
      rw [sl_bs] at cO
      go_wp2_with fail
      refine cO.out.mono ?_
      rintro e U3 ⟨t, g1⟩
      have RC := hid (RB.out.grown g1 (by simp))
      have GC := hid (grown_trans GB.out g1)
      have hown3 := hown2.kept g1 (by cases (Value.ownBlock _) <;> simp)
      have hsz3 := Nat.le_trans hsz2 g1.size
      rcases t.split with ⟨rfl, pv⟩ | ⟨rfl, pv⟩ <;> clear t g1 hown2 hsz2 RB GB cO
      · have NA := hid (show ∀ ms, ¬ IsArch (sl s) ms from fun ms h => by
          obtain ⟨h1, ms', h2, h3⟩ := HAR.out ms h
          have h4 := HACC.out
          match ms', h2, h3 with
          | [], h2, _ => rw [h2] at h1; simp at h1; omega
          | m' :: ms'', h2, h3 =>
            have hm' : IsObj m' := h.2.1 m' (by rw [h2]; simp)
            have e := hon.out m' (ms''.flatMap memB) (by rw [h3]; rfl) (isObj_short hm')
            subst e
            exact pv.out hm')
        clear pv
        go_wp2
        go_ret2
        exact ⟨.inr ⟨NA.out, rfl⟩, GC.out⟩
      · obtain ⟨m', he, hdp, hle⟩ := hstep.out pv.out
        simp only [Prod.mk.injEq] at he
        obtain ⟨rfl, rfl, rfl⟩ := he
        rw [HLN.out] at hle
        have HDP := hid hdp
        have HPV2 := hid pv.out
        have HAR2 := hid (show ∀ ms, IsArch (sl s) ms → ms.length = n ∧ ∃ ms', ms = (acc ++ [m]) ++ ms' ∧ (sl s).drop (p + 2 + m.length) = ms'.flatMap memB from fun ms h => by
          obtain ⟨h1, ms', h2, h3⟩ := HAR.out ms h
          refine ⟨h1, ?_⟩
          have h4 := HACC.out
          match ms', h2, h3 with
          | [], h2, _ => rw [h2] at h1; simp at h1; omega
          | m' :: ms'', h2, h3 =>
            have hm' : IsObj m' := h.2.1 m' (by rw [h2]; simp)
            have e := hon.out m' (ms''.flatMap memB) (by rw [h3]; rfl) (isObj_short hm')
            subst e
            refine ⟨ms'', by rw [h2]; simp, ?_⟩
            rw [HDP.out] at h3
            exact List.append_cancel_left h3)
        clear pv hdp hstep hon
        have hacc2 : acc.length ≤ 6 := by have := HACC.out; omega
        go_wp2_with (at_builtin; refine wpList_append_own _ rfl _ _ 25 rfl W4.heap.size 9 i0 (.string ⟨#[]⟩) 1 16 Tryd.underlying25 hi hz0 hz1 hz2 rfl (by decide) _ _ _ rfl (hown3.alloc _) ⟨U3.heap.size, 0, none⟩ 1 1 [.string (bs m)] rfl rfl (cell_one_new _ _ _) (by intro u hu; simp at hu; subst hu; rfl) (by unfold maxLen; omega) (by omega) (by simp; omega) ?_; intro v' w3 hown' hgrow _)
        have K1 := hid (show w3.ownsRow W4.heap.size 9 1 v' (k + 1) (strV (acc ++ [m])) from by unfold strV; rw [List.map_append]; exact hown')
        have K2 := hid ((RC.out.grown (World.grownBy_alloc _ _ none) (by simp)).grown hgrow (fun e => by have := (hown3.lt b e.symm).1; omega))
        have K3 := hid (show w.grownBy w3 none from by
          cases hob : Value.ownBlock _ with
          | none => rw [hob] at hgrow; exact grown_trans (grown_trans GC.out (World.grownBy_alloc _ _ none)) hgrow
          | some bb => rw [hob] at hgrow; exact grown_above (grown_trans GC.out (World.grownBy_alloc _ _ none)) hgrow (by have := (hown3.lt bb hob).1; omega))
        have K4 := hid (show W4.heap.size ≤ w3.heap.size from by have := hgrow.size; simp at this; omega)
        clear hgrow hown' hown3
        go_wp2
        go_roundw
        case rel => exact ⟨k + 1, acc ++ [m], p + 2 + m.length, by omega, by go_num, by simp [HACC.out], hle, K1.out, K2.out, K3.out, K4.out, fun x hx => (List.mem_append.1 hx).elim (HALL.out x) (fun h => by rw [List.mem_singleton.1 h]; exact HPV2.out), by rw [HDR.out, HDP.out]; simp, HAR2.out⟩
        case measure => simp [intOf]; omega
    · obtain rfl : k = n := by omega
      have cD := hid (done_any b s p false wr HRD.out)
      go_wp2_with fail
      refine cD.out.mono ?_
      rintro e U1 ⟨he, kd, rfl⟩
      by_cases c : p = s.size
      · rw [show (!false && decide (p = s.size)) = true from by simp [c]] at he
        subst he
        have AR := hid (show IsArch (sl s) acc from ⟨by have := HPV.out; have := HACC.out; omega, HALL.out, by
          have e1 := HDR.out
          have e0 : (sl s).drop p = [] := List.drop_of_length_le (by rw [HLN.out]; omega)
          rw [e0, List.append_nil] at e1
          unfold arB
          rw [← e1, HACC.out]
          exact HD.out.symm⟩)
        have HO := hid (own_base hown hw4)
        obtain ⟨av, cv, rfl⟩ := own_form hown
        clear c hown
        go_wp2
        go_ret2
        refine ⟨.inl ⟨acc, _, AR.out, rfl, ?_⟩, grown_drewN HG.out _⟩
        rw [HACC.out]
        exact HO.out.kept (grown_drewN (World.grownBy.refl _ none) kd) (by cases (Value.ownBlock _) <;> simp)
      · rw [show (!false && decide (p = s.size)) = false from by simp [c]] at he
        subst he
        have NA := hid (show ∀ ms, ¬ IsArch (sl s) ms from fun ms h => by
          obtain ⟨h1, ms', h2, h3⟩ := HAR.out ms h
          have h4 := HACC.out
          rw [h2] at h1
          simp only [List.length_append] at h1
          have h5 : ms' = [] := List.eq_nil_of_length_eq_zero (by omega)
          rw [h5] at h3
          have h6 := congrArg List.length h3
          simp only [List.flatMap_nil, List.length_nil, List.length_drop, HLN.out] at h6
          omega)
        clear c
        go_wp2
        go_ret2
        exact ⟨.inr ⟨NA.out, rfl⟩, grown_drewN HG.out _⟩

end Go.Proofs.YtogbomihnhfaiaaDoor

namespace Go.Proofs.YtogbomihnhfaiaaDoor
open Go.RowKit

/-- a list of strings at ao -/
def StrsIn (w : World) (ao : Option Addr) (ms : List (List UInt8)) : Prop :=
  0 < ms.length → ∃ g off, ao = some ⟨g, off, none⟩ ∧ ∀ i (h : i < ms.length), w.cell? ⟨g, off + i, none⟩ = some (.string (bs ms[i]))

theorem StrsIn.of_own {w : World} {base : Nat} {ao : Option Addr} {n cap : Nat} {ms : List (List UInt8)} (h : w.ownsRow base 9 1 (.slice ao n cap) n (strV ms)) : StrsIn w ao ms := by
  intro h0
  have hn : ms.length = n := by have := h.1; simpa [strV] using this
  rcases h.2 with ⟨h1, h2⟩ | ⟨g, cap', cur, hv, _⟩
  · simp at h1; omega
  · simp only [Value.slice.injEq] at hv
    obtain ⟨rfl, _, rfl⟩ := hv
    refine ⟨g, 0, rfl, fun i hi => ?_⟩
    have := h.cellAt i (by omega)
    rw [Nat.zero_add, this]
    simp [strV, hi]

theorem StrsIn.kept {w w' : World} {ao : Option Addr} {ms : List (List UInt8)} (h : StrsIn w ao ms) (hc : ∀ a v, w.cell? a = some v → w'.cell? a = some v) : StrsIn w' ao ms := by
  intro h0
  obtain ⟨g, off, h1, h2⟩ := h h0
  exact ⟨g, off, h1, fun i hi => hc _ _ (h2 i hi)⟩

theorem ar_append (b : List UInt8) : (⟨#[65, 82]⟩ : ByteArray) ++ bs b = bs ([65, 82] ++ b) := bs_append [65, 82] b

/-- may they be members? -/
def MemsOk (ms : List (List UInt8)) : Prop := (1 ≤ ms.length ∧ ms.length ≤ 6) ∧ ∀ m ∈ ms, IsObj m

def ArchRet (ms : List (List UInt8)) (e : Ending) : Prop :=
  (MemsOk ms ∧ e = .returned (.tuple #[.string (bs (arB ms)), .bool true])) ∨ (¬ MemsOk ms ∧ e = .returned (.tuple #[.string ⟨#[]⟩, .bool false]))

theorem flatM_le (k : Nat) (ms : List (List UInt8)) (h : ∀ m ∈ ms, m.length ≤ 65535) : ((ms.take k).flatMap memB).length ≤ 65537 * (ms.take k).length :=
  flatB_le memB 65537 _ fun m hm => by
    have := h m (List.mem_of_mem_take hm)
    simp only [memB, List.length_append, Lk.le_length]
    omega

set_option maxRecDepth 100000 in
set_option maxHeartbeats 8000000 in
theorem archive_any (ao : Option Addr) (cap : Nat) (ms : List (List UInt8)) (w : World) (hI : StrsIn w ao ms) (hm : ∀ m ∈ ms, m.length ≤ 65535) (hn : ms.length ≤ 65535) :
    Calls Tryd.prog 24 #[.slice ao ms.length cap] w fun e w' => ArchRet ms e ∧ w.grownBy w' none := by
  have HI := hid hI
  have HM := hid hm
  have RF := hid (World.grownBy.refl w none)
  have HOK := hid (show MemsOk ms ↔ (1 ≤ ms.length ∧ ms.length ≤ 6) ∧ ∀ m ∈ ms, IsObj m from Iff.rfl)
  have no : Hid (∀ W, ¬ MemsOk ms → w.grownBy W none → ArchRet ms (.returned (.tuple #[.string ⟨#[]⟩, .bool false])) ∧ w.grownBy W none) := fun W a b => ⟨.inr ⟨a, rfl⟩, b⟩
  clear hI hm
  go_enter Tryd.func24, Tryd.ntmps24
  by_cases c : ms.length < 1
  · have d : decide ((ms.length : Int) < 1) = true := by simp; omega
    have CC := hid (show ¬ MemsOk ms from fun h => by have := h.1.1; omega)
    clear c
    go_wp2
    go_ret2
    exact no.out _ CC.out RF.out
  have d1 : decide ((ms.length : Int) < 1) = false := by simp; omega
  by_cases c6 : 6 < ms.length
  · have d : decide (6 < (ms.length : Int)) = true := by simp; omega
    have CC := hid (show ¬ MemsOk ms from fun h => by have := h.1.2; omega)
    clear c
    go_wp2
    go_ret2
    exact no.out _ CC.out RF.out
  have d2 : decide (6 < (ms.length : Int)) = false := by simp; omega
  have HLEN := hid (show 1 ≤ ms.length ∧ ms.length ≤ 6 from by omega)
  clear c
  have cL := hid (fun W => le_lit (ms.length : Int) 1 1 rfl W (by omega))
  have y0 := le_sz (ms.length : Int) 1 (by decide)
  go_wp2_with fail
  refine (cL.out _).mono ?_
  rintro e w1 ⟨rfl, q1⟩
  have G1 := hid q1
  clear q1
  go_wp2
  obtain ⟨p1, hp1⟩ : ∃ p1, p1 = [65, 82] ++ Lk.le ms.length 1 := ⟨_, rfl⟩
  have HP1 := hid hp1
  have hl1 : p1.length = 3 := by rw [hp1]; simp [Lk.le_length]
  have HL1 := hid hl1
  clear hp1 hl1
  go_loopw [4, 5] (fun t i wr => ∃ k : Nat, k ≤ ms.length ∧ i = .int .i64 k ∧ (∃ acc : List UInt8, t = .string (bs acc) ∧ acc = p1 ++ (ms.take k).flatMap memB) ∧ (∀ j (hj : j < ms.length), j < k → IsObj ms[j]) ∧ w.grownBy wr none) (fun _ i _ => ms.length - (intOf i).toNat)
  case atStart =>
    refine ⟨0, Nat.zero_le _, rfl, ⟨p1, ?_, by simp⟩, fun j _ hj => absurd hj (Nat.not_lt_zero j), G1.out⟩
    rw [HP1.out, ← ar_append]
  case round =>
    obtain ⟨k, hk, rfl, ⟨acc, rfl, hae⟩, hall, hgr⟩ := hrel
    have HAE := hid hae
    have HALL := hid hall
    have HG := hid hgr
    have hla : acc.length ≤ 3 + 65537 * 6 := by
      have := flatM_le k ms HM.out
      have h2 := HL1.out
      rw [List.length_take] at this
      rw [hae, List.length_append]
      omega
    clear hae hall hgr
    by_cases hlt : k < ms.length
    · have hlt' : (k : Int) < (ms.length : Int) := by omega
      obtain ⟨g, off, hao, hc⟩ := (HI.out.kept (fun a v hv => gcell hv HG.out)) (by omega)
      subst hao
      have hck := hc k hlt
      clear hc
      have HC0 := hid hck
      have hmk := HM.out _ (List.getElem_mem hlt)
      have HTK := hid (show (ms.take (k + 1)).flatMap memB = (ms.take k).flatMap memB ++ (Lk.le ms[k].length 2 ++ ms[k]) from by
        rw [List.take_succ_eq_append_getElem hlt, List.flatMap_append]
        simp only [List.flatMap_cons, List.flatMap_nil, List.append_nil, memB])
      have HNO := hid (show ¬ IsObj ms[k] → ¬ MemsOk ms from fun h a => h (a.2 _ (List.getElem_mem hlt)))
      have HYES := hid (show IsObj ms[k] → ∀ j (hj : j < ms.length), j < k + 1 → IsObj ms[j] from fun h j hj hjk => (Nat.lt_succ_iff_lt_or_eq.1 hjk).elim (fun h => HALL.out j hj h) (fun e => by subst e; exact h))
      generalize ms[k] = m at *
      have cP := hid (fun W => parse_any (bs m) W (by rw [bs_size]; omega))
      have cL2 := hid (fun W => le_lit ((bs m).size : Int) 2 2 rfl W (by omega))
      have HSZ := hid (bs_size m)
      go_wp2_with fail
      refine (cP.out _).mono ?_
      rintro e w2 ⟨pr, q2⟩
      have G2 := hid (grown_trans HG.out q2)
      have ck2 := gcell HC0.out q2
      clear q2
      unfold ParseRet at pr
      rw [sl_bs] at pr
      rcases pr with ⟨ho, gp, rfl, -⟩ | ⟨ho, v, rfl⟩
      · have HO := hid ho
        clear ho
        go_wp2_with fail
        refine (cL2.out _).mono ?_
        rintro e w3 ⟨rfl, q3⟩
        have G3 := hid (grown_trans G2.out q3)
        have ck3 := gcell ck2 q3
        have y1 := bs_sz acc (3 + 65537 * 6) hla
        have y2 := le_sz ((bs m).size : Int) 2 (by decide)
        have y3 := bs_sz m 65535 hmk
        clear q3
        go_wp2
        go_roundw
        case rel => exact ⟨k + 1, by omega, by go_num, ⟨acc ++ (Lk.le m.length 2 ++ m), by rw [HSZ.out, bs_append, bs_append, List.append_assoc], by rw [HTK.out, HAE.out, List.append_assoc]⟩, HYES.out HO.out, G3.out⟩
        case measure => simp [intOf]; omega
      · have CC := hid (HNO.out ho)
        clear ho
        go_wp2
        go_ret2
        exact no.out _ CC.out G2.out
    · obtain rfl : k = ms.length := by omega
      have HOKY := hid (show MemsOk ms from ⟨HLEN.out, fun m hm => by obtain ⟨i, hi, rfl⟩ := List.getElem_of_mem hm; exact HALL.out i hi hi⟩)
      have HAR := hid (show arB ms = acc from by rw [HAE.out, HP1.out, List.take_length]; unfold arB; rw [List.append_assoc])
      go_wp2
      go_ret2
      exact ⟨.inl ⟨HOKY.out, by rw [HAR.out]; rfl⟩, HG.out⟩

/-- what Unpack gives -/
def UnpackRet (l : List UInt8) (base : Nat) (e : Ending) (w' : World) : Prop :=
  ∃ v b, e = .returned (.tuple #[v, .bool b]) ∧ (b = true ↔ IsArch l (rawMems l)) ∧ w'.ownsRow base 9 1 v (rawMems l).length (strV (rawMems l))

set_option maxRecDepth 100000 in
set_option maxHeartbeats 8000000 in
theorem unpack_any (s : ByteArray) (w : World) (hs : s.size ≤ 1048576) :
    Calls Tryd.prog 11 #[.string s] w fun e w' => UnpackRet (sl s) w.heap.size e w' ∧ w.grownBy w' none := by
  obtain ⟨i0, hi, hz0, hz1, hz2⟩ := info_parts Tryd.infoStr
  have q2 := atL_range (sl s) 2 1
  simp only [Int.reducePow] at q2
  have a2 := hid (fun W => at_lit s 2 1 2 1 rfl rfl W hs (by omega) (by omega))
  have RAW := hid (show rawMems (sl s) = (memsRaw (sl s) (min (atL (sl s) 2 1).toNat 6)).1 from rfl)
  obtain ⟨n, hn⟩ := Int.eq_ofNat_of_zero_le q2.1
  rw [hn] at q2 a2 RAW
  rw [Int.toNat_natCast] at RAW
  clear hn
  have HPS := hid (memsRaw_pos (sl s))
  have HSH := hid (memsRaw_short (sl s))
  have HLN := hid (memsRaw_length (sl s))
  go_enter Tryd.func11, Tryd.ntmps11
  go_wp2_with fail
  refine (a2.out _).mono ?_
  rintro e V ⟨rfl, rfl⟩
  go_wp2
  go_loopw [4, 6, 7] (fun v p i wr => ∃ k : Nat, k ≤ n ∧ k ≤ 6 ∧ i = .int .i64 k ∧ p = .int .i64 ((memsRaw (sl s) k).2 : Int) ∧ wr.ownsRow V.heap.size 9 1 v k (strV (memsRaw (sl s) k).1) ∧ V.grownBy wr none) (fun _ _ i _ => 6 - (intOf i).toNat)
  case atStart => exact ⟨0, Nat.zero_le _, Nat.zero_le _, rfl, rfl, World.ownsRow_nil _ _ _ _, World.grownBy.refl _ _⟩
  case round =>
    obtain ⟨k, hk, hk6, rfl, rfl, hown, hgr⟩ := hrel
    obtain ⟨av, cv, rfl⟩ := own_form hown
    have HG := hid hgr
    have hsz := hgr.size
    have hpos := HPS.out k
    clear hgr
    by_cases hlt : k < n ∧ k < 6
    · obtain ⟨hlt1, hlt2⟩ := hlt
      have e1 : decide ((k : Int) < (n : Int)) = true := by simp; omega
      have e2 : decide ((k : Int) < 6) = true := by simp; omega
      have HE := hid (show (memsRaw (sl s) (k + 1)).1 = (memsRaw (sl s) k).1 ++ [cutL (sl s) ((memsRaw (sl s) k).2 + 2) (atL (sl s) (memsRaw (sl s) k).2 2).toNat] from rfl)
      have HP := hid (show (memsRaw (sl s) (k + 1)).2 = (memsRaw (sl s) k).2 + 2 + (atL (sl s) (memsRaw (sl s) k).2 2).toNat from rfl)
      generalize (memsRaw (sl s) k).2 = p at *
      have rn := atL_range (sl s) p 2
      simp only [Int.reducePow] at rn
      have b0 := hid (fun W => at_lit s p 2 (p : Int) 2 rfl rfl W hs (by omega) (by omega))
      obtain ⟨len, hl⟩ := Int.eq_ofNat_of_zero_le rn.1
      rw [hl] at rn b0 HE HP
      rw [Int.toNat_natCast] at HE HP
      clear hl
      have b1 := hid (fun W => cut_lit s (p + 2) len ((p : Int) + 2) (len : Int) (by omega) rfl W hs (by omega) (by omega))
      generalize cutL (sl s) (p + 2) len = m at *
      go_wp2_with fail
      refine (b0.out _).mono ?_
      rintro e W1 ⟨rfl, rfl⟩
      go_wp2_with fail
      refine (b1.out _).mono ?_
      rintro e W2 ⟨rfl, rfl⟩
      go_wp2_with (at_builtin; refine wpList_append_own _ rfl _ _ 25 rfl V.heap.size 9 i0 (.string ⟨#[]⟩) 1 16 Tryd.underlying25 hi hz0 hz1 hz2 rfl (by decide) _ _ _ rfl (hown.alloc _) ⟨W2.heap.size, 0, none⟩ 1 1 [.string (bs m)] rfl rfl (cell_one_new _ _ _) (by intro u hu; simp at hu; subst hu; rfl) (by unfold maxLen; omega) (by omega) (by simp; omega) ?_; intro v' w3 hown' hgrow _)
      have K1 := hid (show w3.ownsRow V.heap.size 9 1 v' (k + 1) (strV (memsRaw (sl s) (k + 1)).1) from by unfold strV; rw [HE.out, List.map_append]; exact hown')
      have K3 := hid (show V.grownBy w3 none from by
        cases hob : Value.ownBlock _ with
        | none => rw [hob] at hgrow; exact grown_trans (grown_trans HG.out (World.grownBy_alloc _ _ none)) hgrow
        | some bb => rw [hob] at hgrow; exact grown_above (grown_trans HG.out (World.grownBy_alloc _ _ none)) hgrow (by have := (hown.lt bb hob).1; omega))
      clear hgrow hown' hown
      go_wp2
      go_roundw
      case rel => exact ⟨k + 1, by omega, by omega, by go_num, by rw [HP.out]; go_num, K1.out, K3.out⟩
      case measure => simp [intOf]; omega
    · have hke : k = min n 6 := by omega
      have HRW := hid (show rawMems (sl s) = (memsRaw (sl s) k).1 from by rw [hke]; exact RAW.out)
      have HL := HLN.out k
      have HM := HSH.out k
      rw [← HRW.out] at HL HM hown
      have cA := hid (fun W (h : StrsIn W av (rawMems (sl s))) => archive_any av cv (rawMems (sl s)) W h HM (by omega))
      rw [HL] at cA
      have HIA := hid (show IsArch (sl s) (rawMems (sl s)) ↔ MemsOk (rawMems (sl s)) ∧ arB (rawMems (sl s)) = sl s from ⟨fun h => ⟨⟨h.1, h.2.1⟩, h.2.2⟩, fun h => ⟨h.1.1, h.1.2, h.2⟩⟩)
      have HLL := hid HL
      have hkk : (k = 6 ∧ 6 < n) ∨ k = n := by omega
      clear HL HM hlt HSH HPS hpos HLN HRW RAW hke
      have fin : Hid (∀ W, V.grownBy W none → W.ownsRow V.heap.size 9 1 (.slice av k cv) k (strV (rawMems (sl s))) → ∀ b, (b = true ↔ IsArch (sl s) (rawMems (sl s))) → UnpackRet (sl s) V.heap.size (.returned (.tuple #[.slice av k cv, .bool b])) W ∧ V.grownBy W none) := fun W h1 h2 b h3 => ⟨⟨_, b, rfl, h3, by rw [HLL.out]; exact h2⟩, h1⟩
      generalize IsArch (sl s) (rawMems (sl s)) = QA at *
      have HSL := hid (show s.toList = sl s from ByteArray.toList_eq s)
      have HOW := hid hown
      clear hown
      generalize rawMems (sl s) = ms at *
      rcases hkk with ⟨rfl, hn6⟩ | rfl
      all_goals
        go_wp2_with fail
        refine (cA.out _ (StrsIn.of_own HOW.out)).mono ?_
        rintro e W2 ⟨ar, q⟩
        have GF := hid (grown_trans HG.out q)
        have HO2 := hid (HOW.out.kept q (by cases (Value.ownBlock _) <;> simp))
        clear q
        rcases ar with ⟨hok, rfl⟩ | ⟨hok, rfl⟩
        · have HTL := hid (toList_bs (arB ms))
          by_cases c : arB ms = sl s
          · have d : ((bs (arB ms)).toList == s.toList) = true := by rw [HTL.out, HSL.out, beq_iff_eq]; exact c
            have F := hid (fin.out W2 GF.out HO2.out true ⟨fun _ => HIA.out.2 ⟨hok, c⟩, fun _ => rfl⟩)
            clear c hok
            go_wp2
            go_ret2
            exact F.out
          · have d : ((bs (arB ms)).toList == s.toList) = false := by rw [HTL.out, HSL.out, beq_eq_false_iff_ne]; exact c
            have F := hid (fin.out W2 GF.out HO2.out false ⟨fun h => by simp at h, fun h => absurd (HIA.out.1 h).2 c⟩)
            clear c hok
            go_wp2
            go_ret2
            exact F.out
        · have F := hid (fin.out W2 GF.out HO2.out false ⟨fun h => by simp at h, fun h => absurd (HIA.out.1 h).1 hok⟩)
          clear hok
          go_wp2
          go_ret2
          exact F.out

end Go.Proofs.YtogbomihnhfaiaaDoor

namespace Go.Proofs.YtogbomihnhfaiaaDoor
open Go.RowKit

theorem cell_drewN (w : World) (n : Nat) (a : Addr) : (w.drewN n).cell? a = w.cell? a := by
  induction n generalizing w with
  | zero => rfl
  | succ n ih => exact ih w.drew

set_option maxHeartbeats 2000000 in
theorem sameInts_yes (ao bo : Option Addr) (ca cb : Nat) (xs : List Int) (w : World) (h1 : IntsIn w ao xs) (h2 : IntsIn w bo xs) (hn : xs.length ≤ 65535) :
    Calls Tryd.prog 20 #[.slice ao xs.length ca, .slice bo xs.length cb] w fun e w' => e = .returned (.bool true) ∧ ∃ n, w' = w.drewN n := by
  have H1 := hid h1
  have H2 := hid h2
  clear h1 h2
  go_enter Tryd.func20, Tryd.ntmps20
  go_wp2
  go_loopw [5] (fun i wr => ∃ k : Nat, k ≤ xs.length ∧ i = .int .i64 k ∧ ∃ n, wr = w.drewN n) (fun i _ => xs.length - (intOf i).toNat)
  case atStart => exact ⟨0, Nat.zero_le _, rfl, 0, rfl⟩
  case round =>
    obtain ⟨k, hk, rfl, n, rfl⟩ := hrel
    by_cases hlt : k < xs.length
    · have hlt' : (k : Int) < (xs.length : Int) := by omega
      obtain ⟨g1, o1, he1, hc1⟩ := H1.out (by omega)
      obtain ⟨g2, o2, he2, hc2⟩ := H2.out (by omega)
      subst he1 he2
      have k1 := hc1 k hlt
      have k2 := hc2 k hlt
      rw [← cell_drewN w n] at k1 k2
      clear hc1 hc2
      have HD := hid (fun m => World.drewN_drewN w n m)
      generalize w.drewN n = V at *
      generalize xs[k] = x at *
      go_wp2
      go_quiet (fail)
      go_wp2
      go_roundw
      case rel => exact ⟨k + 1, by omega, by go_num, _, HD.out _⟩
      case measure => simp [intOf]; omega
    · go_wp2
      go_ret
      exact ⟨rfl, n, rfl⟩

set_option maxHeartbeats 2000000 in
theorem sameTexts_yes (ao bo : Option Addr) (ca cb : Nat) (xs : List (List UInt8)) (w : World) (h1 : StrsIn w ao xs) (h2 : StrsIn w bo xs) (hn : xs.length ≤ 65535) :
    Calls Tryd.prog 12 #[.slice ao xs.length ca, .slice bo xs.length cb] w fun e w' => e = .returned (.bool true) ∧ ∃ n, w' = w.drewN n := by
  have H1 := hid h1
  have H2 := hid h2
  clear h1 h2
  go_enter Tryd.func12, Tryd.ntmps12
  go_wp2
  go_loopw [5] (fun i wr => ∃ k : Nat, k ≤ xs.length ∧ i = .int .i64 k ∧ ∃ n, wr = w.drewN n) (fun i _ => xs.length - (intOf i).toNat)
  case atStart => exact ⟨0, Nat.zero_le _, rfl, 0, rfl⟩
  case round =>
    obtain ⟨k, hk, rfl, n, rfl⟩ := hrel
    by_cases hlt : k < xs.length
    · have hlt' : (k : Int) < (xs.length : Int) := by omega
      obtain ⟨g1, o1, he1, hc1⟩ := H1.out (by omega)
      obtain ⟨g2, o2, he2, hc2⟩ := H2.out (by omega)
      subst he1 he2
      have k1 := hc1 k hlt
      have k2 := hc2 k hlt
      rw [← cell_drewN w n] at k1 k2
      clear hc1 hc2
      have HD := hid (fun m => World.drewN_drewN w n m)
      generalize w.drewN n = V at *
      generalize bs xs[k] = x at *
      go_wp2
      go_quiet (fail)
      go_wp2
      go_roundw
      case rel => exact ⟨k + 1, by omega, by go_num, _, HD.out _⟩
      case measure => simp [intOf]; omega
    · go_wp2
      go_ret
      exact ⟨rfl, n, rfl⟩

set_option maxHeartbeats 2000000 in
theorem sameSyms_yes (ao bo : Option Addr) (ca cb : Nat) (xs : List Lk.Sym) (w : World) (h1 : SymsIn w ao xs) (h2 : SymsIn w bo xs) (hn : xs.length ≤ 65535) :
    Calls Tryd.prog 21 #[.slice ao xs.length ca, .slice bo xs.length cb] w fun e w' => e = .returned (.bool true) ∧ ∃ n, w' = w.drewN n := by
  have H1 := hid h1
  have H2 := hid h2
  clear h1 h2
  go_enter Tryd.func21, Tryd.ntmps21
  go_wp2
  go_loopw [5] (fun i wr => ∃ k : Nat, k ≤ xs.length ∧ i = .int .i64 k ∧ ∃ n, wr = w.drewN n) (fun i _ => xs.length - (intOf i).toNat)
  case atStart => exact ⟨0, Nat.zero_le _, rfl, 0, rfl⟩
  case round =>
    obtain ⟨k, hk, rfl, n, rfl⟩ := hrel
    by_cases hlt : k < xs.length
    · have hlt' : (k : Int) < (xs.length : Int) := by omega
      obtain ⟨g1, he1, hg1, hc1⟩ := H1.out (by omega)
      obtain ⟨g2, he2, hg2, hc2⟩ := H2.out (by omega)
      subst he1 he2
      obtain ⟨y0, y1, y2, y3⟩ := hc1 k hlt
      obtain ⟨z0, z1, z2, z3⟩ := hc2 k hlt
      rw [← cell_drewN w n] at y0 y1 y2 y3 z0 z1 z2 z3
      clear hc1 hc2 hg1 hg2
      have HD := hid (fun m => World.drewN_drewN w n m)
      generalize w.drewN n = V at *
      generalize xs[k] = y at *
      obtain ⟨nm, bd, sc, of⟩ := y
      simp only at y0 y1 y2 y3 z0 z1 z2 z3
      generalize bs nm = x at *
      go_wp2
      go_quiet (fail)
      go_wp2
      go_roundw
      case rel => exact ⟨k + 1, by omega, by go_num, _, HD.out _⟩
      case measure => simp [intOf]; omega
    · go_wp2
      go_ret
      exact ⟨rfl, n, rfl⟩

set_option maxHeartbeats 2000000 in
theorem sameRels_yes (ao bo : Option Addr) (ca cb : Nat) (xs : List Lk.Rel) (w : World) (h1 : RelsIn w ao xs) (h2 : RelsIn w bo xs) (hn : xs.length ≤ 65535) :
    Calls Tryd.prog 22 #[.slice ao xs.length ca, .slice bo xs.length cb] w fun e w' => e = .returned (.bool true) ∧ ∃ n, w' = w.drewN n := by
  have H1 := hid h1
  have H2 := hid h2
  clear h1 h2
  go_enter Tryd.func22, Tryd.ntmps22
  go_wp2
  go_loopw [5] (fun i wr => ∃ k : Nat, k ≤ xs.length ∧ i = .int .i64 k ∧ ∃ n, wr = w.drewN n) (fun i _ => xs.length - (intOf i).toNat)
  case atStart => exact ⟨0, Nat.zero_le _, rfl, 0, rfl⟩
  case round =>
    obtain ⟨k, hk, rfl, n, rfl⟩ := hrel
    by_cases hlt : k < xs.length
    · have hlt' : (k : Int) < (xs.length : Int) := by omega
      obtain ⟨g1, he1, hg1, hc1⟩ := H1.out (by omega)
      obtain ⟨g2, he2, hg2, hc2⟩ := H2.out (by omega)
      subst he1 he2
      obtain ⟨y0, y1, y2, y3, y4⟩ := hc1 k hlt
      obtain ⟨z0, z1, z2, z3, z4⟩ := hc2 k hlt
      rw [← cell_drewN w n] at y0 y1 y2 y3 y4 z0 z1 z2 z3 z4
      clear hc1 hc2 hg1 hg2
      have HD := hid (fun m => World.drewN_drewN w n m)
      generalize w.drewN n = V at *
      generalize xs[k] = y at *
      obtain ⟨sc, of, kd, sy, ad⟩ := y
      simp only at y0 y1 y2 y3 y4 z0 z1 z2 z3 z4
      go_wp2
      go_quiet (fail)
      go_wp2
      go_roundw
      case rel => exact ⟨k + 1, by omega, by go_num, _, HD.out _⟩
      case measure => simp [intOf]; omega
    · go_wp2
      go_ret
      exact ⟨rfl, n, rfl⟩

end Go.Proofs.YtogbomihnhfaiaaDoor

namespace Go.Proofs.YtogbomihnhfaiaaDoor
open Go.RowKit

theorem SymsIn.alike {w W : World} {ao : Option Addr} {ys : List Lk.Sym} (h : SymsIn w ao ys) (hc : ∀ a, W.cell? a = w.cell? a) (hz : W.heap.size = w.heap.size) : SymsIn W ao ys := by
  intro h0
  obtain ⟨g, h1, h2, h3⟩ := h h0
  exact ⟨g, h1, by rw [hz]; exact h2, fun i hi => by simpa only [hc] using h3 i hi⟩
theorem RelsIn.alike {w W : World} {ao : Option Addr} {ys : List Lk.Rel} (h : RelsIn w ao ys) (hc : ∀ a, W.cell? a = w.cell? a) (hz : W.heap.size = w.heap.size) : RelsIn W ao ys := by
  intro h0
  obtain ⟨g, h1, h2, h3⟩ := h h0
  exact ⟨g, h1, by rw [hz]; exact h2, fun i hi => by simpa only [hc] using h3 i hi⟩

set_option maxHeartbeats 4000000 in
theorem same_yes (g1 g2 : Nat) (o : Lk.Obj) (w : World) (h1 : ObjAt w g1 o) (h2 : ObjAt w g2 o) (hn : Small o) :
    Calls Tryd.prog 9 #[.pointer (some ⟨g1, 0, none⟩), .pointer (some ⟨g2, 0, none⟩)] w fun e w' => e = .returned (.bool true) ∧ ∃ n, w' = w.drewN n := by
  obtain ⟨a1, c1, a2, c2, a3, c3, a4, c4, a5, c5, a6, c6, hb, r1, r2, r3, r4, r5, r6⟩ := h1.open
  obtain ⟨b1, d1, b2, d2, b3, d3, b4, d4, b5, d5, b6, d6, hb', s1, s2, s3, s4, s5, s6⟩ := h2.open
  obtain ⟨n1, n2, n3, n4, n5, n6⟩ := hn
  have cT := hid (fun W (hc : ∀ a, W.cell? a = w.cell? a) => sameInts_yes a1 b1 c1 d1 o.text W ((IntsIn.of_own r1).kept (fun a v h => by rw [hc]; exact h)) ((IntsIn.of_own s1).kept (fun a v h => by rw [hc]; exact h)) n1)
  have cF := hid (fun W (hc : ∀ a, W.cell? a = w.cell? a) => sameInts_yes a2 b2 c2 d2 o.far W ((IntsIn.of_own r2).kept (fun a v h => by rw [hc]; exact h)) ((IntsIn.of_own s2).kept (fun a v h => by rw [hc]; exact h)) n2)
  have cD := hid (fun W (hc : ∀ a, W.cell? a = w.cell? a) => sameInts_yes a3 b3 c3 d3 o.data W ((IntsIn.of_own r3).kept (fun a v h => by rw [hc]; exact h)) ((IntsIn.of_own s3).kept (fun a v h => by rw [hc]; exact h)) n3)
  have cA := hid (fun W (hc : ∀ a, W.cell? a = w.cell? a) => sameInts_yes a4 b4 c4 d4 o.align W ((IntsIn.of_own r4).kept (fun a v h => by rw [hc]; exact h)) ((IntsIn.of_own s4).kept (fun a v h => by rw [hc]; exact h)) n4)
  have cS := hid (fun W (hc : ∀ a, W.cell? a = w.cell? a) (hz : W.heap.size = w.heap.size) => sameSyms_yes a5 b5 c5 d5 o.syms W ((SymsIn.of_own r5).alike hc hz) ((SymsIn.of_own s5).alike hc hz) n5)
  have cR := hid (fun W (hc : ∀ a, W.cell? a = w.cell? a) (hz : W.heap.size = w.heap.size) => sameRels_yes a6 b6 c6 d6 o.rels W ((RelsIn.of_own r6).alike hc hz) ((RelsIn.of_own s6).alike hc hz) n6)
  have k0 := hb.cell 0
  have k1 := hb.cell 1
  have k2 := hb.cell 2
  have k3 := hb.cell 3
  have k4 := hb.cell 4
  have k5 := hb.cell 5
  have k6 := hb.cell 6
  have j0 := hb'.cell 0
  have j1 := hb'.cell 1
  have j2 := hb'.cell 2
  have j3 := hb'.cell 3
  have j4 := hb'.cell 4
  have j5 := hb'.cell 5
  have j6 := hb'.cell 6
  clear h1 h2 hb hb' r1 r2 r3 r4 r5 r6 s1 s2 s3 s4 s5 s6 n1 n2 n3 n4 n5 n6
  go_enter Tryd.func9, Tryd.ntmps9
  go_wp2
  go_quiet ((go_at_call 20; refine Calls.quiet_of (cT.out _ ?_); (intro a; rw [cell_drewN])))
  have HV := hid (fun a => cell_drewN w nq a)
  have HZ := hid (show (w.drewN nq).heap.size = w.heap.size from by rw [heap_drewN])
  have HE := hid (show ∃ n, w.drewN nq = w.drewN n from ⟨_, rfl⟩)
  rw [← cell_drewN w nq] at k0 k1 k2 k3 k4 k5 k6 j0 j1 j2 j3 j4 j5 j6
  generalize w.drewN nq = V1 at *
  go_wp2
  go_quiet ((go_at_call 20; refine Calls.quiet_of (cF.out _ ?_); (intro a; rw [cell_drewN, HV.out])))
  replace HV := hid (fun a => (cell_drewN V1 nq a).trans (HV.out a))
  replace HZ := hid (show (V1.drewN nq).heap.size = w.heap.size from by rw [heap_drewN, HZ.out])
  replace HE := hid (show ∃ n, V1.drewN nq = w.drewN n from by obtain ⟨m, hm⟩ := HE.out; exact ⟨_, by rw [hm, World.drewN_drewN]⟩)
  rw [← cell_drewN V1 nq] at k0 k1 k2 k3 k4 k5 k6 j0 j1 j2 j3 j4 j5 j6
  generalize V1.drewN nq = V2 at *
  go_wp2
  go_quiet ((go_at_call 20; refine Calls.quiet_of (cD.out _ ?_); (intro a; rw [cell_drewN, HV.out])))
  replace HV := hid (fun a => (cell_drewN V2 nq a).trans (HV.out a))
  replace HZ := hid (show (V2.drewN nq).heap.size = w.heap.size from by rw [heap_drewN, HZ.out])
  replace HE := hid (show ∃ n, V2.drewN nq = w.drewN n from by obtain ⟨m, hm⟩ := HE.out; exact ⟨_, by rw [hm, World.drewN_drewN]⟩)
  rw [← cell_drewN V2 nq] at k0 k1 k2 k3 k4 k5 k6 j0 j1 j2 j3 j4 j5 j6
  generalize V2.drewN nq = V3 at *
  go_wp2
  go_quiet ((go_at_call 20; refine Calls.quiet_of (cA.out _ ?_); (intro a; rw [cell_drewN, HV.out])))
  replace HV := hid (fun a => (cell_drewN V3 nq a).trans (HV.out a))
  replace HZ := hid (show (V3.drewN nq).heap.size = w.heap.size from by rw [heap_drewN, HZ.out])
  replace HE := hid (show ∃ n, V3.drewN nq = w.drewN n from by obtain ⟨m, hm⟩ := HE.out; exact ⟨_, by rw [hm, World.drewN_drewN]⟩)
  rw [← cell_drewN V3 nq] at k0 k1 k2 k3 k4 k5 k6 j0 j1 j2 j3 j4 j5 j6
  generalize V3.drewN nq = V4 at *
  go_wp2
  go_quiet ((go_at_call 21; refine Calls.quiet_of (cS.out _ ?_ ?_); (intro a; rw [cell_drewN, HV.out]); rw [heap_drewN, HZ.out]))
  replace HV := hid (fun a => (cell_drewN V4 nq a).trans (HV.out a))
  replace HZ := hid (show (V4.drewN nq).heap.size = w.heap.size from by rw [heap_drewN, HZ.out])
  replace HE := hid (show ∃ n, V4.drewN nq = w.drewN n from by obtain ⟨m, hm⟩ := HE.out; exact ⟨_, by rw [hm, World.drewN_drewN]⟩)
  rw [← cell_drewN V4 nq] at k0 k1 k2 k3 k4 k5 k6 j0 j1 j2 j3 j4 j5 j6
  generalize V4.drewN nq = V5 at *
  go_wp2
  go_quiet ((go_at_call 22; refine Calls.quiet_of (cR.out _ ?_ ?_); (intro a; rw [cell_drewN, HV.out]); rw [heap_drewN, HZ.out]))
  replace HV := hid (fun a => (cell_drewN V5 nq a).trans (HV.out a))
  replace HZ := hid (show (V5.drewN nq).heap.size = w.heap.size from by rw [heap_drewN, HZ.out])
  replace HE := hid (show ∃ n, V5.drewN nq = w.drewN n from by obtain ⟨m, hm⟩ := HE.out; exact ⟨_, by rw [hm, World.drewN_drewN]⟩)
  rw [← cell_drewN V5 nq] at k0 k1 k2 k3 k4 k5 k6 j0 j1 j2 j3 j4 j5 j6
  generalize V5.drewN nq = V6 at *
  go_wp2
  go_quiet (fail)
  go_wp2
  go_ret
  refine ⟨rfl, ?_⟩
  obtain ⟨m, hm⟩ := HE.out
  exact ⟨_, by rw [hm, World.drewN_drewN]⟩

end Go.Proofs.YtogbomihnhfaiaaDoor

namespace Go.Proofs.YtogbomihnhfaiaaDoor
open Go.RowKit

set_option maxHeartbeats 1000000 in
theorem linkRead_any (s : ByteArray) (w : World) (ht : Tabs w) (hs : s.size ≤ 1048576) :
    Calls Tryd.prog 7 #[.string s] w fun e w' => ReadRet w s e w' ∧ w.grownBy w' none := by
  have cR := hid (read_any s w ht hs)
  go_enter Tryd.func7, Tryd.ntmps7
  go_wp2_with fail
  refine cR.out.mono ?_
  rintro e w1 ⟨⟨o, g, hr, hv, rfl, hob, hg⟩ | ⟨hno, rfl⟩, hq⟩
  · have H := hid (show ReadRet w s (.returned (.tuple #[.pointer (some ⟨g, 0, none⟩), .int .i64 0])) w1 from .inl ⟨o, g, hr, hv, rfl, hob, hg⟩)
    have HQ := hid hq
    clear hr hv hob hg hq cR
    go_wp2
    go_ret2
    exact ⟨H.out, HQ.out⟩
  · have H := hid (show ReadRet w s (.returned (.tuple #[.pointer none, .int .i64 20])) w1 from .inr ⟨hno, rfl⟩)
    have HQ := hid hq
    clear hno hq cR
    go_wp2
    go_ret2
    exact ⟨H.out, HQ.out⟩

set_option maxHeartbeats 1000000 in
theorem linkWrite_yes (g : Nat) (o : Lk.Obj) (w : World) (ht : Tabs w) (h : ObjAt w g o) (hgood : Lk.goodObj o) (hv : Valid o) :
    Calls Tryd.prog 6 #[.pointer (some ⟨g, 0, none⟩)] w fun e w' => e = .returned (.tuple #[.string (bs (Lk.objB o)), .int .i64 0]) ∧ w.grownBy w' none := by
  have cR := hid (write_yes g o w ht h hgood hv)
  clear ht h hgood hv
  go_enter Tryd.func6, Tryd.ntmps6
  go_wp2_with fail
  refine cR.out.mono ?_
  rintro e w1 ⟨rfl, hq⟩
  have HQ := hid hq
  clear hq cR
  go_wp2
  go_ret2
  exact ⟨rfl, HQ.out⟩

set_option maxHeartbeats 1000000 in
theorem linkMembers_any (s : ByteArray) (w : World) (ht : Tabs w) (hs : s.size ≤ 1048576) :
    Calls Tryd.prog 10 #[.string s] w fun e w' => MembersRet (sl s) w.heap.size e w' ∧ w.grownBy w' none := by
  have cR := hid (members_any s w ht hs)
  go_enter Tryd.func10, Tryd.ntmps10
  go_wp2_with fail
  refine cR.out.mono ?_
  rintro e w1 ⟨⟨ms, v, ha, rfl, ho⟩ | ⟨hno, rfl⟩, hq⟩
  · obtain ⟨av, cv, rfl⟩ := own_form ho
    have H := hid (show MembersRet (sl s) w.heap.size (.returned (.tuple #[.slice av ms.length cv, .int .i64 0])) w1 from .inl ⟨ms, _, ha, rfl, ho⟩)
    have HQ := hid hq
    clear ha ho hq cR
    go_wp2
    go_ret2
    exact ⟨H.out, HQ.out⟩
  · have H := hid (show MembersRet (sl s) w.heap.size (.returned (.tuple #[.slice none 0 0, .int .i64 21])) w1 from .inr ⟨hno, rfl⟩)
    have HQ := hid hq
    clear hno hq cR
    go_wp2
    go_ret2
    exact ⟨H.out, HQ.out⟩

/-- what parsed gives -/
def ParsedRet (s : ByteArray) (e : Ending) (w' : World) : Prop :=
  (∃ g o, e = .returned (.tuple #[.pointer (some ⟨g, 0, none⟩), .bool true]) ∧ ObjAt w' g o ∧ Lk.goodObj o ∧ Valid o ∧ bs (Lk.objB o) = s) ∨ e = .returned (.tuple #[.pointer none, .bool true])

set_option maxHeartbeats 4000000 in
theorem parsed_any (s : ByteArray) (w : World) (ht : Tabs w) (hs : s.size ≤ 1048576) :
    Calls Tryd.prog 4 #[.string s] w fun e w' => ParsedRet s e w' ∧ w.grownBy w' none := by
  have cR := hid (linkRead_any s w ht hs)
  have cP := hid (fun W => parse_any s W hs)
  go_enter Tryd.func4, Tryd.ntmps4
  go_wp2_with fail
  refine cR.out.mono ?_
  rintro e w1 ⟨⟨o, g, hr, hv, rfl, hob, hg⟩ | ⟨hno, rfl⟩, hq⟩
  · obtain ⟨hio, hraw⟩ := isObj_of_read hr hv
    have HG := hid ((Lk.readObj_iff (sl s) o).1 hr)
    have HV := hid hv
    have HOB := hid hob
    have HQ := hid hq
    clear hr hv hob hg hq cR
    go_wp2_with fail
    refine (cP.out _).mono ?_
    rintro e w2 ⟨pr, hq2⟩
    unfold ParseRet at pr
    rcases pr with ⟨-, g2, rfl, ho2⟩ | ⟨hno, -⟩
    rotate_left
    · exact absurd hio hno
    rw [hraw] at ho2
    have HO1 := hid (HOB.out.kept hq2)
    have GQ := hid (grown_trans HQ.out hq2)
    have cS := hid (same_yes g g2 o w2 HO1.out ho2 (good_tame HG.out.1).1)
    clear hq2 ho2 hio hraw cP
    go_wp2_with fail
    refine cS.out.mono ?_
    rintro e w3 ⟨rfl, n, rfl⟩
    have GF := hid (grown_drewN GQ.out n)
    have HOF := hid (HO1.out.drewN n)
    clear cS
    go_wp2
    go_ret2
    exact ⟨.inl ⟨g, o, rfl, HOF.out, HG.out.1, HV.out, by rw [← HG.out.2, bs_sl]⟩, GF.out⟩
  · have hnio := not_isObj_of_read hno
    have HQ := hid hq
    clear hno hq cR
    go_wp2_with fail
    refine (cP.out _).mono ?_
    rintro e w2 ⟨pr, hq2⟩
    unfold ParseRet at pr
    rcases pr with ⟨hio, -⟩ | ⟨-, v, rfl⟩
    · exact absurd hio hnio
    have GQ := hid (grown_trans HQ.out hq2)
    clear hq2 hnio cP
    go_wp2
    go_ret2
    exact ⟨.inr rfl, GQ.out⟩

set_option maxHeartbeats 4000000 in
theorem unpacked_any (s : ByteArray) (w : World) (ht : Tabs w) (hs : s.size ≤ 1048576) :
    Calls Tryd.prog 5 #[.string s] w fun e w' => (∃ v, e = .returned (.tuple #[v, .bool true])) ∧ w.grownBy w' none := by
  have cR := hid (linkMembers_any s w ht hs)
  have cP := hid (fun W => unpack_any s W hs)
  go_enter Tryd.func5, Tryd.ntmps5
  go_wp2_with fail
  refine cR.out.mono ?_
  rintro e w1 ⟨⟨ms, v, ha, rfl, ho⟩ | ⟨hno, rfl⟩, hq⟩
  · obtain ⟨av, cv, rfl⟩ := own_form ho
    have HA := hid ha
    have HO := hid ho
    have HQ := hid hq
    clear ha ho hq cR
    go_wp2_with fail
    refine (cP.out _).mono ?_
    rintro e w2 ⟨⟨v2, b, rfl, hb, ho2⟩, hq2⟩
    rw [arch_raw HA.out] at hb ho2
    obtain rfl : b = true := hb.2 HA.out
    obtain ⟨av2, cv2, rfl⟩ := own_form ho2
    have GQ := hid (grown_trans HQ.out hq2)
    have cS := hid (sameTexts_yes av av2 cv cv2 ms w2 ((StrsIn.of_own HO.out).kept (fun a v hv => gcell hv hq2)) (StrsIn.of_own ho2) (by have := HA.out.1.2; omega))
    clear hq2 ho2 hb cP
    go_wp2_with fail
    refine cS.out.mono ?_
    rintro e w3 ⟨rfl, n, rfl⟩
    have GF := hid (grown_drewN GQ.out n)
    clear cS
    go_wp2
    go_ret2
    exact ⟨⟨_, rfl⟩, GF.out⟩
  · have HN := hid hno
    have HQ := hid hq
    clear hno hq cR
    go_wp2_with fail
    refine (cP.out _).mono ?_
    rintro e w2 ⟨⟨v2, b, rfl, hb, ho2⟩, hq2⟩
    have hb0 : b = false := by
      cases b
      · rfl
      · exact absurd (hb.1 rfl) (HN.out _)
    subst hb0
    obtain ⟨av2, cv2, rfl⟩ := own_form ho2
    have GQ := hid (grown_trans HQ.out hq2)
    clear hq2 ho2 hb cP
    go_wp2
    go_ret2
    exact ⟨⟨_, rfl⟩, GQ.out⟩

set_option maxHeartbeats 4000000 in
theorem files_any (s : ByteArray) (w : World) (ht : Tabs w) :
    Calls Tryd.prog 3 #[.string s] w fun e w' => e = .returned (.bool true) ∧ w.grownBy w' none := by
  by_cases hs : 1048576 < s.size
  · have d : decide (1048576 < (s.size : Int)) = true := by simp; omega
    clear ht
    go_enter Tryd.func3, Tryd.ntmps3
    go_wp2
    go_ret
    exact ⟨rfl, World.grownBy.refl _ _⟩
  have hs' : s.size ≤ 1048576 := by omega
  have d : decide (1048576 < (s.size : Int)) = false := by simp; omega
  have cP := hid (parsed_any s w ht hs')
  have cU := hid (fun W h => unpacked_any s W h hs')
  have HT := hid ht
  clear ht hs
  go_enter Tryd.func3, Tryd.ntmps3
  go_wp2_with fail
  refine cP.out.mono ?_
  rintro e w1 ⟨pr, hq⟩
  have HQ := hid hq
  have T1 := hid (HT.out.grown hq)
  clear hq cP
  rcases pr with ⟨g, o, rfl, hob, hgood, hv, hbo⟩ | rfl
  · have HOB := hid hob
    have HGD := hid hgood
    have HV := hid hv
    have HBO := hid hbo
    clear hob hgood hv hbo
    go_wp2_with fail
    refine (cU.out _ T1.out).mono ?_
    rintro e w2 ⟨⟨v, rfl⟩, hq2⟩
    have T2 := hid (T1.out.grown hq2)
    have GQ := hid (grown_trans HQ.out hq2)
    have cW := hid (linkWrite_yes g o w2 T2.out (HOB.out.kept hq2) HGD.out HV.out)
    clear hq2 cU
    rw [HBO.out] at cW
    go_wp2_with fail
    refine cW.out.mono ?_
    rintro e w3 ⟨rfl, hq3⟩
    have GF := hid (grown_trans GQ.out hq3)
    clear hq3 cW
    go_wp2
    go_ret
    exact ⟨rfl, GF.out⟩
  · go_wp2_with fail
    refine (cU.out _ T1.out).mono ?_
    rintro e w2 ⟨⟨v, rfl⟩, hq2⟩
    have GQ := hid (grown_trans HQ.out hq2)
    clear hq2 cU
    go_wp2
    go_ret
    exact ⟨rfl, GQ.out⟩

end Go.Proofs.YtogbomihnhfaiaaDoor

namespace Go.Proofs.YtogbomihnhfaiaaDoor
open Go.ChangeShapes Go.WideShapes Go.ChangeAt Go.RowKit

theorem ownKnobNone : ownKnob Tryd.prog.godebug = none := by kernel_rfl
theorem gForm : Tryd.prog.globalNamed "linker/instr.forms" = some 0 := by kernel_rfl
theorem gFix : Tryd.prog.globalNamed "linker/instr.fixed" = some 1 := by kernel_rfl
theorem gFormType : (Tryd.prog.globals[0]?).map (·.type) = some 114 := by kernel_rfl
theorem gFixType : (Tryd.prog.globals[1]?).map (·.type) = some 114 := by kernel_rfl
theorem cellsArr : Tryd.prog.cellsOf 114 = 26 := by kernel_rfl
theorem cellsInt : Tryd.prog.cellsOf 3 = 1 := by kernel_rfl

/-- what the row's list gives: the tables -/
theorem tabs_of_laid {W : World} (h : laidMetH Tryd.prog Rows.filesRow.laid W) : Tabs W := by
  have h' : laidMet Tryd.prog [("linker/instr.forms", Lib.tabData .i64 formL), ("linker/instr.fixed", Lib.tabData .i64 fixedL)] W := h
  have t1 : Lib.TabIs Tryd.prog W "linker/instr.forms" .i64 formL := Lib.tabIs_of_head gForm gFormType Tryd.underlying114 Tryd.underlying3 cellsInt cellsArr h'
  have t2 : Lib.TabIs Tryd.prog W "linker/instr.fixed" .i64 fixedL := by
    obtain ⟨ps, ⟨g', t', cs, fuel, p, q, hg', ht', hvar, hd, ⟨g2, t2, cs2, fuel2, p2, q2, hg2, ht2, hvar2, hd2, _, _⟩, _⟩, _⟩ := h'
    obtain rfl := Option.some.inj (gFix.symm.trans hg2)
    obtain rfl := Option.some.inj (gFixType.symm.trans ht2)
    unfold Lib.TabIs
    rw [hvar2, ← Lib.cells_of_tab Tryd.underlying114 Tryd.underlying3 cellsInt cellsArr hd2]
  exact ⟨fun i hi => t1.cell gForm i hi, fun i hi => t2.cell gFix i hi⟩

theorem kept_of_grown {W W' : World} (h : W.grownBy W' none) (may : MemPlace → Prop) : W.keptBut W' may := by
  refine World.keptBut_mono (fun _ f => f.elim) (?_ : W.keptBut W' (fun _ => False))
  refine ⟨h.os, h.output, fun i hi => ?_⟩
  rw [h.block i hi (by simp)]
  cases hb : W.heap[i]? with
  | none => trivial
  | some o => cases o <;> simp

set_option maxRecDepth 100000 in
theorem files_contract (H : Type) (enc : TypeId × Value → H) (W : World) (base : Nat) (args : Array Value) (ds gs : List (DataW H)) (before : List MemPlace)
    (hval : ∀ (j : Nat) t v, Tryd.f3.params[j]? = some t → args[j]? = some v → Value.okWide Tryd.prog W .any base t v)
    (hW : DataW.Whole enc Tryd.prog Tryd.f3.params.toList Rows.filesSpec.vars false W args.toList ds gs before) (hL : laidMetH Tryd.prog Rows.filesRow.laid W) :
    Calls Tryd.prog 3 args W fun e W' => ∃ v, e = .returned v ∧ Rows.filesSpec.post enc Tryd.prog Tryd.f3 false true false false W args v W' := by
  have hW' := hW
  obtain ⟨p, q, hA0, hV, rfl, hfz, hnd⟩ := hW
  have hA : DataW.TrodAll enc Tryd.prog W 0 (fun _ => true) true Tryd.f3.params.toList args.toList ds p := hA0
  rw [Tryd.params3] at hA hval
  obtain ⟨v0, vs0, d0, ds0, p0, q0, hargs, rfl, rfl, h0, r0⟩ := trodAll_cons hA
  obtain ⟨rfl, rfl, rfl⟩ := trodAll_nil r0
  obtain rfl : args = #[v0] := by cases args; simp_all
  obtain ⟨rfl, rfl⟩ := trodVars_none hV
  have hv : Value.okWide Tryd.prog W .any base 9 v0 := hval 0 9 v0 rfl rfl
  obtain ⟨s, rfl, rfl, rfl, hs⟩ := ChangeMaps.open_string (t := 9) Tryd.underlying9 hv h0
  clear hA0
  simp only [List.append_nil] at hW'
  refine (files_any s W (tabs_of_laid hL)).mono fun e W' ⟨he, hg⟩ => ?_
  subst he
  exact ⟨_, rfl, _, _, _, [], [], [], hW', trodAll_cons_mk (shut_bool Tryd.underlying4 _) trodAll_mk0, trodAll_cons_mk (ChangeMaps.shut_string Tryd.underlying9 hs) trodAll_mk0, rfl, kept_of_grown hg _, fun h => by cases h⟩

/-- a world for the witness: the settled one, the tables holding what is laid -/
def tabObj (zs : List Int) : Obj → Obj
  | .cells _ t frozen => .cells (zs.map (Value.int .i64)).toArray t frozen
  | o => o
noncomputable def laidWorld (os : Os) : World :=
  { World.holding Tryd.prog os ⟨#[], #[], []⟩ with heap := ((World.holding Tryd.prog os ⟨#[], #[], []⟩).heap.modify 0 (tabObj formL)).modify 1 (tabObj fixedL) }
theorem laid_met (os : Os) : laidMet Tryd.prog Rows.filesRow.laid ((laidWorld os).forCall (fun _ _ => 0) ⟨#[], #[.string ⟨#[]⟩], []⟩).memory :=
  laidMet_of_run' 8 (by kernel_rfl) (by kernel_rfl)
theorem witness_reads (os : Os) {H : Type} (enc : TypeId × Value → H) : ∃ places, DataW.whole enc Tryd.prog ((laidWorld os).forCall (fun _ _ => 0) ⟨#[], #[.string ⟨#[]⟩], []⟩).memory Tryd.f3.params.toList Rows.filesSpec.vars false #[Value.string ⟨#[]⟩].toList 8 = some ([.lit (.string [])], [], places) :=
  ⟨[], by kernel_rfl⟩

set_option maxRecDepth 100000 in
theorem files_lifted (os : Os) (started : os.Started) (H : Type) (enc : TypeId × Value → H) (F : Stop.Interp) :
    ReturnsInHanded {} Tryd.checked os 3 .any ((OpenSpec.ofChange Rows.filesSpec).preRow enc Tryd.prog Tryd.f3 Rows.filesRow.domain false Rows.filesRow.laid) (((OpenSpec.ofChange Rows.filesSpec).at F).post enc Tryd.prog Tryd.f3 false true false false) := by
  obtain ⟨places, hx⟩ := witness_reads os enc
  refine returnsInHanded_of_row (C := Tryd.checked) (s := OpenSpec.ofChange Rows.filesSpec) ownKnobNone started (by kernel_rfl) Tryd.func3
    (witness_row_at (enc := enc) (C := Tryd.checked) false (laidWorld os) #[.string ⟨#[]⟩] rfl (by kernel_rfl) (by kernel_rfl) (by kernel_rfl)
      (OpenSpec.preRow_of_cond 8 hx (by kernel_rfl) (fun k hk => by cases hk) (by kernel_rfl) (laid_met os))) ?_
  intro W base args ds gs before hval hW _ _ _ hL _ _
  exact files_contract H enc W base args ds gs before hval hW hL

theorem files_said : Rows.FilesSaid :=
  OpenClaim.holds_of_cond 3 Tryd.f3 rfl rfl rfl rfl rfl rfl rfl ⟨rfl, rfl, rfl, rfl, rfl⟩ rfl rfl rfl rfl rfl (by kernel_rfl) Tryd.func3 (by kernel_rfl)
    (of_decide_eq_true (by kernel_rfl)) (by unfold Func.isWrapper; first | (rw [if_pos (by decide +kernel)]; kernel_rfl) | (rw [if_neg (by decide +kernel)]; exact ⟨rfl, rfl⟩))
    (fun os started H enc _ F => by rw [OpenClaim.pre_eq_preRow]; exact files_lifted os started H enc F)

theorem files_plain (f : FuncId) (fn : Func) (hf : Tryd.pinned.checked.prog.funcNamed "linker/linkerlaw.Files" = some f) (hfn : Tryd.pinned.checked.prog.funcs[f]? = some fn) :
    false = Tryd.pinned.checked.prog.looks [] ∧ ∀ (j : Nat) t, fn.params[j]? = some t → Tryd.pinned.checked.prog.wantsStandIn t = false := by
  obtain rfl : f = 3 := Option.some.inj ((show Tryd.prog.funcNamed "linker/linkerlaw.Files" = some 3 by kernel_rfl).symm.trans hf) |>.symm
  obtain rfl : fn = Tryd.f3 := (Option.some.inj (Tryd.func3.symm.trans hfn)).symm
  refine ⟨by kernel_rfl, fun j t ht => ?_⟩
  rw [Tryd.params3] at ht
  obtain rfl : t = 9 := by simpa using Array.mem_of_getElem? ht
  exact (show Tryd.prog.wantsStandIn 9 = false by kernel_rfl)

/-- the card -/
theorem files_card : Rows.FilesCardSaid :=
  Claim7.holds_tied_plain_at .later [] _ _ _ _ files_said (fun _ h => by cases h) (by kernel_rfl) (fun _ h => by cases h) files_row_tie rfl ⟨rfl, rfl⟩ (by kernel_rfl) rfl files_plain (by kernel_rfl)

end Go.Proofs.YtogbomihnhfaiaaDoor
