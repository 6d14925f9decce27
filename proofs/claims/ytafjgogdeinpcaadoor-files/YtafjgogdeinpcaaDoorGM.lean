/- The plain side: archives. -/
/- Walks over package archive: Members. -/
/- Walks over package archive: Members, the walk. -/
import Derived.Test.YtafjgogdeinpcaaDoorGL
import Derived.Test.YtafjgogdeinpcaaDoorGE
namespace Go.Proofs.YtafjgogdeinpcaaDoor
open Go.RowKit

def memB (m : List UInt8) : List UInt8 := Lk.le m.length 2 ++ m
def arB (ms : List (List UInt8)) : List UInt8 := [65, 82] ++ (Lk.le ms.length 1 ++ ms.flatMap memB)
def IsArch (l : List UInt8) (ms : List (List UInt8)) : Prop := (1 ≤ ms.length ∧ ms.length ≤ 6) ∧ (∀ m ∈ ms, IsObj m) ∧ arB ms = l

theorem not_isObj_nil : ¬ IsObj [] := fun h => by
  have := congrArg List.length h.2
  simp [Lk.objB] at this

/-- k members and where they end -/
def memsRaw (l : List UInt8) : Nat → List (List UInt8) × Nat
  | 0 => ([], 3)
  | k + 1 => ((memsRaw l k).1 ++ [cutL l ((memsRaw l k).2 + 2) (atL l (memsRaw l k).2 2).toNat], (memsRaw l k).2 + 2 + (atL l (memsRaw l k).2 2).toNat)
def rawMems (l : List UInt8) : List (List UInt8) := (memsRaw l (min (atL l 2 1).toNat 6)).1

theorem memsRaw_length (l : List UInt8) (k : Nat) : (memsRaw l k).1.length = k := by
  induction k with
  | zero => rfl
  | succ k ih => simp [memsRaw, ih]
theorem memsRaw_pos (l : List UInt8) (k : Nat) : (memsRaw l k).2 ≤ 3 + 65537 * k := by
  induction k with
  | zero => simp [memsRaw]
  | succ k ih =>
    have h := atL_range l (memsRaw l k).2 2
    simp only [memsRaw, Int.reducePow] at *
    omega
theorem memsRaw_short (l : List UInt8) (k : Nat) : ∀ m ∈ (memsRaw l k).1, m.length ≤ 65535 := by
  induction k with
  | zero => intro m hm; simp [memsRaw] at hm
  | succ k ih =>
    intro m hm
    simp only [memsRaw, List.mem_append, List.mem_singleton] at hm
    rcases hm with hm | rfl
    · exact ih m hm
    · have h := atL_range l (memsRaw l k).2 2
      simp only [Int.reducePow] at h
      simp only [cutL, List.length_take]
      omega

theorem memsRaw_on {l rest : List UInt8} {ms : List (List UInt8)} (h : l.drop 3 = ms.flatMap memB ++ rest) (hg : ∀ m ∈ ms, m.length ≤ 65535) (k : Nat) (hk : k ≤ ms.length) :
    memsRaw l k = (ms.take k, 3 + ((ms.take k).flatMap memB).length) := by
  induction k with
  | zero => rfl
  | succ k ih =>
    have hk' : k < ms.length := by omega
    have e : l.drop 3 = (ms.take k).flatMap memB ++ (memB ms[k] ++ ((ms.drop (k + 1)).flatMap memB ++ rest)) := by
      have e0 : ms = ms.take k ++ ms[k] :: ms.drop (k + 1) := by rw [← List.drop_eq_getElem_cons hk', List.take_append_drop]
      rw [h]
      refine (congrArg (fun z => List.flatMap memB z ++ rest) e0).trans ?_
      simp only [List.flatMap_append, List.flatMap_cons, List.append_assoc]
    have e2 := drop_on e
    have hm := hg _ (List.getElem_mem hk')
    unfold memB at e2
    rw [List.append_assoc] at e2
    have a0 : atL l (3 + ((ms.take k).flatMap memB).length) 2 = (ms[k].length : Int) := atL_on e2 (by omega) (by simp only [Int.reducePow]; omega)
    have e3 := drop_on e2
    rw [Lk.le_length] at e3
    have a1 := cutL_on e3
    simp only [memsRaw, ih (by omega)]
    rw [a0, Int.toNat_natCast]
    refine Prod.ext ?_ ?_
    · simp only
      rw [List.take_succ_eq_append_getElem hk']
      congr 2
    · simp only
      rw [List.take_succ_eq_append_getElem hk', List.flatMap_append, List.length_append]
      simp only [List.flatMap_cons, List.flatMap_nil, List.append_nil, memB, List.length_append, Lk.le_length]
      omega

theorem arch_raw {l : List UInt8} {ms : List (List UInt8)} (h : IsArch l ms) : rawMems l = ms := by
  obtain ⟨⟨h1, h2⟩, h3, h4⟩ := h
  have d0 : l.drop 0 = [65, 82] ++ (Lk.le ms.length 1 ++ ms.flatMap memB) := by rw [← h4]; rfl
  have d2 := drop_on d0
  have d3 := drop_on d2
  rw [Lk.le_length] at d3
  simp only [List.length_cons, List.length_nil, Nat.zero_add, Nat.reduceAdd] at d2 d3
  have a : atL l 2 1 = (ms.length : Int) := atL_on d2 (by omega) (by simp only [Int.reducePow]; omega)
  unfold rawMems
  rw [a, Int.toNat_natCast, Nat.min_eq_left h2, memsRaw_on (rest := []) (by rw [List.append_nil]; exact d3) (fun m hm => isObj_short (h3 m hm)) ms.length (Nat.le_refl _), List.take_length]

end Go.Proofs.YtafjgogdeinpcaaDoor

namespace Go.Proofs.YtafjgogdeinpcaaDoor
open Go.RowKit

theorem Tryd.infoStr : (Tryd.prog.info? 9).map (fun i => (i.zero, i.size, i.bytes)) = some (some (.string ⟨#[]⟩), 1, 16) := by kernel_rfl

theorem mem_step {l : List UInt8} {p : Nat} (hp : p ≤ l.length) (h : IsObj (Lk.rdText l (Lk.rdNum l 2 (p, false)).1.toNat (Lk.rdNum l 2 (p, false)).2).1) :
    ∃ m, Lk.rdText l (Lk.rdNum l 2 (p, false)).1.toNat (Lk.rdNum l 2 (p, false)).2 = (m, (p + 2 + m.length, false)) ∧ l.drop p = memB m ++ l.drop (p + 2 + m.length) ∧ p + 2 + m.length ≤ l.length := by
  by_cases h1 : 2 ≤ l.length - p
  · have e1 : Lk.rdNum l 2 (p, false) = (Lk.num ((l.drop p).take 2), (p + 2, false)) := by simp [Lk.rdNum, Lk.rdText, h1]
    rw [e1] at h ⊢
    simp only at h ⊢
    have hn := Lk.num_nonneg ((l.drop p).take 2)
    have hlen : ((l.drop p).take 2).length = 2 := by simp; omega
    have hle := Lk.le_num ((l.drop p).take 2)
    rw [hlen] at hle
    obtain ⟨n, hn'⟩ := Int.eq_ofNat_of_zero_le hn
    rw [hn'] at h hle ⊢
    simp only [Int.toNat_natCast] at h ⊢
    by_cases h2 : n ≤ l.length - (p + 2)
    · have hml : ((l.drop (p + 2)).take n).length = n := by simp; omega
      have e2 : Lk.rdText l n (p + 2, false) = ((l.drop (p + 2)).take n, (p + 2 + n, false)) := by simp [Lk.rdText, h2]
      refine ⟨(l.drop (p + 2)).take n, by rw [e2, hml], ?_, by rw [hml]; omega⟩
      rw [hml]
      unfold memB
      rw [hml, hle, List.append_assoc, ← List.drop_drop (i := n), List.take_append_drop, ← List.drop_drop (i := 2), List.take_append_drop]
    · have e2 : (Lk.rdText l n (p + 2, false)).1 = [] := by simp [Lk.rdText, h2]
      rw [e2] at h
      exact absurd h not_isObj_nil
  · have e1 : Lk.rdNum l 2 (p, false) = (0, (p, true)) := by simp [Lk.rdNum, Lk.rdText, h1, Lk.num]
    rw [e1] at h
    have e2 : (Lk.rdText l (0 : Int).toNat (p, true)).1 = [] := by simp [Lk.rdText]
    rw [e2] at h
    exact absurd h not_isObj_nil

theorem mem_on {l m rest : List UInt8} {p : Nat} (hp : p ≤ l.length) (h : l.drop p = memB m ++ rest) (hm : m.length ≤ 65535) : (Lk.rdText l (Lk.rdNum l 2 (p, false)).1.toNat (Lk.rdNum l 2 (p, false)).2).1 = m := by
  unfold memB at h
  rw [List.append_assoc] at h
  obtain ⟨a1, b1, c1, p1, d1⟩ := (Lk.reads_num l 2).on (st := (p, false)) hp rfl (x := (m.length : Int)) ⟨by omega, by simp only [Int.reducePow]; omega⟩ h
  rw [a1, Int.toNat_natCast]
  exact ((Lk.reads_text l m.length).on p1 b1 (x := m) rfl d1).1

set_option maxHeartbeats 1000000 in
theorem validCount_any (n : Int) (w : World) :
    Calls Tryd.prog 42 #[.int .i64 n] w fun e w' => Tells e (1 ≤ n ∧ n ≤ 6) ∧ w' = w := by
  go_enter Tryd.func42, Tryd.ntmps42
  by_cases h1 : 1 ≤ n
  · by_cases h2 : n ≤ 6
    · have d1 : decide (1 ≤ n) = true := by simpa using h1
      have d2 : decide (n ≤ 6) = true := by simpa using h2
      go_wp2
      go_ret
      exact ⟨Tells.yes ⟨h1, h2⟩, rfl⟩
    · have d1 : decide (1 ≤ n) = true := by simpa using h1
      have d2 : decide (n ≤ 6) = false := by simp; omega
      go_wp2
      go_ret
      exact ⟨Tells.no (fun h => by omega), rfl⟩
  · have d1 : decide (1 ≤ n) = false := by simp; omega
    go_wp2
    go_ret
    exact ⟨Tells.no (fun h => by omega), rfl⟩

set_option maxHeartbeats 1000000 in
theorem archObject_any (s : ByteArray) (w : World) (ht : Tabs w) (hs : s.size ≤ 1048576) :
    Calls Tryd.prog 43 #[.string s] w fun e w' => Tells e (IsObj (sl s)) ∧ w.grownBy w' none := by
  have cR := hid (read_any s w ht hs)
  go_enter Tryd.func43, Tryd.ntmps43
  go_wp2_with fail
  refine cR.out.mono ?_
  rintro e w1 ⟨⟨o, g, hr, hv, rfl, -, -⟩ | ⟨hno, rfl⟩, hq⟩
  · have H := hid (isObj_of_read hr hv).1
    have HQ := hid hq
    go_wp2
    go_ret
    exact ⟨Tells.yes H.out, HQ.out⟩
  · have H := hid (not_isObj_of_read hno)
    have HQ := hid hq
    go_wp2
    go_ret
    exact ⟨Tells.no H.out, HQ.out⟩

end Go.Proofs.YtafjgogdeinpcaaDoor

namespace Go.Proofs.YtafjgogdeinpcaaDoor
open Go.RowKit

/-- the strings of a list of files -/
def strV (ms : List (List UInt8)) : List Value := ms.map (fun m => Value.string (bs m))

/-- what Members gives -/
def MembersRet (l : List UInt8) (base : Nat) (e : Ending) (w' : World) : Prop :=
  (∃ ms v, IsArch l ms ∧ e = .returned (.tuple #[v, .int .i64 0]) ∧ w'.ownsRow base 9 1 v ms.length (strV ms)) ∨
  ((∀ ms, ¬ IsArch l ms) ∧ e = .returned (.tuple #[.slice none 0 0, .int .i64 21]))

set_option maxHeartbeats 8000000 in
theorem members_any (s : ByteArray) (w : World) (ht : Tabs w) (hs : s.size ≤ 1048576) :
    Calls Tryd.prog 23 #[.string s] w fun e w' => MembersRet (sl s) w.heap.size e w' ∧ w.grownBy w' none := by
  obtain ⟨i0, hi, hz0, hz1, hz2⟩ := info_parts Tryd.infoStr
  have HT := hid ht
  clear ht
  have hlen := sl_length s
  have l0 := rdText_le (sl s) 2 (0, false) (by rw [hlen]; omega)
  have c0 := fun W b h => text_lit b s 0 2 2 rfl false W h hs (Nat.zero_le _) (by omega)
  have HX0 := hid (Lk.reads_text (sl s) 2)
  have T0 := hid (show (Lk.rdText (sl s) 2 (0, false)).1 = [65, 82] → Lk.rdText (sl s) 2 (0, false) = ([65, 82], (2, false)) ∧ (sl s).drop 0 = [65, 82] ++ (sl s).drop 2 ∧ 2 ≤ (sl s).length from fun h => by
    unfold Lk.rdText at h ⊢
    simp only at h ⊢
    by_cases c : 2 ≤ (sl s).length - 0
    · rw [if_pos c] at h ⊢
      simp only at h ⊢
      refine ⟨by rw [h], ?_, by omega⟩
      rw [← h, List.drop_zero, List.take_append_drop]
    · rw [if_neg c] at h
      simp at h)
  have N0 := hid (show ∀ ms, IsArch (sl s) ms → (Lk.rdText (sl s) 2 (0, false)).1 = [65, 82] from fun ms h => (HX0.out.on (st := (0, false)) (Nat.zero_le _) rfl (x := [65, 82]) (rest := Lk.le ms.length 1 ++ ms.flatMap memB) rfl (by rw [← h.2.2]; rfl)).1)
  clear HX0
  rw [hlen] at l0
  generalize Lk.rdText (sl s) 2 (0, false) = x0 at *
  obtain ⟨mk, p0, s0⟩ := x0
  simp only at c0 T0 N0 l0
  have c1 := fun W b h => number_lit b s p0 1 1 rfl s0 W h hs l0 (by omega)
  have l1 := rdNum_le (sl s) 1 (p0, s0) (by rw [hlen]; exact l0)
  rw [hlen] at l1
  have b1 := rdNum_byte (sl s) 1 (p0, s0)
  simp only [Int.reducePow] at b1
  have T1 := hid (show mk = [65, 82] → 1 ≤ (Lk.rdNum (sl s) 1 (p0, s0)).1 → (Lk.rdNum (sl s) 1 (p0, s0)).2 = (3, false) ∧ (sl s).drop 0 = [65, 82] ++ (Lk.le (Lk.rdNum (sl s) 1 (p0, s0)).1 1 ++ (sl s).drop 3) ∧ 3 ≤ (sl s).length from fun hm h => by
    obtain ⟨e, d, hl2⟩ := T0.out hm
    simp only [Prod.mk.injEq] at e
    obtain ⟨-, rfl, rfl⟩ := e
    by_cases c : 1 ≤ (sl s).length - 2
    · have e1 : Lk.rdNum (sl s) 1 (2, false) = (Lk.num (((sl s).drop 2).take 1), (3, false)) := by simp [Lk.rdNum, Lk.rdText, c]
      rw [e1]
      have hle := Lk.le_num (((sl s).drop 2).take 1)
      rw [show (((sl s).drop 2).take 1).length = 1 from by simp; omega] at hle
      refine ⟨rfl, ?_, by omega⟩
      simp only
      rw [d, hle, show (sl s).drop 3 = ((sl s).drop 2).drop 1 from by rw [List.drop_drop], List.take_append_drop]
    · have e1 : Lk.rdNum (sl s) 1 (2, false) = (0, (2, true)) := by simp [Lk.rdNum, Lk.rdText, c, Lk.num]
      rw [e1] at h
      simp at h)
  have N1 := hid (show ∀ ms, IsArch (sl s) ms → (Lk.rdNum (sl s) 1 (p0, s0)).1 = (ms.length : Int) from fun ms h => by
    obtain ⟨e, d, hl2⟩ := T0.out (N0.out ms h)
    simp only [Prod.mk.injEq] at e
    obtain ⟨-, rfl, rfl⟩ := e
    have d0 : (sl s).drop 0 = [65, 82] ++ (Lk.le ms.length 1 ++ ms.flatMap memB) := by rw [← h.2.2]; rfl
    exact ((Lk.reads_num (sl s) 1).on (st := (2, false)) hl2 rfl (x := (ms.length : Int)) (rest := ms.flatMap memB) ⟨by omega, by have := h.1.2; simp only [Int.reducePow]; omega⟩ (drop_on d0)).1)
  generalize Lk.rdNum (sl s) 1 (p0, s0) = x1 at *
  obtain ⟨cnt, p1, s1⟩ := x1
  simp only at c1 T1 N1 l1 b1
  have C0 := hid c0
  have C1 := hid c1
  clear c0 c1
  have HLN := hid hlen
  clear hlen
  have cV := hid (fun W => validCount_any cnt W)
  go_enter Tryd.func23, Tryd.ntmps23
  go_wp2_with fail
  refine (newReader_any s w).mono ?_
  rintro e W1 ⟨rfl, g1⟩
  have R : RdAt (W1.alloc (.cells #[.string s, .int .i64 0, .bool false] 68)) W1.heap.size s 0 false := heap_alloc_new W1 _
  have HR := hid R
  have G1 := hid (grown_trans g1 (World.grownBy_alloc W1 (.cells #[.string s, .int .i64 0, .bool false] 68) none))
  have hbw : w.heap.size ≤ W1.heap.size := g1.size
  clear R g1
  generalize hb : W1.heap.size = b at *
  go_wp2_with fail
  refine (C0.out _ b HR.out).mono ?_
  rintro e W2 ⟨rfl, r2, g2⟩
  have R2 := hid r2
  have G2 := hid (grown_above G1.out g2 hbw)
  clear r2 g2 HR G1 hb
  go_wp2_with fail
  refine (C1.out _ b R2.out).mono ?_
  rintro e W3 ⟨rfl, r3, g3⟩
  have R3 := hid r3
  have G3 := hid (grown_above G2.out g3 hbw)
  clear r3 g3 R2 G2
  have HTB := hid (toList_bs mk)
  by_cases c : mk = [65, 82]
  rotate_left
  · have d : ((bs mk).toList == [65, 82]) = false := by rw [HTB.out, beq_eq_false_iff_ne]; exact c
    have CC := hid c
    clear c
    go_wp2
    go_ret2
    exact ⟨.inr ⟨fun ms h => CC.out (N0.out ms h), rfl⟩, G3.out⟩
  have d : ((bs mk).toList == [65, 82]) = true := by rw [HTB.out, beq_iff_eq]; exact c
  have CC := hid c
  clear c
  go_wp2_with fail
  refine (cV.out _).mono ?_
  rintro e W4 ⟨t, rfl⟩
  rcases t.split with ⟨rfl, pv⟩ | ⟨rfl, pv⟩ <;> clear t
  · go_wp2
    go_ret2
    exact ⟨.inr ⟨fun ms h => pv.out (by rw [N1.out ms h]; have := h.1; omega), rfl⟩, G3.out⟩
  obtain ⟨hst, hd, hl3⟩ := T1.out CC.out pv.out.1
  simp only [Prod.mk.injEq] at hst
  obtain ⟨rfl, rfl⟩ := hst
  obtain ⟨n, rfl⟩ := Int.eq_ofNat_of_zero_le b1.1
  have HPV := hid pv.out
  have hn6 : n ≤ 6 := by have := pv.out.2; omega
  have HN1 := hid N1.out
  have A3 := hid (show ∀ ms, IsArch (sl s) ms → ms.length = n ∧ ∃ ms', ms = [] ++ ms' ∧ (sl s).drop 3 = ms'.flatMap memB from fun ms h => by
    refine ⟨by have := HN1.out ms h; omega, ms, rfl, ?_⟩
    have d0 : (sl s).drop 0 = [65, 82] ++ (Lk.le ms.length 1 ++ ms.flatMap memB) := by rw [← h.2.2]; rfl
    have := drop_on (drop_on d0)
    rw [Lk.le_length] at this
    exact this)
  have HD := hid hd
  clear hd hl3 pv N1 HN1 T0 T1 N0 C0 C1
  have hbs : W4.heap.size ≤ W4.heap.size := Nat.le_refl _
  have hblt : b < W4.heap.size := R3.out.lt
  have hw4 : w.heap.size ≤ W4.heap.size := G3.out.size
  go_wp2
  go_loopw [7, 8] (fun v i wr => ∃ (k : Nat) (acc : List (List UInt8)) (p : Nat), k ≤ n ∧ i = .int .i64 k ∧ acc.length = k ∧ p ≤ s.size ∧
      wr.ownsRow W4.heap.size 9 1 v k (strV acc) ∧ RdAt wr b s p false ∧ w.grownBy wr none ∧ W4.heap.size ≤ wr.heap.size ∧ (∀ m ∈ acc, IsObj m) ∧ (sl s).drop 3 = acc.flatMap memB ++ (sl s).drop p ∧
      ∀ ms, IsArch (sl s) ms → ms.length = n ∧ ∃ ms', ms = acc ++ ms' ∧ (sl s).drop p = ms'.flatMap memB) (fun _ i _ => n - (intOf i).toNat)
  case atStart => exact ⟨0, [], 3, Nat.zero_le _, rfl, rfl, l1, World.ownsRow_nil _ _ _ _, R3.out, G3.out, Nat.le_refl _, by simp, by simp, A3.out⟩
  case round =>
    obtain ⟨k, acc, p, hk, rfl, hacc, hp, hown, hrd, hgr, hsz, hall, hdr, har⟩ := hrel
    have HACC := hid hacc
    have HRD := hid hrd
    have HG := hid hgr
    have HALL := hid hall
    have HDR := hid hdr
    have HAR := hid har
    clear hacc hrd hgr hall hdr har
    by_cases hlt : k < n
    · have hlt' : (k : Int) < (n : Int) := by omega
      have hstep := hid (fun h => mem_step (l := sl s) (p := p) (by rw [HLN.out]; exact hp) h)
      have hon := hid (fun (m rest : List UInt8) h hm => mem_on (l := sl s) (m := m) (rest := rest) (p := p) (by rw [HLN.out]; exact hp) h hm)
      have k0 := hid (fun W h => number_lit b s p 2 2 rfl false W h hs hp (by omega))
      have r0 := rdNum_byte (sl s) 2 (p, false)
      have q0 := rdNum_le (sl s) 2 (p, false) (by rw [HLN.out]; exact hp)
      rw [HLN.out] at q0
      simp only [Int.reducePow] at r0
      generalize Lk.rdNum (sl s) 2 (p, false) = y0 at *
      obtain ⟨len, p2, s2⟩ := y0
      simp only at k0 r0 q0 hstep hon
      obtain ⟨len, rfl⟩ := Int.eq_ofNat_of_zero_le r0.1
      simp only [Int.toNat_natCast] at hstep hon
      have k1 := hid (fun W h => text_lit b s p2 len (len : Int) rfl s2 W h hs q0 (by omega))
      have q1 := rdText_le (sl s) len (p2, s2) (by rw [HLN.out]; exact q0)
      rw [HLN.out] at q1
      have q2 : (Lk.rdText (sl s) len (p2, s2)).1.length ≤ 65535 := by
        unfold Lk.rdText
        split
        · simp only [List.length_take]; omega
        · simp
      generalize Lk.rdText (sl s) len (p2, s2) = y1 at *
      obtain ⟨m, p3, s3⟩ := y1
      simp only at k1 q1 q2 hstep hon
      go_wp2_with fail
      refine (k0.out _ HRD.out).mono ?_
      rintro e U1 ⟨rfl, r1, g1⟩
      have RA := hid r1
      have GA := hid (grown_above HG.out g1 hbw)
      have hown1 := own_kept hown hblt g1
      have hsz1 := Nat.le_trans hsz g1.size
      clear r1 g1 hown hsz HRD HG k0
      go_wp2_with fail
      refine (k1.out _ RA.out).mono ?_
      rintro e U2 ⟨rfl, r1, g1⟩
      have RB := hid r1
      have GB := hid (grown_above GA.out g1 hbw)
      have hown2 := own_kept hown1 hblt g1
      have hsz2 := Nat.le_trans hsz1 g1.size
      clear r1 g1 hown1 hsz1 RA GA k1
      have cO := hid (archObject_any (bs m) U2 (HT.out.grown GB.out) (by show m.length ≤ 1048576; omega))
      rw [sl_bs] at cO
      go_wp2_with fail
      refine cO.out.mono ?_
      rintro e U3 ⟨t, g1⟩
      have RC := hid (RB.out.grown g1 (by simp))
      have GC := hid (grown_trans GB.out g1)
      have hown3 := hown2.kept g1 (by cases (Value.ownBlock _) <;> simp)
      have hsz3 := Nat.le_trans hsz2 g1.size
      rcases t.split with ⟨rfl, pv⟩ | ⟨rfl, pv⟩ <;> clear t g1 hown2 hsz2 RB GB cO
      · have NA := hid (show ∀ ms, ¬ IsArch (sl s) ms from fun ms h => by
          obtain ⟨h1, ms', h2, h3⟩ := HAR.out ms h
          have h4 := HACC.out
          match ms', h2, h3 with
          | [], h2, _ => rw [h2] at h1; simp at h1; omega
          | m' :: ms'', h2, h3 =>
            have hm' : IsObj m' := h.2.1 m' (by rw [h2]; simp)
            have e := hon.out m' (ms''.flatMap memB) (by rw [h3]; rfl) (isObj_short hm')
            subst e
            exact pv.out hm')
        clear pv
        go_wp2
        go_ret2
        exact ⟨.inr ⟨NA.out, rfl⟩, GC.out⟩
      · obtain ⟨m', he, hdp, hle⟩ := hstep.out pv.out
        simp only [Prod.mk.injEq] at he
        obtain ⟨rfl, rfl, rfl⟩ := he
        rw [HLN.out] at hle
        have HDP := hid hdp
        have HPV2 := hid pv.out
        have HAR2 := hid (show ∀ ms, IsArch (sl s) ms → ms.length = n ∧ ∃ ms', ms = (acc ++ [m]) ++ ms' ∧ (sl s).drop (p + 2 + m.length) = ms'.flatMap memB from fun ms h => by
          obtain ⟨h1, ms', h2, h3⟩ := HAR.out ms h
          refine ⟨h1, ?_⟩
          have h4 := HACC.out
          match ms', h2, h3 with
          | [], h2, _ => rw [h2] at h1; simp at h1; omega
          | m' :: ms'', h2, h3 =>
            have hm' : IsObj m' := h.2.1 m' (by rw [h2]; simp)
            have e := hon.out m' (ms''.flatMap memB) (by rw [h3]; rfl) (isObj_short hm')
            subst e
            refine ⟨ms'', by rw [h2]; simp, ?_⟩
            rw [HDP.out] at h3
            exact List.append_cancel_left h3)
        clear pv hdp hstep hon
        have hacc2 : acc.length ≤ 6 := by have := HACC.out; omega
        go_wp2_with (at_builtin; refine wpList_append_own _ rfl _ _ 25 rfl W4.heap.size 9 i0 (.string ⟨#[]⟩) 1 16 Tryd.underlying25 hi hz0 hz1 hz2 rfl (by decide) _ _ _ rfl (hown3.alloc _) ⟨U3.heap.size, 0, none⟩ 1 1 [.string (bs m)] rfl rfl (cell_one_new _ _ _) (by intro u hu; simp at hu; subst hu; rfl) (by unfold maxLen; omega) (by omega) (by simp; omega) ?_; intro v' w3 hown' hgrow _)
        have K1 := hid (show w3.ownsRow W4.heap.size 9 1 v' (k + 1) (strV (acc ++ [m])) from by unfold strV; rw [List.map_append]; exact hown')
        have K2 := hid ((RC.out.grown (World.grownBy_alloc _ _ none) (by simp)).grown hgrow (fun e => by have := (hown3.lt b e.symm).1; omega))
        have K3 := hid (show w.grownBy w3 none from by
          cases hob : Value.ownBlock _ with
          | none => rw [hob] at hgrow; exact grown_trans (grown_trans GC.out (World.grownBy_alloc _ _ none)) hgrow
          | some bb => rw [hob] at hgrow; exact grown_above (grown_trans GC.out (World.grownBy_alloc _ _ none)) hgrow (by have := (hown3.lt bb hob).1; omega))
        have K4 := hid (show W4.heap.size ≤ w3.heap.size from by have := hgrow.size; simp at this; omega)
        clear hgrow hown' hown3
        go_wp2
        go_roundw
        case rel => exact ⟨k + 1, acc ++ [m], p + 2 + m.length, by omega, by go_num, by simp [HACC.out], hle, K1.out, K2.out, K3.out, K4.out, fun x hx => (List.mem_append.1 hx).elim (HALL.out x) (fun h => by rw [List.mem_singleton.1 h]; exact HPV2.out), by rw [HDR.out, HDP.out]; simp, HAR2.out⟩
        case measure => simp [intOf]; omega
    · obtain rfl : k = n := by omega
      have cD := hid (done_any b s p false wr HRD.out)
      go_wp2_with fail
      refine cD.out.mono ?_
      rintro e U1 ⟨he, kd, rfl⟩
      by_cases c : p = s.size
      · rw [show (!false && decide (p = s.size)) = true from by simp [c]] at he
        subst he
        have AR := hid (show IsArch (sl s) acc from ⟨by have := HPV.out; have := HACC.out; omega, HALL.out, by
          have e1 := HDR.out
          have e0 : (sl s).drop p = [] := List.drop_of_length_le (by rw [HLN.out]; omega)
          rw [e0, List.append_nil] at e1
          unfold arB
          rw [← e1, HACC.out]
          exact HD.out.symm⟩)
        have HO := hid (own_base hown hw4)
        obtain ⟨av, cv, rfl⟩ := own_form hown
        clear c hown
        go_wp2
        go_ret2
        refine ⟨.inl ⟨acc, _, AR.out, rfl, ?_⟩, grown_drewN HG.out _⟩
        rw [HACC.out]
        exact HO.out.kept (grown_drewN (World.grownBy.refl _ none) kd) (by cases (Value.ownBlock _) <;> simp)
      · rw [show (!false && decide (p = s.size)) = false from by simp [c]] at he
        subst he
        have NA := hid (show ∀ ms, ¬ IsArch (sl s) ms from fun ms h => by
          obtain ⟨h1, ms', h2, h3⟩ := HAR.out ms h
          have h4 := HACC.out
          rw [h2] at h1
          simp only [List.length_append] at h1
          have h5 : ms' = [] := List.eq_nil_of_length_eq_zero (by omega)
          rw [h5] at h3
          have h6 := congrArg List.length h3
          simp only [List.flatMap_nil, List.length_nil, List.length_drop, HLN.out] at h6
          omega)
        clear c
        go_wp2
        go_ret2
        exact ⟨.inr ⟨NA.out, rfl⟩, grown_drewN HG.out _⟩

end Go.Proofs.YtafjgogdeinpcaaDoor
