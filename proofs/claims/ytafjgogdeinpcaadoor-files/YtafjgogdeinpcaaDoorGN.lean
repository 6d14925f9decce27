/- Walks over the document's answer: Archive, Unpack. -/
/- Walks over the law: lists that are the same. -/
/- Walks over the law: objects that are the same; what Read and Parse say of the same bytes. -/
/- Walks over the law: Read and Parse, Members and Unpack of the same bytes; Files. -/
import Derived.Test.YtafjgogdeinpcaaDoorHP3
import Derived.Test.YtafjgogdeinpcaaDoorGM
import Derived.Test.YtafjgogdeinpcaaDoorGF
namespace Go.Proofs.YtafjgogdeinpcaaDoor
open Go.RowKit

/-- a list of strings at ao -/
def StrsIn (w : World) (ao : Option Addr) (ms : List (List UInt8)) : Prop :=
  0 < ms.length → ∃ g off, ao = some ⟨g, off, none⟩ ∧ ∀ i (h : i < ms.length), w.cell? ⟨g, off + i, none⟩ = some (.string (bs ms[i]))

theorem StrsIn.of_own {w : World} {base : Nat} {ao : Option Addr} {n cap : Nat} {ms : List (List UInt8)} (h : w.ownsRow base 9 1 (.slice ao n cap) n (strV ms)) : StrsIn w ao ms := by
  intro h0
  have hn : ms.length = n := by have := h.1; simpa [strV] using this
  rcases h.2 with ⟨h1, h2⟩ | ⟨g, cap', cur, hv, _⟩
  · simp at h1; omega
  · simp only [Value.slice.injEq] at hv
    obtain ⟨rfl, _, rfl⟩ := hv
    refine ⟨g, 0, rfl, fun i hi => ?_⟩
    have := h.cellAt i (by omega)
    rw [Nat.zero_add, this]
    simp [strV, hi]

theorem StrsIn.kept {w w' : World} {ao : Option Addr} {ms : List (List UInt8)} (h : StrsIn w ao ms) (hc : ∀ a v, w.cell? a = some v → w'.cell? a = some v) : StrsIn w' ao ms := by
  intro h0
  obtain ⟨g, off, h1, h2⟩ := h h0
  exact ⟨g, off, h1, fun i hi => hc _ _ (h2 i hi)⟩

theorem ar_append (b : List UInt8) : (⟨#[65, 82]⟩ : ByteArray) ++ bs b = bs ([65, 82] ++ b) := bs_append [65, 82] b

/-- may they be members? -/
def MemsOk (ms : List (List UInt8)) : Prop := (1 ≤ ms.length ∧ ms.length ≤ 6) ∧ ∀ m ∈ ms, IsObj m

def ArchRet (ms : List (List UInt8)) (e : Ending) : Prop :=
  (MemsOk ms ∧ e = .returned (.tuple #[.string (bs (arB ms)), .bool true])) ∨ (¬ MemsOk ms ∧ e = .returned (.tuple #[.string ⟨#[]⟩, .bool false]))

theorem flatM_le (k : Nat) (ms : List (List UInt8)) (h : ∀ m ∈ ms, m.length ≤ 65535) : ((ms.take k).flatMap memB).length ≤ 65537 * (ms.take k).length :=
  flatB_le memB 65537 _ fun m hm => by
    have := h m (List.mem_of_mem_take hm)
    simp only [memB, List.length_append, Lk.le_length]
    omega

set_option maxRecDepth 100000 in
set_option maxHeartbeats 8000000 in
theorem archive_any (ao : Option Addr) (cap : Nat) (ms : List (List UInt8)) (w : World) (hI : StrsIn w ao ms) (hm : ∀ m ∈ ms, m.length ≤ 65535) (hn : ms.length ≤ 65535) :
    Calls Tryd.prog 24 #[.slice ao ms.length cap] w fun e w' => ArchRet ms e ∧ w.grownBy w' none := by
  have HI := hid hI
  have HM := hid hm
  have RF := hid (World.grownBy.refl w none)
  have HOK := hid (show MemsOk ms ↔ (1 ≤ ms.length ∧ ms.length ≤ 6) ∧ ∀ m ∈ ms, IsObj m from Iff.rfl)
  have no : Hid (∀ W, ¬ MemsOk ms → w.grownBy W none → ArchRet ms (.returned (.tuple #[.string ⟨#[]⟩, .bool false])) ∧ w.grownBy W none) := fun W a b => ⟨.inr ⟨a, rfl⟩, b⟩
  clear hI hm
  go_enter Tryd.func24, Tryd.ntmps24
  by_cases c : ms.length < 1
  · have d : decide ((ms.length : Int) < 1) = true := by simp; omega
    have CC := hid (show ¬ MemsOk ms from fun h => by have := h.1.1; omega)
    clear c
    go_wp2
    go_ret2
    exact no.out _ CC.out RF.out
  have d1 : decide ((ms.length : Int) < 1) = false := by simp; omega
  by_cases c6 : 6 < ms.length
  · have d : decide (6 < (ms.length : Int)) = true := by simp; omega
    have CC := hid (show ¬ MemsOk ms from fun h => by have := h.1.2; omega)
    clear c
    go_wp2
    go_ret2
    exact no.out _ CC.out RF.out
  have d2 : decide (6 < (ms.length : Int)) = false := by simp; omega
  have HLEN := hid (show 1 ≤ ms.length ∧ ms.length ≤ 6 from by omega)
  clear c
  have cL := hid (fun W => le_lit (ms.length : Int) 1 1 rfl W (by omega))
  have y0 := le_sz (ms.length : Int) 1 (by decide)
  go_wp2_with fail
  refine (cL.out _).mono ?_
  rintro e w1 ⟨rfl, q1⟩
  have G1 := hid q1
  clear q1
  go_wp2
  obtain ⟨p1, hp1⟩ : ∃ p1, p1 = [65, 82] ++ Lk.le ms.length 1 := ⟨_, rfl⟩
  have HP1 := hid hp1
  have hl1 : p1.length = 3 := by rw [hp1]; simp [Lk.le_length]
  have HL1 := hid hl1
  clear hp1 hl1
  go_loopw [4, 5] (fun t i wr => ∃ k : Nat, k ≤ ms.length ∧ i = .int .i64 k ∧ (∃ acc : List UInt8, t = .string (bs acc) ∧ acc = p1 ++ (ms.take k).flatMap memB) ∧ (∀ j (hj : j < ms.length), j < k → IsObj ms[j]) ∧ w.grownBy wr none) (fun _ i _ => ms.length - (intOf i).toNat)
  case atStart =>
    refine ⟨0, Nat.zero_le _, rfl, ⟨p1, ?_, by simp⟩, fun j _ hj => absurd hj (Nat.not_lt_zero j), G1.out⟩
    rw [HP1.out, ← ar_append]
  case round =>
    obtain ⟨k, hk, rfl, ⟨acc, rfl, hae⟩, hall, hgr⟩ := hrel
    have HAE := hid hae
    have HALL := hid hall
    have HG := hid hgr
    have hla : acc.length ≤ 3 + 65537 * 6 := by
      have := flatM_le k ms HM.out
      have h2 := HL1.out
      rw [List.length_take] at this
      rw [hae, List.length_append]
      omega
    clear hae hall hgr
    by_cases hlt : k < ms.length
    · have hlt' : (k : Int) < (ms.length : Int) := by omega
      obtain ⟨g, off, hao, hc⟩ := (HI.out.kept (fun a v hv => gcell hv HG.out)) (by omega)
      subst hao
      have hck := hc k hlt
      clear hc
      have HC0 := hid hck
      have hmk := HM.out _ (List.getElem_mem hlt)
      have HTK := hid (show (ms.take (k + 1)).flatMap memB = (ms.take k).flatMap memB ++ (Lk.le ms[k].length 2 ++ ms[k]) from by
        rw [List.take_succ_eq_append_getElem hlt, List.flatMap_append]
        simp only [List.flatMap_cons, List.flatMap_nil, List.append_nil, memB])
      have HNO := hid (show ¬ IsObj ms[k] → ¬ MemsOk ms from fun h a => h (a.2 _ (List.getElem_mem hlt)))
      have HYES := hid (show IsObj ms[k] → ∀ j (hj : j < ms.length), j < k + 1 → IsObj ms[j] from fun h j hj hjk => (Nat.lt_succ_iff_lt_or_eq.1 hjk).elim (fun h => HALL.out j hj h) (fun e => by subst e; exact h))
      generalize ms[k] = m at *
      have cP := hid (fun W => parse_any (bs m) W (by rw [bs_size]; omega))
      have cL2 := hid (fun W => le_lit ((bs m).size : Int) 2 2 rfl W (by omega))
      have HSZ := hid (bs_size m)
      go_wp2_with fail
      refine (cP.out _).mono ?_
      rintro e w2 ⟨pr, q2⟩
      have G2 := hid (grown_trans HG.out q2)
      have ck2 := gcell HC0.out q2
      clear q2
      unfold ParseRet at pr
      rw [sl_bs] at pr
      rcases pr with ⟨ho, gp, rfl, -⟩ | ⟨ho, v, rfl⟩
      · have HO := hid ho
        clear ho
        go_wp2_with fail
        refine (cL2.out _).mono ?_
        rintro e w3 ⟨rfl, q3⟩
        have G3 := hid (grown_trans G2.out q3)
        have ck3 := gcell ck2 q3
        have y1 := bs_sz acc (3 + 65537 * 6) hla
        have y2 := le_sz ((bs m).size : Int) 2 (by decide)
        have y3 := bs_sz m 65535 hmk
        clear q3
        go_wp2
        go_roundw
        case rel => exact ⟨k + 1, by omega, by go_num, ⟨acc ++ (Lk.le m.length 2 ++ m), by rw [HSZ.out, bs_append, bs_append, List.append_assoc], by rw [HTK.out, HAE.out, List.append_assoc]⟩, HYES.out HO.out, G3.out⟩
        case measure => simp [intOf]; omega
      · have CC := hid (HNO.out ho)
        clear ho
        go_wp2
        go_ret2
        exact no.out _ CC.out G2.out
    · obtain rfl : k = ms.length := by omega
      have HOKY := hid (show MemsOk ms from ⟨HLEN.out, fun m hm => by obtain ⟨i, hi, rfl⟩ := List.getElem_of_mem hm; exact HALL.out i hi hi⟩)
      have HAR := hid (show arB ms = acc from by rw [HAE.out, HP1.out, List.take_length]; unfold arB; rw [List.append_assoc])
      go_wp2
      go_ret2
      exact ⟨.inl ⟨HOKY.out, by rw [HAR.out]; rfl⟩, HG.out⟩

/-- what Unpack gives -/
def UnpackRet (l : List UInt8) (base : Nat) (e : Ending) (w' : World) : Prop :=
  ∃ v b, e = .returned (.tuple #[v, .bool b]) ∧ (b = true ↔ IsArch l (rawMems l)) ∧ w'.ownsRow base 9 1 v (rawMems l).length (strV (rawMems l))

set_option maxRecDepth 100000 in
set_option maxHeartbeats 8000000 in
theorem unpack_any (s : ByteArray) (w : World) (hs : s.size ≤ 1048576) :
    Calls Tryd.prog 11 #[.string s] w fun e w' => UnpackRet (sl s) w.heap.size e w' ∧ w.grownBy w' none := by
  obtain ⟨i0, hi, hz0, hz1, hz2⟩ := info_parts Tryd.infoStr
  have q2 := atL_range (sl s) 2 1
  simp only [Int.reducePow] at q2
  have a2 := hid (fun W => at_lit s 2 1 2 1 rfl rfl W hs (by omega) (by omega))
  have RAW := hid (show rawMems (sl s) = (memsRaw (sl s) (min (atL (sl s) 2 1).toNat 6)).1 from rfl)
  obtain ⟨n, hn⟩ := Int.eq_ofNat_of_zero_le q2.1
  rw [hn] at q2 a2 RAW
  rw [Int.toNat_natCast] at RAW
  clear hn
  have HPS := hid (memsRaw_pos (sl s))
  have HSH := hid (memsRaw_short (sl s))
  have HLN := hid (memsRaw_length (sl s))
  go_enter Tryd.func11, Tryd.ntmps11
  go_wp2_with fail
  refine (a2.out _).mono ?_
  rintro e V ⟨rfl, rfl⟩
  go_wp2
  go_loopw [4, 6, 7] (fun v p i wr => ∃ k : Nat, k ≤ n ∧ k ≤ 6 ∧ i = .int .i64 k ∧ p = .int .i64 ((memsRaw (sl s) k).2 : Int) ∧ wr.ownsRow V.heap.size 9 1 v k (strV (memsRaw (sl s) k).1) ∧ V.grownBy wr none) (fun _ _ i _ => 6 - (intOf i).toNat)
  case atStart => exact ⟨0, Nat.zero_le _, Nat.zero_le _, rfl, rfl, World.ownsRow_nil _ _ _ _, World.grownBy.refl _ _⟩
  case round =>
    obtain ⟨k, hk, hk6, rfl, rfl, hown, hgr⟩ := hrel
    obtain ⟨av, cv, rfl⟩ := own_form hown
    have HG := hid hgr
    have hsz := hgr.size
    have hpos := HPS.out k
    clear hgr
    by_cases hlt : k < n ∧ k < 6
    · obtain ⟨hlt1, hlt2⟩ := hlt
      have e1 : decide ((k : Int) < (n : Int)) = true := by simp; omega
      have e2 : decide ((k : Int) < 6) = true := by simp; omega
      have HE := hid (show (memsRaw (sl s) (k + 1)).1 = (memsRaw (sl s) k).1 ++ [cutL (sl s) ((memsRaw (sl s) k).2 + 2) (atL (sl s) (memsRaw (sl s) k).2 2).toNat] from rfl)
      have HP := hid (show (memsRaw (sl s) (k + 1)).2 = (memsRaw (sl s) k).2 + 2 + (atL (sl s) (memsRaw (sl s) k).2 2).toNat from rfl)
      generalize (memsRaw (sl s) k).2 = p at *
      have rn := atL_range (sl s) p 2
      simp only [Int.reducePow] at rn
      have b0 := hid (fun W => at_lit s p 2 (p : Int) 2 rfl rfl W hs (by omega) (by omega))
      obtain ⟨len, hl⟩ := Int.eq_ofNat_of_zero_le rn.1
      rw [hl] at rn b0 HE HP
      rw [Int.toNat_natCast] at HE HP
      clear hl
      have b1 := hid (fun W => cut_lit s (p + 2) len ((p : Int) + 2) (len : Int) (by omega) rfl W hs (by omega) (by omega))
      generalize cutL (sl s) (p + 2) len = m at *
      go_wp2_with fail
      refine (b0.out _).mono ?_
      rintro e W1 ⟨rfl, rfl⟩
      go_wp2_with fail
      refine (b1.out _).mono ?_
      rintro e W2 ⟨rfl, rfl⟩
      go_wp2_with (at_builtin; refine wpList_append_own _ rfl _ _ 25 rfl V.heap.size 9 i0 (.string ⟨#[]⟩) 1 16 Tryd.underlying25 hi hz0 hz1 hz2 rfl (by decide) _ _ _ rfl (hown.alloc _) ⟨W2.heap.size, 0, none⟩ 1 1 [.string (bs m)] rfl rfl (cell_one_new _ _ _) (by intro u hu; simp at hu; subst hu; rfl) (by unfold maxLen; omega) (by omega) (by simp; omega) ?_; intro v' w3 hown' hgrow _)
      have K1 := hid (show w3.ownsRow V.heap.size 9 1 v' (k + 1) (strV (memsRaw (sl s) (k + 1)).1) from by unfold strV; rw [HE.out, List.map_append]; exact hown')
      have K3 := hid (show V.grownBy w3 none from by
        cases hob : Value.ownBlock _ with
        | none => rw [hob] at hgrow; exact grown_trans (grown_trans HG.out (World.grownBy_alloc _ _ none)) hgrow
        | some bb => rw [hob] at hgrow; exact grown_above (grown_trans HG.out (World.grownBy_alloc _ _ none)) hgrow (by have := (hown.lt bb hob).1; omega))
      clear hgrow hown' hown
      go_wp2
      go_roundw
      case rel => exact ⟨k + 1, by omega, by omega, by go_num, by rw [HP.out]; go_num, K1.out, K3.out⟩
      case measure => simp [intOf]; omega
    · have hke : k = min n 6 := by omega
      have HRW := hid (show rawMems (sl s) = (memsRaw (sl s) k).1 from by rw [hke]; exact RAW.out)
      have HL := HLN.out k
      have HM := HSH.out k
      rw [← HRW.out] at HL HM hown
      have cA := hid (fun W (h : StrsIn W av (rawMems (sl s))) => archive_any av cv (rawMems (sl s)) W h HM (by omega))
      rw [HL] at cA
      have HIA := hid (show IsArch (sl s) (rawMems (sl s)) ↔ MemsOk (rawMems (sl s)) ∧ arB (rawMems (sl s)) = sl s from ⟨fun h => ⟨⟨h.1, h.2.1⟩, h.2.2⟩, fun h => ⟨h.1.1, h.1.2, h.2⟩⟩)
      have HLL := hid HL
      have hkk : (k = 6 ∧ 6 < n) ∨ k = n := by omega
      clear HL HM hlt HSH HPS hpos HLN HRW RAW hke
      have fin : Hid (∀ W, V.grownBy W none → W.ownsRow V.heap.size 9 1 (.slice av k cv) k (strV (rawMems (sl s))) → ∀ b, (b = true ↔ IsArch (sl s) (rawMems (sl s))) → UnpackRet (sl s) V.heap.size (.returned (.tuple #[.slice av k cv, .bool b])) W ∧ V.grownBy W none) := fun W h1 h2 b h3 => ⟨⟨_, b, rfl, h3, by rw [HLL.out]; exact h2⟩, h1⟩
      generalize IsArch (sl s) (rawMems (sl s)) = QA at *
      have HSL := hid (show s.toList = sl s from ByteArray.toList_eq s)
      have HOW := hid hown
      clear hown
      generalize rawMems (sl s) = ms at *
      rcases hkk with ⟨rfl, hn6⟩ | rfl
      all_goals
        go_wp2_with fail
        refine (cA.out _ (StrsIn.of_own HOW.out)).mono ?_
        rintro e W2 ⟨ar, q⟩
        have GF := hid (grown_trans HG.out q)
        have HO2 := hid (HOW.out.kept q (by cases (Value.ownBlock _) <;> simp))
        clear q
        rcases ar with ⟨hok, rfl⟩ | ⟨hok, rfl⟩
        · have HTL := hid (toList_bs (arB ms))
          by_cases c : arB ms = sl s
          · have d : ((bs (arB ms)).toList == s.toList) = true := by rw [HTL.out, HSL.out, beq_iff_eq]; exact c
            have F := hid (fin.out W2 GF.out HO2.out true ⟨fun _ => HIA.out.2 ⟨hok, c⟩, fun _ => rfl⟩)
            clear c hok
            go_wp2
            go_ret2
            exact F.out
          · have d : ((bs (arB ms)).toList == s.toList) = false := by rw [HTL.out, HSL.out, beq_eq_false_iff_ne]; exact c
            have F := hid (fin.out W2 GF.out HO2.out false ⟨fun h => by simp at h, fun h => absurd (HIA.out.1 h).2 c⟩)
            clear c hok
            go_wp2
            go_ret2
            exact F.out
        · have F := hid (fin.out W2 GF.out HO2.out false ⟨fun h => by simp at h, fun h => absurd (HIA.out.1 h).1 hok⟩)
          clear hok
          go_wp2
          go_ret2
          exact F.out

end Go.Proofs.YtafjgogdeinpcaaDoor

namespace Go.Proofs.YtafjgogdeinpcaaDoor
open Go.RowKit

theorem cell_drewN (w : World) (n : Nat) (a : Addr) : (w.drewN n).cell? a = w.cell? a := by
  induction n generalizing w with
  | zero => rfl
  | succ n ih => exact ih w.drew

set_option maxHeartbeats 2000000 in
theorem sameInts_yes (ao bo : Option Addr) (ca cb : Nat) (xs : List Int) (w : World) (h1 : IntsIn w ao xs) (h2 : IntsIn w bo xs) (hn : xs.length ≤ 65535) :
    Calls Tryd.prog 20 #[.slice ao xs.length ca, .slice bo xs.length cb] w fun e w' => e = .returned (.bool true) ∧ ∃ n, w' = w.drewN n := by
  have H1 := hid h1
  have H2 := hid h2
  clear h1 h2
  go_enter Tryd.func20, Tryd.ntmps20
  go_wp2
  go_loopw [5] (fun i wr => ∃ k : Nat, k ≤ xs.length ∧ i = .int .i64 k ∧ ∃ n, wr = w.drewN n) (fun i _ => xs.length - (intOf i).toNat)
  case atStart => exact ⟨0, Nat.zero_le _, rfl, 0, rfl⟩
  case round =>
    obtain ⟨k, hk, rfl, n, rfl⟩ := hrel
    by_cases hlt : k < xs.length
    · have hlt' : (k : Int) < (xs.length : Int) := by omega
      obtain ⟨g1, o1, he1, hc1⟩ := H1.out (by omega)
      obtain ⟨g2, o2, he2, hc2⟩ := H2.out (by omega)
      subst he1 he2
      have k1 := hc1 k hlt
      have k2 := hc2 k hlt
      rw [← cell_drewN w n] at k1 k2
      clear hc1 hc2
      have HD := hid (fun m => World.drewN_drewN w n m)
      generalize w.drewN n = V at *
      generalize xs[k] = x at *
      go_wp2
      go_quiet (fail)
      go_wp2
      go_roundw
      case rel => exact ⟨k + 1, by omega, by go_num, _, HD.out _⟩
      case measure => simp [intOf]; omega
    · go_wp2
      go_ret
      exact ⟨rfl, n, rfl⟩

set_option maxHeartbeats 2000000 in
theorem sameTexts_yes (ao bo : Option Addr) (ca cb : Nat) (xs : List (List UInt8)) (w : World) (h1 : StrsIn w ao xs) (h2 : StrsIn w bo xs) (hn : xs.length ≤ 65535) :
    Calls Tryd.prog 12 #[.slice ao xs.length ca, .slice bo xs.length cb] w fun e w' => e = .returned (.bool true) ∧ ∃ n, w' = w.drewN n := by
  have H1 := hid h1
  have H2 := hid h2
  clear h1 h2
  go_enter Tryd.func12, Tryd.ntmps12
  go_wp2
  go_loopw [5] (fun i wr => ∃ k : Nat, k ≤ xs.length ∧ i = .int .i64 k ∧ ∃ n, wr = w.drewN n) (fun i _ => xs.length - (intOf i).toNat)
  case atStart => exact ⟨0, Nat.zero_le _, rfl, 0, rfl⟩
  case round =>
    obtain ⟨k, hk, rfl, n, rfl⟩ := hrel
    by_cases hlt : k < xs.length
    · have hlt' : (k : Int) < (xs.length : Int) := by omega
      obtain ⟨g1, o1, he1, hc1⟩ := H1.out (by omega)
      obtain ⟨g2, o2, he2, hc2⟩ := H2.out (by omega)
      subst he1 he2
      have k1 := hc1 k hlt
      have k2 := hc2 k hlt
      rw [← cell_drewN w n] at k1 k2
      clear hc1 hc2
      have HD := hid (fun m => World.drewN_drewN w n m)
      generalize w.drewN n = V at *
      generalize bs xs[k] = x at *
      go_wp2
      go_quiet (fail)
      go_wp2
      go_roundw
      case rel => exact ⟨k + 1, by omega, by go_num, _, HD.out _⟩
      case measure => simp [intOf]; omega
    · go_wp2
      go_ret
      exact ⟨rfl, n, rfl⟩

set_option maxHeartbeats 2000000 in
theorem sameSyms_yes (ao bo : Option Addr) (ca cb : Nat) (xs : List Lk.Sym) (w : World) (h1 : SymsIn w ao xs) (h2 : SymsIn w bo xs) (hn : xs.length ≤ 65535) :
    Calls Tryd.prog 21 #[.slice ao xs.length ca, .slice bo xs.length cb] w fun e w' => e = .returned (.bool true) ∧ ∃ n, w' = w.drewN n := by
  have H1 := hid h1
  have H2 := hid h2
  clear h1 h2
  go_enter Tryd.func21, Tryd.ntmps21
  go_wp2
  go_loopw [5] (fun i wr => ∃ k : Nat, k ≤ xs.length ∧ i = .int .i64 k ∧ ∃ n, wr = w.drewN n) (fun i _ => xs.length - (intOf i).toNat)
  case atStart => exact ⟨0, Nat.zero_le _, rfl, 0, rfl⟩
  case round =>
    obtain ⟨k, hk, rfl, n, rfl⟩ := hrel
    by_cases hlt : k < xs.length
    · have hlt' : (k : Int) < (xs.length : Int) := by omega
      obtain ⟨g1, he1, hg1, hc1⟩ := H1.out (by omega)
      obtain ⟨g2, he2, hg2, hc2⟩ := H2.out (by omega)
      subst he1 he2
      obtain ⟨y0, y1, y2, y3⟩ := hc1 k hlt
      obtain ⟨z0, z1, z2, z3⟩ := hc2 k hlt
      rw [← cell_drewN w n] at y0 y1 y2 y3 z0 z1 z2 z3
      clear hc1 hc2 hg1 hg2
      have HD := hid (fun m => World.drewN_drewN w n m)
      generalize w.drewN n = V at *
      generalize xs[k] = y at *
      obtain ⟨nm, bd, sc, of⟩ := y
      simp only at y0 y1 y2 y3 z0 z1 z2 z3
      generalize bs nm = x at *
      go_wp2
      go_quiet (fail)
      go_wp2
      go_roundw
      case rel => exact ⟨k + 1, by omega, by go_num, _, HD.out _⟩
      case measure => simp [intOf]; omega
    · go_wp2
      go_ret
      exact ⟨rfl, n, rfl⟩

set_option maxHeartbeats 2000000 in
theorem sameRels_yes (ao bo : Option Addr) (ca cb : Nat) (xs : List Lk.Rel) (w : World) (h1 : RelsIn w ao xs) (h2 : RelsIn w bo xs) (hn : xs.length ≤ 65535) :
    Calls Tryd.prog 22 #[.slice ao xs.length ca, .slice bo xs.length cb] w fun e w' => e = .returned (.bool true) ∧ ∃ n, w' = w.drewN n := by
  have H1 := hid h1
  have H2 := hid h2
  clear h1 h2
  go_enter Tryd.func22, Tryd.ntmps22
  go_wp2
  go_loopw [5] (fun i wr => ∃ k : Nat, k ≤ xs.length ∧ i = .int .i64 k ∧ ∃ n, wr = w.drewN n) (fun i _ => xs.length - (intOf i).toNat)
  case atStart => exact ⟨0, Nat.zero_le _, rfl, 0, rfl⟩
  case round =>
    obtain ⟨k, hk, rfl, n, rfl⟩ := hrel
    by_cases hlt : k < xs.length
    · have hlt' : (k : Int) < (xs.length : Int) := by omega
      obtain ⟨g1, he1, hg1, hc1⟩ := H1.out (by omega)
      obtain ⟨g2, he2, hg2, hc2⟩ := H2.out (by omega)
      subst he1 he2
      obtain ⟨y0, y1, y2, y3, y4⟩ := hc1 k hlt
      obtain ⟨z0, z1, z2, z3, z4⟩ := hc2 k hlt
      rw [← cell_drewN w n] at y0 y1 y2 y3 y4 z0 z1 z2 z3 z4
      clear hc1 hc2 hg1 hg2
      have HD := hid (fun m => World.drewN_drewN w n m)
      generalize w.drewN n = V at *
      generalize xs[k] = y at *
      obtain ⟨sc, of, kd, sy, ad⟩ := y
      simp only at y0 y1 y2 y3 y4 z0 z1 z2 z3 z4
      go_wp2
      go_quiet (fail)
      go_wp2
      go_roundw
      case rel => exact ⟨k + 1, by omega, by go_num, _, HD.out _⟩
      case measure => simp [intOf]; omega
    · go_wp2
      go_ret
      exact ⟨rfl, n, rfl⟩

end Go.Proofs.YtafjgogdeinpcaaDoor

namespace Go.Proofs.YtafjgogdeinpcaaDoor
open Go.RowKit

theorem SymsIn.alike {w W : World} {ao : Option Addr} {ys : List Lk.Sym} (h : SymsIn w ao ys) (hc : ∀ a, W.cell? a = w.cell? a) (hz : W.heap.size = w.heap.size) : SymsIn W ao ys := by
  intro h0
  obtain ⟨g, h1, h2, h3⟩ := h h0
  exact ⟨g, h1, by rw [hz]; exact h2, fun i hi => by simpa only [hc] using h3 i hi⟩
theorem RelsIn.alike {w W : World} {ao : Option Addr} {ys : List Lk.Rel} (h : RelsIn w ao ys) (hc : ∀ a, W.cell? a = w.cell? a) (hz : W.heap.size = w.heap.size) : RelsIn W ao ys := by
  intro h0
  obtain ⟨g, h1, h2, h3⟩ := h h0
  exact ⟨g, h1, by rw [hz]; exact h2, fun i hi => by simpa only [hc] using h3 i hi⟩

set_option maxHeartbeats 4000000 in
theorem same_yes (g1 g2 : Nat) (o : Lk.Obj) (w : World) (h1 : ObjAt w g1 o) (h2 : ObjAt w g2 o) (hn : Small o) :
    Calls Tryd.prog 9 #[.pointer (some ⟨g1, 0, none⟩), .pointer (some ⟨g2, 0, none⟩)] w fun e w' => e = .returned (.bool true) ∧ ∃ n, w' = w.drewN n := by
  obtain ⟨a1, c1, a2, c2, a3, c3, a4, c4, a5, c5, a6, c6, hb, r1, r2, r3, r4, r5, r6⟩ := h1.open
  obtain ⟨b1, d1, b2, d2, b3, d3, b4, d4, b5, d5, b6, d6, hb', s1, s2, s3, s4, s5, s6⟩ := h2.open
  obtain ⟨n1, n2, n3, n4, n5, n6⟩ := hn
  have cT := hid (fun W (hc : ∀ a, W.cell? a = w.cell? a) => sameInts_yes a1 b1 c1 d1 o.text W ((IntsIn.of_own r1).kept (fun a v h => by rw [hc]; exact h)) ((IntsIn.of_own s1).kept (fun a v h => by rw [hc]; exact h)) n1)
  have cF := hid (fun W (hc : ∀ a, W.cell? a = w.cell? a) => sameInts_yes a2 b2 c2 d2 o.far W ((IntsIn.of_own r2).kept (fun a v h => by rw [hc]; exact h)) ((IntsIn.of_own s2).kept (fun a v h => by rw [hc]; exact h)) n2)
  have cD := hid (fun W (hc : ∀ a, W.cell? a = w.cell? a) => sameInts_yes a3 b3 c3 d3 o.data W ((IntsIn.of_own r3).kept (fun a v h => by rw [hc]; exact h)) ((IntsIn.of_own s3).kept (fun a v h => by rw [hc]; exact h)) n3)
  have cA := hid (fun W (hc : ∀ a, W.cell? a = w.cell? a) => sameInts_yes a4 b4 c4 d4 o.align W ((IntsIn.of_own r4).kept (fun a v h => by rw [hc]; exact h)) ((IntsIn.of_own s4).kept (fun a v h => by rw [hc]; exact h)) n4)
  have cS := hid (fun W (hc : ∀ a, W.cell? a = w.cell? a) (hz : W.heap.size = w.heap.size) => sameSyms_yes a5 b5 c5 d5 o.syms W ((SymsIn.of_own r5).alike hc hz) ((SymsIn.of_own s5).alike hc hz) n5)
  have cR := hid (fun W (hc : ∀ a, W.cell? a = w.cell? a) (hz : W.heap.size = w.heap.size) => sameRels_yes a6 b6 c6 d6 o.rels W ((RelsIn.of_own r6).alike hc hz) ((RelsIn.of_own s6).alike hc hz) n6)
  have k0 := hb.cell 0
  have k1 := hb.cell 1
  have k2 := hb.cell 2
  have k3 := hb.cell 3
  have k4 := hb.cell 4
  have k5 := hb.cell 5
  have k6 := hb.cell 6
  have j0 := hb'.cell 0
  have j1 := hb'.cell 1
  have j2 := hb'.cell 2
  have j3 := hb'.cell 3
  have j4 := hb'.cell 4
  have j5 := hb'.cell 5
  have j6 := hb'.cell 6
  clear h1 h2 hb hb' r1 r2 r3 r4 r5 r6 s1 s2 s3 s4 s5 s6 n1 n2 n3 n4 n5 n6
  go_enter Tryd.func9, Tryd.ntmps9
  go_wp2
  go_quiet ((go_at_call 20; refine Calls.quiet_of (cT.out _ ?_); (intro a; rw [cell_drewN])))
  have HV := hid (fun a => cell_drewN w nq a)
  have HZ := hid (show (w.drewN nq).heap.size = w.heap.size from by rw [heap_drewN])
  have HE := hid (show ∃ n, w.drewN nq = w.drewN n from ⟨_, rfl⟩)
  rw [← cell_drewN w nq] at k0 k1 k2 k3 k4 k5 k6 j0 j1 j2 j3 j4 j5 j6
  generalize w.drewN nq = V1 at *
  go_wp2
  go_quiet ((go_at_call 20; refine Calls.quiet_of (cF.out _ ?_); (intro a; rw [cell_drewN, HV.out])))
  replace HV := hid (fun a => (cell_drewN V1 nq a).trans (HV.out a))
  replace HZ := hid (show (V1.drewN nq).heap.size = w.heap.size from by rw [heap_drewN, HZ.out])
  replace HE := hid (show ∃ n, V1.drewN nq = w.drewN n from by obtain ⟨m, hm⟩ := HE.out; exact ⟨_, by rw [hm, World.drewN_drewN]⟩)
  rw [← cell_drewN V1 nq] at k0 k1 k2 k3 k4 k5 k6 j0 j1 j2 j3 j4 j5 j6
  generalize V1.drewN nq = V2 at *
  go_wp2
  go_quiet ((go_at_call 20; refine Calls.quiet_of (cD.out _ ?_); (intro a; rw [cell_drewN, HV.out])))
  replace HV := hid (fun a => (cell_drewN V2 nq a).trans (HV.out a))
  replace HZ := hid (show (V2.drewN nq).heap.size = w.heap.size from by rw [heap_drewN, HZ.out])
  replace HE := hid (show ∃ n, V2.drewN nq = w.drewN n from by obtain ⟨m, hm⟩ := HE.out; exact ⟨_, by rw [hm, World.drewN_drewN]⟩)
  rw [← cell_drewN V2 nq] at k0 k1 k2 k3 k4 k5 k6 j0 j1 j2 j3 j4 j5 j6
  generalize V2.drewN nq = V3 at *
  go_wp2
  go_quiet ((go_at_call 20; refine Calls.quiet_of (cA.out _ ?_); (intro a; rw [cell_drewN, HV.out])))
  replace HV := hid (fun a => (cell_drewN V3 nq a).trans (HV.out a))
  replace HZ := hid (show (V3.drewN nq).heap.size = w.heap.size from by rw [heap_drewN, HZ.out])
  replace HE := hid (show ∃ n, V3.drewN nq = w.drewN n from by obtain ⟨m, hm⟩ := HE.out; exact ⟨_, by rw [hm, World.drewN_drewN]⟩)
  rw [← cell_drewN V3 nq] at k0 k1 k2 k3 k4 k5 k6 j0 j1 j2 j3 j4 j5 j6
  generalize V3.drewN nq = V4 at *
  go_wp2
  go_quiet ((go_at_call 21; refine Calls.quiet_of (cS.out _ ?_ ?_); (intro a; rw [cell_drewN, HV.out]); rw [heap_drewN, HZ.out]))
  replace HV := hid (fun a => (cell_drewN V4 nq a).trans (HV.out a))
  replace HZ := hid (show (V4.drewN nq).heap.size = w.heap.size from by rw [heap_drewN, HZ.out])
  replace HE := hid (show ∃ n, V4.drewN nq = w.drewN n from by obtain ⟨m, hm⟩ := HE.out; exact ⟨_, by rw [hm, World.drewN_drewN]⟩)
  rw [← cell_drewN V4 nq] at k0 k1 k2 k3 k4 k5 k6 j0 j1 j2 j3 j4 j5 j6
  generalize V4.drewN nq = V5 at *
  go_wp2
  go_quiet ((go_at_call 22; refine Calls.quiet_of (cR.out _ ?_ ?_); (intro a; rw [cell_drewN, HV.out]); rw [heap_drewN, HZ.out]))
  replace HV := hid (fun a => (cell_drewN V5 nq a).trans (HV.out a))
  replace HZ := hid (show (V5.drewN nq).heap.size = w.heap.size from by rw [heap_drewN, HZ.out])
  replace HE := hid (show ∃ n, V5.drewN nq = w.drewN n from by obtain ⟨m, hm⟩ := HE.out; exact ⟨_, by rw [hm, World.drewN_drewN]⟩)
  rw [← cell_drewN V5 nq] at k0 k1 k2 k3 k4 k5 k6 j0 j1 j2 j3 j4 j5 j6
  generalize V5.drewN nq = V6 at *
  go_wp2
  go_quiet (fail)
  go_wp2
  go_ret
  refine ⟨rfl, ?_⟩
  obtain ⟨m, hm⟩ := HE.out
  exact ⟨_, by rw [hm, World.drewN_drewN]⟩

end Go.Proofs.YtafjgogdeinpcaaDoor

namespace Go.Proofs.YtafjgogdeinpcaaDoor
open Go.RowKit

set_option maxHeartbeats 1000000 in
theorem linkRead_any (s : ByteArray) (w : World) (ht : Tabs w) (hs : s.size ≤ 1048576) :
    Calls Tryd.prog 7 #[.string s] w fun e w' => ReadRet w s e w' ∧ w.grownBy w' none := by
  have cR := hid (read_any s w ht hs)
  go_enter Tryd.func7, Tryd.ntmps7
  go_wp2_with fail
  refine cR.out.mono ?_
  rintro e w1 ⟨⟨o, g, hr, hv, rfl, hob, hg⟩ | ⟨hno, rfl⟩, hq⟩
  · have H := hid (show ReadRet w s (.returned (.tuple #[.pointer (some ⟨g, 0, none⟩), .int .i64 0])) w1 from .inl ⟨o, g, hr, hv, rfl, hob, hg⟩)
    have HQ := hid hq
    clear hr hv hob hg hq cR
    go_wp2
    go_ret2
    exact ⟨H.out, HQ.out⟩
  · have H := hid (show ReadRet w s (.returned (.tuple #[.pointer none, .int .i64 20])) w1 from .inr ⟨hno, rfl⟩)
    have HQ := hid hq
    clear hno hq cR
    go_wp2
    go_ret2
    exact ⟨H.out, HQ.out⟩

set_option maxHeartbeats 1000000 in
theorem linkWrite_yes (g : Nat) (o : Lk.Obj) (w : World) (ht : Tabs w) (h : ObjAt w g o) (hgood : Lk.goodObj o) (hv : Valid o) :
    Calls Tryd.prog 6 #[.pointer (some ⟨g, 0, none⟩)] w fun e w' => e = .returned (.tuple #[.string (bs (Lk.objB o)), .int .i64 0]) ∧ w.grownBy w' none := by
  have cR := hid (write_yes g o w ht h hgood hv)
  clear ht h hgood hv
  go_enter Tryd.func6, Tryd.ntmps6
  go_wp2_with fail
  refine cR.out.mono ?_
  rintro e w1 ⟨rfl, hq⟩
  have HQ := hid hq
  clear hq cR
  go_wp2
  go_ret2
  exact ⟨rfl, HQ.out⟩

set_option maxHeartbeats 1000000 in
theorem linkMembers_any (s : ByteArray) (w : World) (ht : Tabs w) (hs : s.size ≤ 1048576) :
    Calls Tryd.prog 10 #[.string s] w fun e w' => MembersRet (sl s) w.heap.size e w' ∧ w.grownBy w' none := by
  have cR := hid (members_any s w ht hs)
  go_enter Tryd.func10, Tryd.ntmps10
  go_wp2_with fail
  refine cR.out.mono ?_
  rintro e w1 ⟨⟨ms, v, ha, rfl, ho⟩ | ⟨hno, rfl⟩, hq⟩
  · obtain ⟨av, cv, rfl⟩ := own_form ho
    have H := hid (show MembersRet (sl s) w.heap.size (.returned (.tuple #[.slice av ms.length cv, .int .i64 0])) w1 from .inl ⟨ms, _, ha, rfl, ho⟩)
    have HQ := hid hq
    clear ha ho hq cR
    go_wp2
    go_ret2
    exact ⟨H.out, HQ.out⟩
  · have H := hid (show MembersRet (sl s) w.heap.size (.returned (.tuple #[.slice none 0 0, .int .i64 21])) w1 from .inr ⟨hno, rfl⟩)
    have HQ := hid hq
    clear hno hq cR
    go_wp2
    go_ret2
    exact ⟨H.out, HQ.out⟩

/-- what parsed gives -/
def ParsedRet (s : ByteArray) (e : Ending) (w' : World) : Prop :=
  (∃ g o, e = .returned (.tuple #[.pointer (some ⟨g, 0, none⟩), .bool true]) ∧ ObjAt w' g o ∧ Lk.goodObj o ∧ Valid o ∧ bs (Lk.objB o) = s) ∨ e = .returned (.tuple #[.pointer none, .bool true])

set_option maxHeartbeats 4000000 in
theorem parsed_any (s : ByteArray) (w : World) (ht : Tabs w) (hs : s.size ≤ 1048576) :
    Calls Tryd.prog 4 #[.string s] w fun e w' => ParsedRet s e w' ∧ w.grownBy w' none := by
  have cR := hid (linkRead_any s w ht hs)
  have cP := hid (fun W => parse_any s W hs)
  go_enter Tryd.func4, Tryd.ntmps4
  go_wp2_with fail
  refine cR.out.mono ?_
  rintro e w1 ⟨⟨o, g, hr, hv, rfl, hob, hg⟩ | ⟨hno, rfl⟩, hq⟩
  · obtain ⟨hio, hraw⟩ := isObj_of_read hr hv
    have HG := hid ((Lk.readObj_iff (sl s) o).1 hr)
    have HV := hid hv
    have HOB := hid hob
    have HQ := hid hq
    clear hr hv hob hg hq cR
    go_wp2_with fail
    refine (cP.out _).mono ?_
    rintro e w2 ⟨pr, hq2⟩
    unfold ParseRet at pr
    rcases pr with ⟨-, g2, rfl, ho2⟩ | ⟨hno, -⟩
    rotate_left
    · exact absurd hio hno
    rw [hraw] at ho2
    have HO1 := hid (HOB.out.kept hq2)
    have GQ := hid (grown_trans HQ.out hq2)
    have cS := hid (same_yes g g2 o w2 HO1.out ho2 (good_tame HG.out.1).1)
    clear hq2 ho2 hio hraw cP
    go_wp2_with fail
    refine cS.out.mono ?_
    rintro e w3 ⟨rfl, n, rfl⟩
    have GF := hid (grown_drewN GQ.out n)
    have HOF := hid (HO1.out.drewN n)
    clear cS
    go_wp2
    go_ret2
    exact ⟨.inl ⟨g, o, rfl, HOF.out, HG.out.1, HV.out, by rw [← HG.out.2, bs_sl]⟩, GF.out⟩
  · have hnio := not_isObj_of_read hno
    have HQ := hid hq
    clear hno hq cR
    go_wp2_with fail
    refine (cP.out _).mono ?_
    rintro e w2 ⟨pr, hq2⟩
    unfold ParseRet at pr
    rcases pr with ⟨hio, -⟩ | ⟨-, v, rfl⟩
    · exact absurd hio hnio
    have GQ := hid (grown_trans HQ.out hq2)
    clear hq2 hnio cP
    go_wp2
    go_ret2
    exact ⟨.inr rfl, GQ.out⟩

set_option maxHeartbeats 4000000 in
theorem unpacked_any (s : ByteArray) (w : World) (ht : Tabs w) (hs : s.size ≤ 1048576) :
    Calls Tryd.prog 5 #[.string s] w fun e w' => (∃ v, e = .returned (.tuple #[v, .bool true])) ∧ w.grownBy w' none := by
  have cR := hid (linkMembers_any s w ht hs)
  have cP := hid (fun W => unpack_any s W hs)
  go_enter Tryd.func5, Tryd.ntmps5
  go_wp2_with fail
  refine cR.out.mono ?_
  rintro e w1 ⟨⟨ms, v, ha, rfl, ho⟩ | ⟨hno, rfl⟩, hq⟩
  · obtain ⟨av, cv, rfl⟩ := own_form ho
    have HA := hid ha
    have HO := hid ho
    have HQ := hid hq
    clear ha ho hq cR
    go_wp2_with fail
    refine (cP.out _).mono ?_
    rintro e w2 ⟨⟨v2, b, rfl, hb, ho2⟩, hq2⟩
    rw [arch_raw HA.out] at hb ho2
    obtain rfl : b = true := hb.2 HA.out
    obtain ⟨av2, cv2, rfl⟩ := own_form ho2
    have GQ := hid (grown_trans HQ.out hq2)
    have cS := hid (sameTexts_yes av av2 cv cv2 ms w2 ((StrsIn.of_own HO.out).kept (fun a v hv => gcell hv hq2)) (StrsIn.of_own ho2) (by have := HA.out.1.2; omega))
    clear hq2 ho2 hb cP
    go_wp2_with fail
    refine cS.out.mono ?_
    rintro e w3 ⟨rfl, n, rfl⟩
    have GF := hid (grown_drewN GQ.out n)
    clear cS
    go_wp2
    go_ret2
    exact ⟨⟨_, rfl⟩, GF.out⟩
  · have HN := hid hno
    have HQ := hid hq
    clear hno hq cR
    go_wp2_with fail
    refine (cP.out _).mono ?_
    rintro e w2 ⟨⟨v2, b, rfl, hb, ho2⟩, hq2⟩
    have hb0 : b = false := by
      cases b
      · rfl
      · exact absurd (hb.1 rfl) (HN.out _)
    subst hb0
    obtain ⟨av2, cv2, rfl⟩ := own_form ho2
    have GQ := hid (grown_trans HQ.out hq2)
    clear hq2 ho2 hb cP
    go_wp2
    go_ret2
    exact ⟨⟨_, rfl⟩, GQ.out⟩

set_option maxHeartbeats 4000000 in
theorem files_any (s : ByteArray) (w : World) (ht : Tabs w) :
    Calls Tryd.prog 3 #[.string s] w fun e w' => e = .returned (.bool true) ∧ w.grownBy w' none := by
  by_cases hs : 1048576 < s.size
  · have d : decide (1048576 < (s.size : Int)) = true := by simp; omega
    clear ht
    go_enter Tryd.func3, Tryd.ntmps3
    go_wp2
    go_ret
    exact ⟨rfl, World.grownBy.refl _ _⟩
  have hs' : s.size ≤ 1048576 := by omega
  have d : decide (1048576 < (s.size : Int)) = false := by simp; omega
  have cP := hid (parsed_any s w ht hs')
  have cU := hid (fun W h => unpacked_any s W h hs')
  have HT := hid ht
  clear ht hs
  go_enter Tryd.func3, Tryd.ntmps3
  go_wp2_with fail
  refine cP.out.mono ?_
  rintro e w1 ⟨pr, hq⟩
  have HQ := hid hq
  have T1 := hid (HT.out.grown hq)
  clear hq cP
  rcases pr with ⟨g, o, rfl, hob, hgood, hv, hbo⟩ | rfl
  · have HOB := hid hob
    have HGD := hid hgood
    have HV := hid hv
    have HBO := hid hbo
    clear hob hgood hv hbo
    go_wp2_with fail
    refine (cU.out _ T1.out).mono ?_
    rintro e w2 ⟨⟨v, rfl⟩, hq2⟩
    have T2 := hid (T1.out.grown hq2)
    have GQ := hid (grown_trans HQ.out hq2)
    have cW := hid (linkWrite_yes g o w2 T2.out (HOB.out.kept hq2) HGD.out HV.out)
    clear hq2 cU
    rw [HBO.out] at cW
    go_wp2_with fail
    refine cW.out.mono ?_
    rintro e w3 ⟨rfl, hq3⟩
    have GF := hid (grown_trans GQ.out hq3)
    clear hq3 cW
    go_wp2
    go_ret
    exact ⟨rfl, GF.out⟩
  · go_wp2_with fail
    refine (cU.out _ T1.out).mono ?_
    rintro e w2 ⟨⟨v, rfl⟩, hq2⟩
    have GQ := hid (grown_trans HQ.out hq2)
    clear hq2 cU
    go_wp2
    go_ret
    exact ⟨rfl, GQ.out⟩

end Go.Proofs.YtafjgogdeinpcaaDoor
