/- Walks over package machine: registers, what is computed. -/
/- Walks over package machine: jumps, loads, stores. -/
/- Walks over package machine: words of data, what is asked for. -/
/- Walks over package machine: print, read, call. -/
/- Walks over package machine: read, call. -/
/- A law: noughts appended. -/
/- Walks over the document's answer: parts of images. -/
import Derived.Test.YtaiplongpjimnaaDoorG03
import Derived.Deep.RegionWith
import Derived.Test.YtaiplongpjimnaaDoorG02
import Derived.Deep.CutRange
import Derived.Test.YtaiplongpjimnaaDoorG01
import Derived.Laws.AppendOwn
namespace Go.Proofs.YtaiplongpjimnaaDoor
open Go.RowKit

set_option maxHeartbeats 2000000 in
theorem mSetG_any (W0 : World) (b g : Nat) (vin : Value) (st : Mc.St) (vd vo : Value) (n v : Int) (W : World) (h : RunAt W0 b g vin st vd vo W) (h0 : 0 ≤ n) (h1 : n < 32) :
    Calls Tryd.prog 52 #[.pointer (some ⟨b, 0, none⟩), .int .i64 n, .int .i64 v] W fun e W' => e = .returned (.tuple #[]) ∧ RunAt W0 b g vin (Mc.set n v st) vd vo W' ∧ W.grownBy W' (some b) := by
  obtain ⟨k, rfl⟩ := Int.eq_ofNat_of_zero_le h0
  have hk : k < 32 := by omega
  have e := and31 (k : Int) (by omega) (by omega)
  have e2 : (k : Int) % 32 = k := by omega
  rw [e2] at e
  have H := hid h
  by_cases hz : k = 0
  · subst hz
    have R := hid (show Mc.set ((0 : Nat) : Int) v st = st by unfold Mc.set; rw [if_pos (by decide)])
    clear h
    go_enter Tryd.func52, Tryd.ntmps52
    go_wp2
    go_end0
    rw [R.out]
    exact ⟨rfl, H.out, World.grownBy.refl _ _⟩
  · have R := hid (show Mc.set (k : Int) v st = { st with regs := st.regs.set k (Mc.wd v) } by unfold Mc.set; rw [e2, if_neg (by omega)]; rfl)
    have c := h.cr k hk
    have f := h.free (2 + k)
    have d : ((k : Int) == 0) = false := by simp; omega
    have cW := hid (fun W => mWord_any v W)
    have F := hid ((H.out.grown (grown_drewN (World.grownBy.refl W none) 1)).put (2 + k) (.int .i64 (Mc.wd v)) { st with regs := st.regs.set k (Mc.wd v) } (runL_setReg g vin st vd vo H.out.ok.regs k hk _) rfl rfl (Ok_set H.out.ok k v hz))
    clear h e2
    go_enter Tryd.func52, Tryd.ntmps52
    go_wp2
    go_region_with (go_at_call 38; refine (cW.out _).mono ?_; rintro e w' ⟨rfl, rfl⟩)
    all_goals
      go_wp2
      go_end0
      rw [R.out]
      exact ⟨rfl, F.out, grown_drewN (grown_set W b (2 + k) (.int .i64 (Mc.wd v))) 1⟩

theorem mSet_any (W0 : World) (b g : Nat) (vin : Value) (st : Mc.St) (vd vo : Value) (n v : Int) (W : World) (h : RunAt W0 b g vin st vd vo W) (h0 : 0 ≤ n) (h1 : n < 32) :
    Calls Tryd.prog 52 #[.pointer (some ⟨b, 0, none⟩), .int .i64 n, .int .i64 v] W fun e W' => e = .returned (.tuple #[]) ∧ RunAt W0 b g vin (Mc.set n v st) vd vo W' :=
  (mSetG_any W0 b g vin st vd vo n v W h h0 h1).mono fun _ _ k => ⟨k.1, k.2.1⟩

set_option maxHeartbeats 1000000 in
theorem mPlain_any (op : Int) (w : World) : Calls Tryd.prog 59 #[.int .i64 op] w fun e w' => e = .returned (.int .i64 (Mc.plain op)) ∧ w' = w := by
  by_cases h1 : op = 13
  · subst h1
    go_enter Tryd.func59, Tryd.ntmps59
    go_wp2
    go_ret
    exact ⟨rfl, rfl⟩
  by_cases h2 : op = 14
  · subst h2
    go_enter Tryd.func59, Tryd.ntmps59
    go_wp2
    go_ret
    exact ⟨rfl, rfl⟩
  by_cases h3 : op = 15
  · subst h3
    go_enter Tryd.func59, Tryd.ntmps59
    go_wp2
    go_ret
    exact ⟨rfl, rfl⟩
  by_cases h4 : op = 16
  · subst h4
    go_enter Tryd.func59, Tryd.ntmps59
    go_wp2
    go_ret
    exact ⟨rfl, rfl⟩
  by_cases h5 : op = 17
  · subst h5
    go_enter Tryd.func59, Tryd.ntmps59
    go_wp2
    go_ret
    exact ⟨rfl, rfl⟩
  have R := hid (show Mc.plain op = 0 by unfold Mc.plain; rw [if_neg h1, if_neg h2, if_neg h3, if_neg h4, if_neg h5])
  have d1 : (op == 13) = false := by simpa using h1
  have d2 : (op == 14) = false := by simpa using h2
  have d3 : (op == 15) = false := by simpa using h3
  have d4 : (op == 16) = false := by simpa using h4
  have d5 : (op == 17) = false := by simpa using h5
  clear h1 h2 h3 h4 h5
  go_enter Tryd.func59, Tryd.ntmps59
  go_wp2
  go_ret
  exact ⟨ret_int R.out.symm, rfl⟩

theorem ret_bool' {a b : Bool} (h : a = b) : Ending.returned (.bool a) = .returned (.bool b) := by rw [h]

set_option maxHeartbeats 1000000 in
theorem oneIf_any (c : Bool) (w : World) : Calls Tryd.prog 68 #[.bool c] w fun e w' => e = .returned (.int .i64 (if c then 1 else 0)) ∧ w' = w := by
  cases c
  · go_enter Tryd.func68, Tryd.ntmps68
    go_wp2
    go_ret
    exact ⟨rfl, rfl⟩
  · go_enter Tryd.func68, Tryd.ntmps68
    go_wp2
    go_ret
    exact ⟨rfl, rfl⟩

set_option maxHeartbeats 2000000 in
theorem holds_any (op a b : Int) (w : World) (a0 : 0 ≤ a) (a1 : a < 4294967296) (b0 : 0 ≤ b) (b1 : b < 4294967296) (ho : 5 ≤ op ∧ op ≤ 10) :
    Calls Tryd.prog 55 #[.int .i64 op, .int .i64 a, .int .i64 b] w fun e w' => e = .returned (.bool (Mc.holds op a b)) ∧ w' = w := by
  have cA := hid (fun W => mSigned_any a W a0 a1)
  have cB := hid (fun W => mSigned_any b W b0 b1)
  rcases (show op = 5 ∨ op = 6 ∨ op = 7 ∨ op = 8 ∨ op = 9 ∨ op = 10 by omega) with rfl | rfl | rfl | rfl | rfl | rfl
  · have R := hid (show Mc.holds 5 a b = (a == b) by unfold Mc.holds; rw [Bool.eq_iff_iff]; simp)
    clear ho
    go_enter Tryd.func55, Tryd.ntmps55
    go_wp2
    go_ret
    exact ⟨ret_bool' R.out.symm, rfl⟩
  · have R := hid (show Mc.holds 6 a b = !(a == b) by unfold Mc.holds; rw [Bool.eq_iff_iff]; simp)
    clear ho
    go_enter Tryd.func55, Tryd.ntmps55
    go_wp2
    go_ret
    exact ⟨ret_bool' R.out.symm, rfl⟩
  · have R := hid (show Mc.holds 7 a b = decide (Mc.sg a < Mc.sg b) by unfold Mc.holds; simp)
    clear ho
    go_enter Tryd.func55, Tryd.ntmps55
    go_wp2_with fail
    refine (cA.out _).mono ?_
    rintro e V ⟨rfl, rfl⟩
    go_wp2_with fail
    refine (cB.out _).mono ?_
    rintro e V2 ⟨rfl, rfl⟩
    go_wp2
    go_ret
    exact ⟨ret_bool' R.out.symm, rfl⟩
  · have R := hid (show Mc.holds 8 a b = decide (Mc.sg b ≤ Mc.sg a) by unfold Mc.holds; simp)
    clear ho
    go_enter Tryd.func55, Tryd.ntmps55
    go_wp2_with fail
    refine (cA.out _).mono ?_
    rintro e V ⟨rfl, rfl⟩
    go_wp2_with fail
    refine (cB.out _).mono ?_
    rintro e V2 ⟨rfl, rfl⟩
    go_wp2
    go_ret
    exact ⟨ret_bool' R.out.symm, rfl⟩
  · have R := hid (show Mc.holds 9 a b = decide (a < b) by unfold Mc.holds; simp)
    clear ho
    go_enter Tryd.func55, Tryd.ntmps55
    go_wp2
    go_ret
    exact ⟨ret_bool' R.out.symm, rfl⟩
  · have R := hid (show Mc.holds 10 a b = decide (b ≤ a) by unfold Mc.holds; simp)
    clear ho
    go_enter Tryd.func55, Tryd.ntmps55
    go_wp2
    go_ret
    exact ⟨ret_bool' R.out.symm, rfl⟩

set_option maxHeartbeats 4000000 in
theorem computed_any (op a b : Int) (w : World) (a0 : 0 ≤ a) (a1 : a < 4294967296) (b0 : 0 ≤ b) (b1 : b < 4294967296) (ho : 18 ≤ op ∧ op ≤ 24) :
    Calls Tryd.prog 58 #[.int .i64 op, .int .i64 a, .int .i64 b] w fun e w' => e = .returned (.int .i64 (Mc.computed op a b)) ∧ w' = w := by
  have c7 := hid (fun W => holds_any 7 a b W a0 a1 b0 b1 (by omega))
  have c9 := hid (fun W => holds_any 9 a b W a0 a1 b0 b1 (by omega))
  have o1 := hid (fun c W => oneIf_any c W)
  rcases (show op = 18 ∨ op = 19 ∨ op = 20 ∨ op = 21 ∨ op = 22 ∨ op = 23 ∨ op = 24 by omega) with rfl | rfl | rfl | rfl | rfl | rfl | rfl
  · have R := hid (show a + b = Mc.computed 18 a b from rfl)
    have x : IntKind.i64.wrap (a + b) = a + b := IntWalk.i64_in _ ⟨by omega, by omega⟩
    clear ho c7 c9 o1
    go_enter Tryd.func58, Tryd.ntmps58
    go_wp2
    go_ret
    exact ⟨ret_int R.out, rfl⟩
  · have R := hid (show a - b = Mc.computed 19 a b from rfl)
    have x : IntKind.i64.wrap (a - b) = a - b := IntWalk.i64_in _ ⟨by omega, by omega⟩
    clear ho c7 c9 o1
    go_enter Tryd.func58, Tryd.ntmps58
    go_wp2
    go_ret
    exact ⟨ret_int R.out, rfl⟩
  · have R := hid (show (if Mc.holds 7 a b = true then (1 : Int) else 0) = Mc.computed 20 a b by unfold Mc.holds Mc.computed; simp)
    clear ho c9
    go_enter Tryd.func58, Tryd.ntmps58
    go_wp2_with fail
    refine (c7.out _).mono ?_
    rintro e V ⟨rfl, rfl⟩
    go_wp2_with fail
    refine (o1.out _ _).mono ?_
    rintro e V2 ⟨rfl, rfl⟩
    rw [R.out]
    go_wp2
    go_ret
    exact ⟨rfl, rfl⟩
  · have R := hid (show (if Mc.holds 9 a b = true then (1 : Int) else 0) = Mc.computed 21 a b by unfold Mc.holds Mc.computed; simp)
    clear ho c7
    go_enter Tryd.func58, Tryd.ntmps58
    go_wp2_with fail
    refine (c9.out _).mono ?_
    rintro e V ⟨rfl, rfl⟩
    go_wp2_with fail
    refine (o1.out _ _).mono ?_
    rintro e V2 ⟨rfl, rfl⟩
    rw [R.out]
    go_wp2
    go_ret
    exact ⟨rfl, rfl⟩
  · have R := hid (show bits .xor .i64 a b = Mc.computed 22 a b from rfl)
    clear ho c7 c9 o1
    go_enter Tryd.func58, Tryd.ntmps58
    go_wp2
    go_ret
    exact ⟨ret_int R.out, rfl⟩
  · have R := hid (show bits .or .i64 a b = Mc.computed 23 a b from rfl)
    clear ho c7 c9 o1
    go_enter Tryd.func58, Tryd.ntmps58
    go_wp2
    go_ret
    exact ⟨ret_int R.out, rfl⟩
  · have R := hid (show bits .and .i64 a b = Mc.computed 24 a b from rfl)
    clear ho c7 c9 o1
    go_enter Tryd.func58, Tryd.ntmps58
    go_wp2
    go_ret
    exact ⟨ret_int R.out, rfl⟩

end Go.Proofs.YtaiplongpjimnaaDoor

namespace Go.Proofs.YtaiplongpjimnaaDoor
open Go.RowKit

/-- what a method of a run does -/
def DoesR (W0 : World) (b g : Nat) (vin : Value) (st : Mc.St) (W : World) : Prop := ∃ vd vo, RunAt W0 b g vin st vd vo W

section
variable {W0 W : World} {b g : Nat} {vin vd vo : Value} {st : Mc.St}
theorem RunAt.putNext (h : RunAt W0 b g vin st vd vo W) (v : Int) (hv : 0 ≤ v ∧ v < 4294967296) : RunAt W0 b g vin { st with next := v } vd vo (W.setCell ⟨b, 36, none⟩ (.int .i64 v)) :=
  h.put 36 _ _ (runL_setTail g vin st { st with next := v } vd vo vd vo h.ok.regs rfl 2 (.int .i64 v) rfl) rfl rfl ⟨h.ok.regs, h.ok.words, h.ok.zero, h.ok.data, h.ok.dwords, h.ok.pc, hv, h.ok.out, h.ok.steps, h.ok.read⟩
theorem RunAt.putPc (h : RunAt W0 b g vin st vd vo W) (v : Int) (hv : 0 ≤ v ∧ v < 4294967296) : RunAt W0 b g vin { st with pc := v } vd vo (W.setCell ⟨b, 35, none⟩ (.int .i64 v)) :=
  h.put 35 _ _ (runL_setTail g vin st { st with pc := v } vd vo vd vo h.ok.regs rfl 1 (.int .i64 v) rfl) rfl rfl ⟨h.ok.regs, h.ok.words, h.ok.zero, h.ok.data, h.ok.dwords, hv, h.ok.next, h.ok.out, h.ok.steps, h.ok.read⟩
theorem RunAt.putEnd (h : RunAt W0 b g vin st vd vo W) (v : Int) : RunAt W0 b g vin { st with ende := v } vd vo (W.setCell ⟨b, 37, none⟩ (.int .i64 v)) :=
  h.put 37 _ _ (runL_setTail g vin st { st with ende := v } vd vo vd vo h.ok.regs rfl 3 (.int .i64 v) rfl) rfl rfl ⟨h.ok.regs, h.ok.words, h.ok.zero, h.ok.data, h.ok.dwords, h.ok.pc, h.ok.next, h.ok.out, h.ok.steps, h.ok.read⟩
theorem RunAt.putCode (h : RunAt W0 b g vin st vd vo W) (v : Int) : RunAt W0 b g vin { st with code := v } vd vo (W.setCell ⟨b, 38, none⟩ (.int .i64 v)) :=
  h.put 38 _ _ (runL_setTail g vin st { st with code := v } vd vo vd vo h.ok.regs rfl 4 (.int .i64 v) rfl) rfl rfl ⟨h.ok.regs, h.ok.words, h.ok.zero, h.ok.data, h.ok.dwords, h.ok.pc, h.ok.next, h.ok.out, h.ok.steps, h.ok.read⟩
theorem RunAt.putSteps (h : RunAt W0 b g vin st vd vo W) (v : Nat) (hv : v ≤ 65536) : RunAt W0 b g vin { st with steps := v } vd vo (W.setCell ⟨b, 40, none⟩ (.int .i64 v)) :=
  h.put 40 _ _ (runL_setTail g vin st { st with steps := v } vd vo vd vo h.ok.regs rfl 6 (.int .i64 v) rfl) rfl rfl ⟨h.ok.regs, h.ok.words, h.ok.zero, h.ok.data, h.ok.dwords, h.ok.pc, h.ok.next, h.ok.out, hv, h.ok.read⟩
theorem RunAt.putRead (h : RunAt W0 b g vin st vd vo W) (v : Nat) (hv : v ≤ 16) : RunAt W0 b g vin { st with read := v } vd vo (W.setCell ⟨b, 41, none⟩ (.int .i64 v)) :=
  h.put 41 _ _ (runL_setTail g vin st { st with read := v } vd vo vd vo h.ok.regs rfl 7 (.int .i64 v) rfl) rfl rfl ⟨h.ok.regs, h.ok.words, h.ok.zero, h.ok.data, h.ok.dwords, h.ok.pc, h.ok.next, h.ok.out, h.ok.steps, hv⟩
end

theorem set_pc (n v : Int) (st : Mc.St) : (Mc.set n v st).pc = st.pc := by unfold Mc.set; split <;> rfl
theorem reg_range {st : Mc.St} (h : Mc.Ok st) (n : Int) : 0 ≤ Mc.reg st n ∧ Mc.reg st n < 4294967296 := h.words _

set_option maxHeartbeats 2000000 in
theorem jump_any (W0 : World) (b g : Nat) (vin : Value) (st : Mc.St) (vd vo : Value) (rd dest : Int) (W : World) (h : RunAt W0 b g vin st vd vo W) (h0 : 0 ≤ rd) (h1 : rd < 32) :
    Calls Tryd.prog 53 #[.pointer (some ⟨b, 0, none⟩), .int .i64 rd, .int .i64 dest] W fun e W' => e = .returned (.tuple #[]) ∧ RunAt W0 b g vin (Mc.jump rd dest st) vd vo W' := by
  have H := hid h
  have c := h.c.2.2.2.1
  have hp := h.ok.pc
  have x : IntKind.i64.wrap (st.pc + 4) = st.pc + 4 := IntWalk.i64_in _ ⟨by omega, by omega⟩
  have cS := hid (fun W hW => mSet_any W0 b g vin st vd vo rd (st.pc + 4) W hW h0 h1)
  have cW := hid (fun W => mWord_any dest W)
  clear h
  go_enter Tryd.func53, Tryd.ntmps53
  go_wp2_with fail
  refine (cS.out _ H.out).mono ?_
  rintro e V ⟨rfl, h1⟩
  have H1 := hid h1
  clear h1 c x
  go_wp2_with fail
  refine (cW.out _).mono ?_
  rintro e V2 ⟨rfl, hV⟩
  subst hV
  have c5 := H1.out.c.2.2.2.2.1
  have f5 := H1.out.free 36
  go_wp2
  go_end0
  exact ⟨rfl, H1.out.putNext _ (Mc.wd_range dest)⟩

set_option maxHeartbeats 2000000 in
theorem branch_any' (W0 : World) (b g : Nat) (vin : Value) (st : Mc.St) (vd vo : Value) (t : Bool) (n : Int) (W : World) (h : RunAt W0 b g vin st vd vo W) (h0 : -4294967296 ≤ n) (h1 : n ≤ 4294967296) :
    Calls Tryd.prog 54 #[.pointer (some ⟨b, 0, none⟩), .bool t, .int .i64 n] W fun e W' => e = .returned (.tuple #[]) ∧ RunAt W0 b g vin (Mc.branch t n st) vd vo W' := by
  have H := hid h
  have c := h.c.2.2.2.1
  have c5 := h.c.2.2.2.2.1
  have f5 := h.free 36
  have hp := h.ok.pc
  have x : IntKind.i64.wrap (st.pc + n) = st.pc + n := IntWalk.i64_in _ ⟨by omega, by omega⟩
  have cW := hid (fun W => mWord_any (st.pc + n) W)
  clear h
  cases t
  · go_enter Tryd.func54, Tryd.ntmps54
    go_wp2
    go_end0
    exact ⟨rfl, H.out⟩
  · go_enter Tryd.func54, Tryd.ntmps54
    go_wp2_with fail
    refine (cW.out _).mono ?_
    rintro e V2 ⟨rfl, hV⟩
    subst hV
    go_wp2
    go_end0
    exact ⟨rfl, H.out.putNext _ (Mc.wd_range _)⟩

set_option maxHeartbeats 2000000 in
theorem dataPlace_any (W0 : World) (b g : Nat) (vin : Value) (st : Mc.St) (vd vo : Value) (m : Im.Img) (a : Int) (W : World) (h : RunAt W0 b g vin st vd vo W) (hI : ImgAt W0 g m) (hT : Im.Tame m) (h0 : 0 ≤ a) (h1 : a < 4294967296) :
    Calls Tryd.prog 67 #[.pointer (some ⟨b, 0, none⟩), .int .i64 a] W fun e W' => e = .returned (.int .i64 (Im.place m.data st.data.length a)) ∧ ∃ n, W' = W.drewN n := by
  obtain ⟨ad, cd, hvd⟩ := own_form h.data
  subst hvd
  have c0 := h.c.1
  have c34 := h.c.2.2.1
  obtain ⟨a1, t1, a2, t2, a3, t3, hb, -, -, -⟩ := (hI.kept h.gr).open
  have k3 := hb.cell 3
  simp only [List.getElem?_toArray, List.getElem?_cons_succ, List.getElem?_cons_zero] at k3
  have cP := hid (fun W => place_any ad st.data.length cd m.data a W h0 h1 hT.data.1 hT.data.2)
  clear h hI hT hb
  go_enter Tryd.func67, Tryd.ntmps67
  go_wp2
  go_quiet ((go_at_call 48; exact Calls.quiet_of_same (cP.out _)))
  go_wp2
  go_ret
  exact ⟨rfl, _, rfl⟩

end Go.Proofs.YtaiplongpjimnaaDoor

namespace Go.Proofs.YtaiplongpjimnaaDoor
open Go.RowKit

theorem own_set1 {w : World} {base : Nat} {e : TypeId} {n cap sg j : Nat} {xs : List Value} {u : Value} (h : w.ownsRow base e 1 (.slice (some ⟨sg, 0, none⟩) n cap) n xs) :
    (w.setCell ⟨sg, j, none⟩ u).ownsRow base e 1 (.slice (some ⟨sg, 0, none⟩) n cap) n (xs.set j u) := by
  refine ⟨by rw [List.length_set]; exact h.1, ?_⟩
  rcases h.2 with ⟨h1, h2⟩ | ⟨g', cap', cur, hv, hb, hg, h3, h4, h5, h6⟩
  · simp at h1
  · simp only [Value.slice.injEq, Option.some.injEq, Addr.mk.injEq] at hv
    obtain ⟨⟨rfl, _⟩, _, rfl⟩ := hv
    refine .inr ⟨sg, cap, cur.setIfInBounds j u, rfl, hb, heap_set_same hg u, h3, h4, by simpa using h5, ?_⟩
    rw [Array.toList_setIfInBounds, List.take_set, h6]
theorem own_some {w : World} {base : Nat} {e : TypeId} {n cap : Nat} {ao : Option Addr} {xs : List Value} (h : w.ownsRow base e 1 (.slice ao n cap) n xs) (h0 : 0 < n) : ∃ sg, ao = some ⟨sg, 0, none⟩ ∧ (∀ o, w.frozen? ⟨sg, o, none⟩ = false) ∧ n ≤ cap ∧ cap ≤ maxLen ∧ ∀ i, i < n → w.cell? ⟨sg, i, none⟩ = xs[i]? := by
  rcases h.2 with ⟨h1, h2⟩ | ⟨g', cap', cur, hv, _, hg, h3, h4, h5, h6⟩
  · omega
  · simp only [Value.slice.injEq] at hv
    obtain ⟨rfl, _, rfl⟩ := hv
    refine ⟨g', rfl, fun o => (show BlkAt w g' cur e from hg).free o, h3, h4, fun i hi => ?_⟩
    rw [(show BlkAt w g' cur e from hg).cell i, ← h6, List.getElem?_take]
    simp [hi]

section
variable {W0 W : World} {b g : Nat} {vin vo : Value} {st : Mc.St}
theorem RunAt.putData {sg n cap : Nat} (h : RunAt W0 b g vin st (.slice (some ⟨sg, 0, none⟩) n cap) vo W) (hn : n = st.data.length) (i : Nat) (v : Int) (hv : 0 ≤ v ∧ v < 4294967296) :
    RunAt W0 b g vin { st with data := st.data.set i v } (.slice (some ⟨sg, 0, none⟩) n cap) vo (W.setCell ⟨sg, i, none⟩ (.int .i64 v)) := by
  have hsb : sg ≠ b := h.apart.1 sg rfl
  have hso : ∀ k, vo.ownBlock = some k → k ≠ sg := fun k e c => h.apart.2.2 sg rfl (by rw [e, c])
  have hlo := (h.data.lt sg rfl).1
  subst hn
  refine ⟨h.blk.grown (grown_set W sg i _) (by simp; omega), ?_, own_other h.out hso, h.apart, h.lo, grown_hi h.gr (grown_set W sg i _) (by intro k e; simp at e; omega), ⟨h.ok.regs, h.ok.words, h.ok.zero, by simpa using h.ok.data, fun j => ?_, h.ok.pc, h.ok.next, h.ok.out, h.ok.steps, h.ok.read⟩⟩
  · have := own_set1 (j := i) (u := .int .i64 v) h.data
    simp only [List.length_set, List.map_set]
    exact this
  · show 0 ≤ (st.data.set i v).getD j 0 ∧ (st.data.set i v).getD j 0 < 4294967296
    rw [List.getD_eq_getElem?_getD, List.getElem?_set]
    split
    · split
      · simpa using hv
      · rename_i h1 h2
        subst h1
        simp
    · have := h.ok.dwords j
      rw [List.getD_eq_getElem?_getD] at this
      exact this
end

set_option maxHeartbeats 4000000 in
theorem mStore_any (W0 : World) (b g : Nat) (vin : Value) (st : Mc.St) (vd vo : Value) (m : Im.Img) (a v : Int) (W : World) (h : RunAt W0 b g vin st vd vo W) (hI : ImgAt W0 g m) (hT : Im.Tame m) (h0 : 0 ≤ a) (h1 : a < 4294967296) (hv : 0 ≤ v ∧ v < 4294967296) :
    Calls Tryd.prog 57 #[.pointer (some ⟨b, 0, none⟩), .int .i64 a, .int .i64 v] W fun e W' => e = .returned (.tuple #[]) ∧ DoesR W0 b g vin (Mc.store m a v st) W' := by
  have cP := hid (dataPlace_any W0 b g vin st vd vo m a W h hI hT h0 h1)
  have H := hid h
  have r := Im.place_range m.data st.data.length a
  obtain ⟨X, hX⟩ : ∃ X, X = Mc.store m a v st := ⟨_, rfl⟩
  rw [← hX]
  unfold Mc.store at hX
  have RX := hid hX
  clear h hI hT hX
  generalize Im.place m.data st.data.length a = i at *
  go_enter Tryd.func57, Tryd.ntmps57
  go_wp2_with fail
  refine cP.out.mono ?_
  rintro e V ⟨rfl, n, hV⟩
  have H1 : Hid (RunAt W0 b g vin st vd vo V) := by rw [hV]; exact H.out.grown (grown_drewN (World.grownBy.refl _ _) n)
  clear hV H cP
  by_cases hi : 0 ≤ i
  · have d : decide (i < 0) = false := by simp; omega
    rw [if_pos hi] at RX
    obtain ⟨k, rfl⟩ := Int.eq_ofNat_of_zero_le hi
    have hk : k < st.data.length := by omega
    obtain ⟨ad, cd, hvd⟩ := own_form H1.out.data
    subst hvd
    obtain ⟨sg, rfl, hf, hc1, hc2, hcells⟩ := own_some H1.out.data (by omega)
    have c34 := H1.out.c.2.2.1
    have ck := hcells k hk
    rw [List.getElem?_map, List.getElem?_eq_getElem hk, Option.map_some] at ck
    have fk := hf k
    have g1 : (k : Int) < (st.data.length : Int) := by omega
    rw [Int.toNat_natCast] at RX
    clear hf hcells
    go_wp2
    go_end0
    rw [RX.out]
    exact ⟨rfl, _, _, H1.out.putData rfl k v hv⟩
  · have d : decide (i < 0) = true := by simp; omega
    rw [if_neg hi] at RX
    have c := H1.out.c.2.2.2.2.2.1
    have f := H1.out.free 37
    go_wp2
    (try simp only [Exit.inBlock, Exit.then]); refine bodyPost_ret (results_none rfl _ _ _) rfl ?_
    rw [RX.out]
    exact ⟨rfl, _, _, H1.out.putEnd 5⟩

set_option maxHeartbeats 4000000 in
theorem mLoad_any (W0 : World) (b g : Nat) (vin : Value) (st : Mc.St) (vd vo : Value) (m : Im.Img) (rd a : Int) (W : World) (h : RunAt W0 b g vin st vd vo W) (hI : ImgAt W0 g m) (hT : Im.Tame m) (h0 : 0 ≤ a) (h1 : a < 4294967296) (hr0 : 0 ≤ rd) (hr1 : rd < 32) :
    Calls Tryd.prog 56 #[.pointer (some ⟨b, 0, none⟩), .int .i64 rd, .int .i64 a] W fun e W' => e = .returned (.tuple #[]) ∧ DoesR W0 b g vin (Mc.load m rd a st) W' := by
  have cC := hid (code_any g m a W (hI.kept h.gr) hT h0 h1)
  have cP := hid (fun W hW => dataPlace_any W0 b g vin st vd vo m a W hW hI hT h0 h1)
  have cS := hid (fun v W hW => mSet_any W0 b g vin st vd vo rd v W hW hr0 hr1)
  have H := hid h
  have c0 := h.c.1
  have r := Im.place_range m.data st.data.length a
  obtain ⟨X, hX⟩ : ∃ X, X = Mc.load m rd a st := ⟨_, rfl⟩
  rw [← hX]
  unfold Mc.load at hX
  have RX := hid hX
  clear h hI hT hX
  generalize Im.place m.data st.data.length a = i at *
  generalize Im.code m a = cd at *
  go_enter Tryd.func56, Tryd.ntmps56
  go_wp2_with fail
  refine cC.out.mono ?_
  rintro e V ⟨rfl, n, hV⟩
  have H1 : Hid (RunAt W0 b g vin st vd vo V) := by rw [hV]; exact H.out.grown (grown_drewN (World.grownBy.refl _ _) n)
  clear hV H cC c0
  cases cd with
  | some wv =>
    simp only at RX
    go_wp2_with fail
    refine (cS.out wv V H1.out).mono ?_
    rintro e V2 ⟨rfl, h2⟩
    have H2 := hid h2
    clear h2
    go_wp2
    (try simp only [Exit.inBlock, Exit.then]); refine bodyPost_ret (results_none rfl _ _ _) rfl ?_
    rw [RX.out]
    exact ⟨rfl, _, _, H2.out⟩
  | none =>
    simp only at RX
    go_wp2_with fail
    refine (cP.out V H1.out).mono ?_
    rintro e V2 ⟨rfl, n2, hV2⟩
    have H2 : Hid (RunAt W0 b g vin st vd vo V2) := by rw [hV2]; exact H1.out.grown (grown_drewN (World.grownBy.refl _ _) n2)
    clear hV2 H1 cP
    by_cases hi : 0 ≤ i
    · have d : decide (i < 0) = false := by simp; omega
      rw [if_pos hi] at RX
      obtain ⟨k, rfl⟩ := Int.eq_ofNat_of_zero_le hi
      have hk : k < st.data.length := by omega
      obtain ⟨ad, cd, hvd⟩ := own_form H2.out.data
      subst hvd
      obtain ⟨sg, rfl, hf, hc1, hc2, hcells⟩ := own_some H2.out.data (by omega)
      have c34 := H2.out.c.2.2.1
      have ck := hcells k hk
      rw [List.getElem?_map, List.getElem?_eq_getElem hk, Option.map_some] at ck
      have g1 : (k : Int) < (st.data.length : Int) := by omega
      rw [Int.toNat_natCast, List.getD_eq_getElem?_getD, List.getElem?_eq_getElem hk, Option.getD_some] at RX
      clear hf hcells
      go_wp2_with fail
      refine (cS.out _ V2 H2.out).mono ?_
      rintro e V3 ⟨rfl, h3⟩
      have H3 := hid h3
      clear h3
      go_wp2
      go_end0
      rw [RX.out]
      exact ⟨rfl, _, _, H3.out⟩
    · have d : decide (i < 0) = true := by simp; omega
      rw [if_neg hi] at RX
      have c := H2.out.c.2.2.2.2.2.1
      have f := H2.out.free 37
      go_wp2
      (try simp only [Exit.inBlock, Exit.then]); refine bodyPost_ret (results_none rfl _ _ _) rfl ?_
      rw [RX.out]
      exact ⟨rfl, _, _, H2.out.putEnd 4⟩

end Go.Proofs.YtaiplongpjimnaaDoor

namespace Go.Proofs.YtaiplongpjimnaaDoor
open Go.RowKit

section
variable {P : Program} (w : World)
theorem wpList_append_at {ops : Array Oper} {rest : List Oper} {o : Oper} {a : Act} {Q : Exit → Act → World → Prop} (hgd : o.guard = none) (s x : Operand) (t : TypeId)
    (ho : o.op = .call { callee := .builtin .append, args := #[s, x], argTypes := #[t, t] })
    (base : Nat) (e : TypeId) (i : TypeInfo) (z : Value) (size bytes : Nat) (ht : P.underlying t = some (.slice e)) (hi : P.info? e = some i) (hz : i.zero = some z)
    (hsize : i.size = size) (hby : i.bytes = bytes) (hzs : z.cells.size = size) (hsz : 0 < size)
    (v : Value) (n : Nat) (xs : List Value) (hs : a.eval s = v) (hown : w.ownsRow base e size v n xs)
    (ad : Addr) (m c : Nat) (news : List Value) (hx : a.eval x = .slice (some ad) m c) (hl : news.length = m * size) (hnews : ∀ j u, news[j]? = some u → w.cell? (ad.add j) = some u) (h1 : ∀ u ∈ news, u.oneCell' = true)
    (h63 : n + m ≤ maxLen) (hbytes : (n + m) * bytes ≤ 140737488355328) (hbase : base ≤ w.heap.size)
    (h : ∀ v' w', w'.ownsRow base e size v' (n + m) (xs ++ news) → w.grownBy w' v.ownBlock → (v'.ownBlock = v.ownBlock ∨ v'.ownBlock = some w.heap.size) → wpList P ops Q rest (a.put o.dst v') w') : wpList P ops Q (o :: rest) a w := by
  refine wpList_plain hgd fun K hK => ?_
  obtain ⟨v', w', hr, h2, h3, -, h5⟩ := run_append_own_at (P := P) w base t o.type e i z size bytes ht hi hz hsize hby hzs hsz v n xs hown ad m c news hl hnews h1 h63 hbytes hbase
  unfold Oper.wp execOp
  simp only [ho, resolve, invoke, builtin, Sem.run_bind, Sem.run_pure, Result.andThen_ok, List.map_toArray, List.map_cons, List.map_nil, hs, hx, hr]
  exact hK _ _ (h v' w' h2 h3 h5)
end

section
variable {W0 W w3 : World} {b g : Nat} {vin vd vo v' : Value} {st : Mc.St} {ob : Obj}
theorem RunAt.preOut (h : RunAt W0 b g vin st vd vo W) (hg : (W.alloc ob).grownBy w3 vo.ownBlock) : BlkAt w3 b (runL g vin st vd vo).toArray 73 :=
  (h.blk.grown (World.grownBy_alloc W ob none) (by simp)).grown hg (fun e => h.apart.2.1 b e.symm rfl)
theorem RunAt.preCell (h : RunAt W0 b g vin st vd vo W) (hg : (W.alloc ob).grownBy w3 vo.ownBlock) : w3.cell? ⟨b, 39, none⟩ = some vo :=
  ((h.preOut hg).cell 39).trans (List.getElem?_toArray.trans (runL_tail g vin st vd vo h.ok.regs 5))
theorem RunAt.putOut (h : RunAt W0 b g vin st vd vo W) (x : Int) (hx : st.out.length < 16) (hown : w3.ownsRow W0.heap.size 3 1 v' (st.out.length + 1) (st.out.map (Value.int .i64) ++ [.int .i64 x])) (hg : (W.alloc ob).grownBy w3 vo.ownBlock) (hb : v'.ownBlock = vo.ownBlock ∨ v'.ownBlock = some (W.alloc ob).heap.size) :
    RunAt W0 b g vin { st with out := st.out ++ [x] } vd v' (w3.setCell ⟨b, 39, none⟩ v') := by
  have hsz : (W.alloc ob).heap.size = W.heap.size + 1 := Array.size_push _
  have hlt := h.blk.lt
  have hv : ∀ k, v'.ownBlock = some k → k ≠ b := fun k e => by
    rcases hb with hb | hb
    · exact h.apart.2.1 k (by rw [← hb]; exact e)
    · rw [e, hsz] at hb; simp at hb; omega
  have hd := (h.data.alloc ob).kept hg (by
    cases hvo : vo.ownBlock with
    | none => cases hvd : vd.ownBlock <;> simp
    | some k => right; intro c; exact h.apart.2.2 k c hvo)
  refine ⟨?_, own_other hd h.apart.1, ?_, ⟨h.apart.1, hv, fun k e => ?_⟩, h.lo, ?_, ⟨h.ok.regs, h.ok.words, h.ok.zero, h.ok.data, h.ok.dwords, h.ok.pc, h.ok.next, by simp; omega, h.ok.steps, h.ok.read⟩⟩
  · have := (h.preOut hg).set 39 v'
    rw [List.setIfInBounds_toArray, runL_setTail g vin st { st with out := st.out ++ [x] } vd vo vd v' h.ok.regs rfl 5 v' rfl] at this
    exact this
  · have := own_other (b := b) (o := 39) (u := v') hown hv
    simpa using this
  · intro c
    rcases hb with hb | hb
    · exact h.apart.2.2 k e (by rw [← hb]; exact c)
    · rw [c, hsz] at hb
      have := (h.data.lt k e).2
      simp at hb
      omega
  · refine grown_hi (grown_hi (grown_trans h.gr (World.grownBy_alloc W ob none)) hg (fun k e => (h.out.lt k e).1)) (grown_set w3 b 39 v') (by intro k e; simp at e; have := h.lo; omega)
end

set_option maxRecDepth 100000 in
set_option maxHeartbeats 4000000 in
theorem print_any (W0 : World) (b g : Nat) (vin : Value) (st : Mc.St) (vd vo : Value) (x : Int) (W : World) (h : RunAt W0 b g vin st vd vo W) :
    Calls Tryd.prog 69 #[.pointer (some ⟨b, 0, none⟩), .int .i64 x] W fun e W' => e = .returned (.tuple #[]) ∧ DoesR W0 b g vin (if 16 ≤ st.out.length then { st with ende := 6 } else { st with out := st.out ++ [x] }) W' := by
  obtain ⟨i0, hi, hz0, hz1, hz2⟩ := info_parts Tryd.infoInt
  obtain ⟨ao, co, hvo⟩ := own_form h.out
  subst hvo
  have H := hid h
  have c39 := h.c.2.2.2.2.2.2.2.1
  have hcap := own_cap h.out
  have hsz := h.gr.size
  by_cases hl : 16 ≤ st.out.length
  · have d : decide ((16 : Int) ≤ (st.out.length : Int)) = true := by simp; omega
    have c := h.c.2.2.2.2.2.1
    have f := h.free 37
    rw [if_pos hl]
    clear h
    go_enter Tryd.func69, Tryd.ntmps69
    go_wp2
    (try simp only [Exit.inBlock, Exit.then]); refine bodyPost_ret (results_none rfl _ _ _) rfl ?_
    exact ⟨rfl, _, _, H.out.putEnd 6⟩
  · have d : decide ((16 : Int) ≤ (st.out.length : Int)) = false := by simp; omega
    rw [if_neg hl]
    have HO := hid h.out
    clear h
    go_enter Tryd.func69, Tryd.ntmps69
    go_wp2_with (at_builtin; refine wpList_append_at _ rfl _ _ 22 rfl W0.heap.size 3 i0 (.int .i64 0) 1 8 Tryd.underlying22 hi hz0 hz1 hz2 rfl (by decide) _ _ _ rfl (HO.out.alloc _) ⟨W.heap.size, 0, none⟩ 1 1 [.int .i64 x] rfl rfl (cell_one_new _ _ _) (by intro u hu; simp at hu; subst hu; rfl) (by unfold maxLen; omega) (by omega) (by simp; omega) ?_; intro v' w3 hown' hgrow hblk; obtain ⟨av', cv', rfl⟩ := own_form hown'; have KB := H.out.preOut hgrow; have f39 := KB.free 39; have k39 := H.out.preCell hgrow; have K := hid (H.out.putOut x (by omega) hown' hgrow hblk); clear hgrow hown' KB hblk)
    go_wp2
    go_end0
    exact ⟨rfl, _, _, K.out⟩

end Go.Proofs.YtaiplongpjimnaaDoor

namespace Go.Proofs.YtaiplongpjimnaaDoor
open Go.RowKit

theorem set_read (n v : Int) (st : Mc.St) : (Mc.set n v st).read = st.read := by unfold Mc.set; split <;> rfl

set_option maxHeartbeats 4000000 in
theorem mRead_any (W0 : World) (b g : Nat) (ai : Option Addr) (ci : Nat) (ins : List Int) (st : Mc.St) (vd vo : Value) (W : World) (h : RunAt W0 b g (.slice ai ins.length ci) st vd vo W) (hin : IntsIn W0 ai ins) (hl : ins.length ≤ 16) :
    Calls Tryd.prog 70 #[.pointer (some ⟨b, 0, none⟩)] W fun e W' => e = .returned (.tuple #[]) ∧ DoesR W0 b g (.slice ai ins.length ci) (if ins.length ≤ st.read then { st with ende := 6 } else { Mc.set 10 (ins.getD st.read 0) st with read := st.read + 1 }) W' := by
  have H := hid h
  have c1 := h.c.2.1
  have c41 := h.c.2.2.2.2.2.2.2.2.2
  by_cases hle : ins.length ≤ st.read
  · rw [if_pos hle]
    have d : decide ((ins.length : Int) ≤ (st.read : Int)) = true := by simp; omega
    clear h
    go_enter Tryd.func70, Tryd.ntmps70
    go_wp2
    go_quiet (fail)
    have H1 := hid (H.out.grown (grown_drewN (World.grownBy.refl _ none) nq))
    clear c1 c41
    generalize W.drewN nq = V at *
    have c := H1.out.c.2.2.2.2.2.1
    have f := H1.out.free 37
    go_wp2
    (try simp only [Exit.inBlock, Exit.then]); refine bodyPost_ret (results_none rfl _ _ _) rfl ?_
    exact ⟨rfl, _, _, H1.out.putEnd 6⟩
  · rw [if_neg hle]
    have d : decide ((ins.length : Int) ≤ (st.read : Int)) = false := by simp; omega
    obtain ⟨sg, off, rfl, hcells⟩ := hin.kept (fun a v e => gcell e h.gr) (by omega)
    have ck := hcells st.read (by omega)
    have GE := hid (show ins.getD st.read 0 = ins[st.read]'(by omega) by rw [List.getD_eq_getElem?_getD, List.getElem?_eq_getElem (by omega)]; rfl)
    rw [GE.out]
    generalize ins[st.read]'(by omega) = v at *
    have CK := hid ck
    have cS := hid (fun W hW => mSet_any W0 b g (.slice (some ⟨sg, off, none⟩) ins.length ci) st vd vo 10 v W hW (by decide) (by decide))
    have hz : (st.read : Int) < (ins.length : Int) := by omega
    clear h hcells ck GE hin
    go_enter Tryd.func70, Tryd.ntmps70
    go_wp2
    go_quiet (fail)
    go_wp2
    have H1 := hid (H.out.grown (grown_drewN (World.grownBy.refl _ none) nq))
    have ck : (W.drewN nq).cell? ⟨sg, off + st.read, none⟩ = some (.int .i64 v) := CK.out
    clear c1 c41 H CK
    generalize W.drewN nq = V at *
    have c1 := H1.out.c.2.1
    have c41 := H1.out.c.2.2.2.2.2.2.2.2.2
    have H2 : Hid (RunAt W0 b g (.slice (some ⟨sg, off, none⟩) ins.length ci) st vd vo V.drew) := H1.out.grown (grown_drewN (World.grownBy.refl _ none) 1)
    go_region_with (go_at_call 52; refine (cS.out _ H2.out).mono ?_; rintro e w' ⟨rfl, h3⟩)
    all_goals
      have H3 := hid h3
      clear h3 c1 c41 ck H2 H1
      have c41 := H3.out.c.2.2.2.2.2.2.2.2.2
      rw [set_read] at c41
      have f41 := H3.out.free 41
      go_wp2
      go_end0
      refine ⟨rfl, vd, vo, ?_⟩
      exact H3.out.putRead (st.read + 1) (by omega)

set_option maxHeartbeats 4000000 in
theorem mCall_any (W0 : World) (b g : Nat) (ai : Option Addr) (ci : Nat) (ins : List Int) (st : Mc.St) (vd vo : Value) (W : World) (h : RunAt W0 b g (.slice ai ins.length ci) st vd vo W) (hin : IntsIn W0 ai ins) (hl : ins.length ≤ 16) :
    Calls Tryd.prog 60 #[.pointer (some ⟨b, 0, none⟩)] W fun e W' => e = .returned (.tuple #[]) ∧ DoesR W0 b g (.slice ai ins.length ci) (Mc.call ins st) W' := by
  have H := hid h
  have r17 := hid (fun W hW => register_any' W0 b g (.slice ai ins.length ci) st vd vo 17 W hW (by decide) (by decide))
  have r10 := hid (fun W hW => register_any' W0 b g (.slice ai ins.length ci) st vd vo 10 W hW (by decide) (by decide))
  have rE : Hid (∀ W, RunAt W0 b g (.slice ai ins.length ci) { st with ende := 1 } vd vo W → Calls Tryd.prog 51 #[.pointer (some ⟨b, 0, none⟩), .int .i64 10] W fun e W' => e = .returned (.int .i64 (Mc.reg st 10)) ∧ W' = W) :=
    fun W hW => register_any' W0 b g (.slice ai ins.length ci) { st with ende := 1 } vd vo 10 W hW (by decide) (by decide)
  have rr := reg_range h.ok 10
  have sG := hid (fun W => mSigned_any (Mc.reg st 10) W rr.1 rr.2)
  have pR := hid (fun x W hW => print_any W0 b g (.slice ai ins.length ci) st vd vo x W hW)
  have rD := hid (fun W hW => mRead_any W0 b g ai ci ins st vd vo W hW hin hl)
  obtain ⟨X, hX⟩ : ∃ X, X = Mc.call ins st := ⟨_, rfl⟩
  rw [← hX]
  unfold Mc.call at hX
  have RX := hid hX
  clear h hX hin rr
  generalize Mc.reg st 17 = q at *
  generalize Mc.reg st 10 = x at *
  by_cases q0 : q = 0
  · subst q0
    rw [if_pos rfl] at RX
    have c37 := H.out.c.2.2.2.2.2.1
    have f37 := H.out.free 37
    go_enter Tryd.func60, Tryd.ntmps60
    go_wp2_with fail
    refine (r17.out _ H.out).mono ?_
    rintro e V ⟨rfl, hV⟩
    subst hV
    have H1 := hid (H.out.putEnd 1)
    go_wp2_with fail
    refine (rE.out _ H1.out).mono ?_
    rintro e V2 ⟨rfl, hV⟩
    subst hV
    go_wp2_with fail
    refine (sG.out _).mono ?_
    rintro e V3 ⟨rfl, hV⟩
    have H2 := hid H1.out
    rw [← hV] at H2
    clear hV H1 c37 f37 H
    have c38 := H2.out.c.2.2.2.2.2.2.1
    have f38 := H2.out.free 38
    go_wp2
    go_end0
    rw [RX.out]
    exact ⟨rfl, _, _, H2.out.putCode _⟩
  rw [if_neg q0] at RX
  have d0 : (q == 0) = false := by simpa using q0
  by_cases q1 : q = 1
  · subst q1
    rw [if_pos rfl] at RX
    go_enter Tryd.func60, Tryd.ntmps60
    go_wp2_with fail
    refine (r17.out _ H.out).mono ?_
    rintro e V ⟨rfl, hV⟩
    subst hV
    go_wp2_with fail
    refine (r10.out _ H.out).mono ?_
    rintro e V2 ⟨rfl, hV⟩
    subst hV
    go_wp2_with fail
    refine (sG.out _).mono ?_
    rintro e V3 ⟨rfl, hV⟩
    subst hV
    go_wp2_with fail
    refine (pR.out _ _ H.out).mono ?_
    rintro e V4 ⟨rfl, h4⟩
    have H4 := hid h4
    clear h4
    go_wp2
    go_end0
    rw [RX.out]
    exact ⟨rfl, H4.out⟩
  rw [if_neg q1] at RX
  have d1 : (q == 1) = false := by simpa using q1
  by_cases q2 : q = 2
  · subst q2
    rw [if_pos rfl] at RX
    go_enter Tryd.func60, Tryd.ntmps60
    go_wp2_with fail
    refine (r17.out _ H.out).mono ?_
    rintro e V ⟨rfl, hV⟩
    subst hV
    go_wp2_with fail
    refine (rD.out _ H.out).mono ?_
    rintro e V4 ⟨rfl, h4⟩
    have H4 := hid h4
    clear h4
    go_wp2
    go_end0
    rw [RX.out]
    exact ⟨rfl, H4.out⟩
  rw [if_neg q2] at RX
  have d2 : (q == 2) = false := by simpa using q2
  have c37 := H.out.c.2.2.2.2.2.1
  have f37 := H.out.free 37
  clear q0 q1 q2
  go_enter Tryd.func60, Tryd.ntmps60
  go_wp2_with fail
  refine (r17.out _ H.out).mono ?_
  rintro e V ⟨rfl, hV⟩
  subst hV
  go_wp2
  go_end0
  rw [RX.out]
  exact ⟨rfl, _, _, H.out.putEnd 6⟩

end Go.Proofs.YtaiplongpjimnaaDoor

namespace Go.Proofs.YtaiplongpjimnaaDoor
open Go.RowKit

theorem zeroCells_one (m : Nat) : Builtin.zeroCells #[Value.int .i64 0] m = (List.replicate m (Value.int .i64 0)).toArray := by
  unfold Builtin.zeroCells
  apply Array.ext
  · simp
  · intro i h1 h2
    simp [Nat.mod_one]

theorem run_asIntOf (P : Program) (k : IntKind) (n : Int) (W : World) : Sem.run P (asIntOf (.int k n)) W = .ok (k, n) W := rfl

section
variable {P : Program} (w : World)

theorem run_append_zeros (base : Nat) (t u ty e : TypeId) (i : TypeInfo) (ht : P.underlying t = some (.slice e)) (hu : P.underlying u = some (.int .i64)) (hi : P.info? e = some i) (hz : i.zero = some (.int .i64 0))
    (hsize : i.size = 1) (hby : i.bytes = 8) (v : Value) (n : Nat) (xs : List Value) (hown : w.ownsRow base e 1 v n xs) (m : Nat) (hm : n + m ≤ 1048576) (hbase : base ≤ w.heap.size) :
    ∃ v' w', (Builtin.append_ #[t, u] ty #[v, .int .i64 m]).run P w = .ok v' w' ∧ w'.ownsRow base e 1 v' (n + m) (xs ++ List.replicate m (.int .i64 0)) ∧ w.grownBy w' v.ownBlock := by
  have hwm : IntKind.i64.wrap (m : Int) = (m : Int) := IntWalk.i64_in _ ⟨by omega, by omega⟩
  have hwm0 : IntKind.i64.wrap 0 = 0 := by decide
  have hneg : ¬ ((m : Int) < 0) := by omega
  have h48a : ¬ (281474976710656 < (m : Int) * 8) := by omega
  have hlen : (xs ++ List.replicate m (Value.int .i64 0)).length = (n + m) * 1 := by have := hown.1; simp at this ⊢; omega
  have hxl : xs.length = n := by have := hown.1; simpa using this
  have grown : ∀ (old : Nat) (row : Option Nat),
      (w.drew.alloc (.cells (xs.toArray ++ (List.replicate m (Value.int .i64 0)).toArray ++ Builtin.zeroCells #[.int .i64 0] (grownCap w (n + m) old e - (n + m))) e)).ownsRow base e 1
        (.slice (some ⟨w.heap.size, 0, none⟩) (n + m) (grownCap w (n + m) old e)) (n + m) (xs ++ List.replicate m (.int .i64 0)) ∧
      w.grownBy (w.drew.alloc (.cells (xs.toArray ++ (List.replicate m (Value.int .i64 0)).toArray ++ Builtin.zeroCells #[.int .i64 0] (grownCap w (n + m) old e - (n + m))) e)) row := by
    intro old row
    have hge := grownCap_ge w (n + m) old e
    have hcm : grownCap w (n + m) old e ≤ maxLen := grownCap_le_maxLen w (n + m) old e (by unfold maxLen; omega)
    refine ⟨⟨hlen, .inr ⟨w.heap.size, _, _, rfl, hbase, heap_alloc_new w.drew _, hge, hcm, ?_, ?_⟩⟩, ⟨rfl, rfl, rfl, (World.grownBy_alloc w.drew _ none).size, fun k hk _ => (World.grownBy_alloc w.drew _ none).block k hk (by simp)⟩⟩
    · simp [size_zeroCells]; omega
    · simp only [Array.toList_append, List.append_assoc]
      rw [← List.append_assoc, ← hlen]
      exact List.take_left
  rcases hown.2 with ⟨rfl, rfl⟩ | ⟨g, cap, cur, rfl, hbg, hg, hnc, hcm, hcs, htake⟩
  · have hx : xs = [] := List.eq_nil_of_length_eq_zero hxl
    subst hx
    by_cases hm0 : m = 0
    · refine ⟨.slice none 0 0, w, ?_, by rw [hm0]; exact World.ownsRow_nil w base e 1, ⟨rfl, rfl, rfl, Nat.le_refl _, fun _ _ _ => rfl⟩⟩
      simp [Builtin.append_, run_underlying ht, run_underlying hu, sizeOf, typeInfo, hi, asInt, run_asIntOf, hby, hm0, hwm0]
    · have h48' : ¬ (281474976710656 < Builtin.nextslicecap m 0 * 8) := by rw [nextslicecap_zero (by omega)]; omega
      have h63' : ¬ (9223372036854775807 < (m : Int)) := by omega
      have hgr := grown 0 (Value.ownBlock (.slice none 0 0))
      simp only [Nat.zero_add, List.nil_append, Array.empty_append] at hgr ⊢
      refine ⟨_, _, ?_, hgr.1, hgr.2⟩
      simp [Builtin.append_, run_underlying ht, run_underlying hu, sizeOf, typeInfo, zeroValue, hi, hz, asInt, run_asIntOf, hsize, hby, hwm, hm0, hneg, h48a, h48', h63', Question.forced, run_firstCells_none, newRow, grownCap, zeroCells_one, Value.cells]
  · have h63' : ¬ (9223372036854775807 < (n : Int) + (m : Int)) := by omega
    by_cases hroom : n + m ≤ cap
    · have hfit : n * 1 + (List.replicate m (Value.int .i64 0)).length ≤ cur.size := by rw [hcs]; simp; omega
      have hst := run_storeCells_at P g (n * 1) e (List.replicate m (Value.int .i64 0)) 0 cur w hg (by simpa using hfit) (by intro u hu; rw [List.eq_of_mem_replicate hu]; rfl)
      simp only [Nat.add_zero, Nat.mul_one] at hst
      refine ⟨.slice (some ⟨g, 0, none⟩) (n + m) cap, w.setRow g (cur.toList.take n ++ List.replicate m (Value.int .i64 0) ++ cur.toList.drop (n + m)).toArray, ?_, ⟨hlen, .inr ⟨g, cap, _, rfl, hbg, setRow_heap w g cur _ e _ hg, hroom, hcm, ?_, ?_⟩⟩, ⟨rfl, rfl, rfl, by simp, fun k _ hk => setRow_other w g k _ (fun e => hk (by simp [Value.ownBlock, e]))⟩⟩
      · by_cases hm0 : m = 0
        · have hst0 := hst
          simp [hm0] at hst0
          simp [Builtin.append_, run_underlying ht, run_underlying hu, sizeOf, typeInfo, hi, asInt, run_asIntOf, hsize, hby, hm0, hwm0, hnc, Addr.add_lit, hst0]
        · simp [Builtin.append_, run_underlying ht, run_underlying hu, sizeOf, typeInfo, zeroValue, hi, hz, asInt, run_asIntOf, hsize, hby, hwm, hm0, hneg, h48a, hroom, zeroCells_one, Value.cells, Addr.add_lit, hst]
      · simp only [List.size_toArray, List.length_append, List.length_take, List.length_drop, Array.length_toList, List.length_replicate]
        omega
      · have ht2 : cur.toList.take n = xs := by simpa using htake
        rw [ht2, ← hlen]
        exact List.take_left
    · have holds : ∀ j u, xs[j]? = some u → w.cell? ((⟨g, 0, none⟩ : Addr).add j) = some u := hown.cells (g := g) rfl
      have hgr := grown cap (Value.ownBlock (.slice (some ⟨g, 0, none⟩) n cap))
      have hm0 : m ≠ 0 := by omega
      have hfo := run_firstCells_some (P := P) w.drew 1 n ⟨g, 0, none⟩ n cap xs (by simpa using hxl) (by simpa using holds)
      have h48' : ¬ (281474976710656 < Builtin.nextslicecap (n + m) cap * 8) := by have := growslice_fits (need := n + m) (old := cap) (bytes := 8) (by omega) (by omega); omega
      refine ⟨_, _, ?_, hgr.1, hgr.2⟩
      simp [Builtin.append_, run_underlying ht, run_underlying hu, sizeOf, typeInfo, zeroValue, hi, hz, asInt, run_asIntOf, hsize, hby, hwm, hm0, hneg, h48a, h48', h63', hroom, Question.forced, hfo, newRow, grownCap, zeroCells_one, Value.cells]

theorem wpList_append_zeros {ops : Array Oper} {rest : List Oper} {o : Oper} {a : Act} {Q : Exit → Act → World → Prop} (hgd : o.guard = none) (s x : Operand) (t u : TypeId)
    (ho : o.op = .call { callee := .builtin .append, args := #[s, x], argTypes := #[t, u] })
    (base : Nat) (e : TypeId) (i : TypeInfo) (ht : P.underlying t = some (.slice e)) (hu : P.underlying u = some (.int .i64)) (hi : P.info? e = some i) (hz : i.zero = some (.int .i64 0))
    (hsize : i.size = 1) (hby : i.bytes = 8) (v : Value) (n : Nat) (xs : List Value) (hs : a.eval s = v) (hown : w.ownsRow base e 1 v n xs) (m : Nat) (hx : a.eval x = .int .i64 m) (hm : n + m ≤ 1048576) (hbase : base ≤ w.heap.size)
    (h : ∀ v' w', w'.ownsRow base e 1 v' (n + m) (xs ++ List.replicate m (.int .i64 0)) → w.grownBy w' v.ownBlock → wpList P ops Q rest (a.put o.dst v') w') : wpList P ops Q (o :: rest) a w := by
  refine wpList_plain hgd fun K hK => ?_
  obtain ⟨v', w', hr, h2, h3⟩ := run_append_zeros (P := P) w base t u o.type e i ht hu hi hz hsize hby v n xs hown m hm hbase
  unfold Oper.wp execOp
  simp only [ho, resolve, invoke, builtin, Sem.run_bind, Sem.run_pure, Result.andThen_ok, List.map_toArray, List.map_cons, List.map_nil, hs, hx, hr]
  exact hK _ _ (h v' w' h2 h3)

end
end Go.Proofs.YtaiplongpjimnaaDoor

namespace Go.Proofs.YtaiplongpjimnaaDoor
open Go.RowKit

namespace Im
def Clear (a : Int) (n : Int) : Prop := (4096 ≤ a ∧ a < 1073741824) ∧ a + 4 * n ≤ 1073741824 ∧ a % 16 = 0
instance (a n : Int) : Decidable (Clear a n) := by unfold Clear; infer_instance
instance (a b c d : Int) : Decidable (Meet a b c d) := by unfold Meet; infer_instance
end Im

theorem ret_bool {a b : Bool} (h : a = b) : Ending.returned (.bool a) = .returned (.bool b) := by rw [h]

set_option maxHeartbeats 2000000 in
theorem clear_any (a n : Int) (w : World) (h0 : 0 ≤ a) (h1 : a < 4294967296) (h2 : 0 ≤ n) (h3 : n ≤ 1048576) :
    Calls Tryd.prog 13 #[.int .i64 a, .int .i64 n] w fun e w' => e = .returned (.bool (decide (Im.Clear a n))) ∧ w' = w := by
  have e1 : IntKind.i64.wrap (4 * n) = 4 * n := IntWalk.i64_in _ ⟨by omega, by omega⟩
  have e2 : IntKind.i64.wrap (a + 4 * n) = a + 4 * n := IntWalk.i64_in _ ⟨by omega, by omega⟩
  by_cases c1 : 4096 ≤ a
  · have d1 : decide (4096 ≤ a) = true := by simpa using c1
    by_cases c2 : a < 1073741824
    · have d2 : decide (a < 1073741824) = true := by simpa using c2
      by_cases c3 : a + 4 * n ≤ 1073741824
      · have d3 : decide (a + 4 * n ≤ 1073741824) = true := by simpa using c3
        have Q := hid (show decide (Im.Clear a n) = (a % 16 == 0) by rw [Bool.eq_iff_iff]; simp [Im.Clear, c1, c2, c3])
        clear c1 c2 c3
        go_enter Tryd.func13, Tryd.ntmps13
        go_wp2
        go_ret
        exact ⟨ret_bool Q.out.symm, rfl⟩
      · have d3 : decide (a + 4 * n ≤ 1073741824) = false := by simpa using c3
        have Q := hid (show decide (Im.Clear a n) = false by simp [Im.Clear, c3])
        clear c1 c2 c3
        go_enter Tryd.func13, Tryd.ntmps13
        go_wp2
        go_ret
        exact ⟨ret_bool Q.out.symm, rfl⟩
    · have d2 : decide (a < 1073741824) = false := by simpa using c2
      have Q := hid (show decide (Im.Clear a n) = false by simp [Im.Clear, c2])
      clear c1 c2
      go_enter Tryd.func13, Tryd.ntmps13
      go_wp2
      go_ret
      exact ⟨ret_bool Q.out.symm, rfl⟩
  · have d1 : decide (4096 ≤ a) = false := by simpa using c1
    have Q := hid (show decide (Im.Clear a n) = false by simp [Im.Clear, c1])
    clear c1
    go_enter Tryd.func13, Tryd.ntmps13
    go_wp2
    go_ret
    exact ⟨ret_bool Q.out.symm, rfl⟩

set_option maxHeartbeats 2000000 in
theorem apart_any (a b c d : Int) (w : World) :
    Calls Tryd.prog 14 #[.int .i64 a, .int .i64 b, .int .i64 c, .int .i64 d] w fun e w' => e = .returned (.bool (decide (¬ Im.Meet a b c d))) ∧ w' = w := by
  by_cases c1 : a = b
  · have d1 : (a == b) = true := by simpa using c1
    have Q := hid (show decide (¬ Im.Meet a b c d) = true by simp [Im.Meet, c1])
    clear c1
    go_enter Tryd.func14, Tryd.ntmps14
    go_wp2
    go_ret
    exact ⟨ret_bool Q.out.symm, rfl⟩
  · have d1 : (a == b) = false := by simpa using c1
    by_cases c2 : c = d
    · have d2 : (c == d) = true := by simpa using c2
      have Q := hid (show decide (¬ Im.Meet a b c d) = true by simp [Im.Meet, c2])
      clear c1 c2
      go_enter Tryd.func14, Tryd.ntmps14
      go_wp2
      go_ret
      exact ⟨ret_bool Q.out.symm, rfl⟩
    · have d2 : (c == d) = false := by simpa using c2
      by_cases c3 : b ≤ c
      · have d3 : decide (b ≤ c) = true := by simpa using c3
        have Q := hid (show decide (¬ Im.Meet a b c d) = true by rw [decide_eq_true_iff]; intro h; have := h.2.2.2; omega)
        clear c1 c2 c3
        go_enter Tryd.func14, Tryd.ntmps14
        go_wp2
        go_ret
        exact ⟨ret_bool Q.out.symm, rfl⟩
      · have d3 : decide (b ≤ c) = false := by simpa using c3
        have Q := hid (show decide (¬ Im.Meet a b c d) = decide (d ≤ a) by
          rw [Bool.eq_iff_iff, decide_eq_true_iff, decide_eq_true_iff]
          unfold Im.Meet
          omega)
        clear c1 c2 c3
        go_enter Tryd.func14, Tryd.ntmps14
        go_wp2
        go_ret
        exact ⟨ret_bool Q.out.symm, rfl⟩

set_option maxHeartbeats 2000000 in
theorem index_any (n : Nat) (base a : Int) (w : World) (h0 : 0 ≤ a) (h1 : a < 4294967296) (h2 : 0 ≤ base) (h3 : base < 4294967296) :
    Calls Tryd.prog 22 #[.int .i64 a, .int .i64 base, .int .i64 n] w fun e w' => e = .returned (.int .i64 (Im.place base n a)) ∧ w' = w := by
  by_cases c1 : a < base
  · have R := hid (Im.place_out (n := n) (show ¬ Im.In base n a from fun h => by have := h.1; omega))
    have d1 : decide (a < base) = true := by simpa using c1
    clear c1
    go_enter Tryd.func22, Tryd.ntmps22
    go_wp2
    go_ret
    rw [R.out]
    exact ⟨rfl, rfl⟩
  · have d1 : decide (a < base) = false := by simpa using c1
    have e1 : IntKind.i64.wrap (a - base) = a - base := IntWalk.i64_in _ ⟨by omega, by omega⟩
    have e2 : (a - base).tmod 4 = (a - base) % 4 := Int.tmod_eq_emod_of_nonneg (by omega)
    have e3 : (a - base).tdiv 4 = (a - base) / 4 := Int.tdiv_eq_ediv_of_nonneg (by omega)
    by_cases c2 : (a - base) % 4 = 0
    · have d2 : ((a - base) % 4 == 0) = true := by simpa using c2
      by_cases c3 : (a - base) / 4 < n
      · have R := hid (Im.place_in (show Im.In base n a from ⟨by omega, c2, c3⟩))
        have d3 : decide ((n : Int) ≤ (a - base) / 4) = false := by simp; omega
        go_enter Tryd.func22, Tryd.ntmps22
        go_wp2
        go_ret
        rw [R.out]
        exact ⟨rfl, rfl⟩
      · have R := hid (Im.place_out (show ¬ Im.In base n a from fun h => c3 h.2.2))
        have d3 : decide ((n : Int) ≤ (a - base) / 4) = true := by simp; omega
        go_enter Tryd.func22, Tryd.ntmps22
        go_wp2
        go_ret
        rw [R.out]
        exact ⟨rfl, rfl⟩
    · have d2 : ((a - base) % 4 == 0) = false := by simpa using c2
      have R := hid (Im.place_out (n := n) (show ¬ Im.In base n a from fun h => c2 h.2.1))
      go_enter Tryd.func22, Tryd.ntmps22
      go_wp2
      go_ret
      rw [R.out]
      exact ⟨rfl, rfl⟩

/-- the document's image in block g -/
def RImgAt (W : World) (g : Nat) (m : Im.Img) : Prop :=
  ∃ vt vf vd, BlkAt W g #[.int .i64 m.start, .int .i64 m.text, .int .i64 m.far, .int .i64 m.data, vt, vf, vd] 49 ∧
    W.ownsRow 0 3 1 vt m.T.length (m.T.map (Value.int .i64)) ∧ W.ownsRow 0 3 1 vf m.F.length (m.F.map (Value.int .i64)) ∧
    W.ownsRow 0 3 1 vd (m.D.length + m.noughts.toNat) ((m.D ++ List.replicate m.noughts.toNat 0).map (Value.int .i64))

set_option maxHeartbeats 4000000 in
theorem fetch_any (g : Nat) (m : Im.Img) (a : Int) (w : World) (h : RImgAt w g m) (ht : Im.Tame m) (h0 : 0 ≤ a) (h1 : a < 4294967296) :
    Calls Tryd.prog 15 #[.pointer (some ⟨g, 0, none⟩), .int .i64 a] w fun e w' => e = .returned (.tuple #[.int .i64 ((Im.code m a).getD 0), .bool (Im.code m a).isSome]) ∧ ∃ n, w' = w.drewN n := by
  obtain ⟨vt, vf, vd, hb, q1, q2, -⟩ := h
  obtain ⟨at_, ct, rfl⟩ := own_form q1
  obtain ⟨af, cf, rfl⟩ := own_form q2
  have hc1 := own_cap q1
  have hc2 := own_cap q2
  have I1 := hid (IntsIn.of_own q1)
  have I2 := hid (IntsIn.of_own q2)
  have k1 := hb.cell 1
  have k2 := hb.cell 2
  have k4 := hb.cell 4
  have k5 := hb.cell 5
  simp only [List.getElem?_toArray, List.getElem?_cons_succ, List.getElem?_cons_zero] at k1 k2 k4 k5
  have cT := hid (fun W => index_any m.T.length m.text a W h0 h1 ht.text.1 ht.text.2)
  have cF := hid (fun W => index_any m.F.length m.far a W h0 h1 ht.far.1 ht.far.2)
  obtain ⟨X, hX⟩ : ∃ X, X = Im.code m a := ⟨_, rfl⟩
  rw [← hX]
  unfold Im.code at hX
  have RX := hid hX
  have r1 := Im.place_range m.text m.T.length a
  have r2 := Im.place_range m.far m.F.length a
  have L := hid ht.lens
  clear hX ht hb q1 q2
  generalize Im.place m.text m.T.length a = i at *
  generalize Im.place m.far m.F.length a = j at *
  have hl1 := L.out.1
  have hl2 := L.out.2.1
  by_cases ci : 0 ≤ i
  · have d1 : decide (0 ≤ i) = true := by simpa using ci
    have hi : i.toNat < m.T.length := by omega
    obtain ⟨sg, off, rfl, hcell⟩ := I1.out (by omega)
    have hck := hcell i.toNat hi
    rw [if_pos ci] at RX
    have GE := hid (show m.T.getD i.toNat 0 = m.T[i.toNat] from by rw [List.getD_eq_getElem?_getD, List.getElem?_eq_getElem hi]; rfl)
    rw [GE.out] at RX
    have g1 : i < (m.T.length : Int) := by omega
    clear hcell r1 r2 cF I1 I2 L GE
    generalize m.T[i.toNat] = v at *
    obtain ⟨n, rfl⟩ : ∃ n : Nat, i = n := ⟨i.toNat, by omega⟩
    rw [Int.toNat_natCast] at hck hi
    go_enter Tryd.func15, Tryd.ntmps15
    go_wp2
    go_quiet ((go_at_call 22; exact Calls.quiet_of_same (cT.out _)))
    go_wp2
    go_ret2
    rw [RX.out]
    exact ⟨rfl, _, rfl⟩
  · have d1 : decide (0 ≤ i) = false := by simpa using ci
    rw [if_neg ci] at RX
    obtain rfl : i = -1 := by omega
    clear I1 r1
    by_cases cj : 0 ≤ j
    · have d2 : decide (0 ≤ j) = true := by simpa using cj
      have hj : j.toNat < m.F.length := by omega
      obtain ⟨sg, off, rfl, hcell⟩ := I2.out (by omega)
      have hck := hcell j.toNat hj
      rw [if_pos cj] at RX
      have GE := hid (show m.F.getD j.toNat 0 = m.F[j.toNat] from by rw [List.getD_eq_getElem?_getD, List.getElem?_eq_getElem hj]; rfl)
      rw [GE.out] at RX
      have g1 : j < (m.F.length : Int) := by omega
      clear hcell r2 I2 L GE
      generalize m.F[j.toNat] = v at *
      obtain ⟨n, rfl⟩ : ∃ n : Nat, j = n := ⟨j.toNat, by omega⟩
      rw [Int.toNat_natCast] at hck hj
      go_enter Tryd.func15, Tryd.ntmps15
      go_wp2
      go_quiet ((go_at_call 22; exact Calls.quiet_of_same (cT.out _)))
      go_wp2
      have HE := hid (show ∃ n, w.drewN nq = w.drewN n from ⟨_, rfl⟩)
      replace k2 : (w.drewN nq).cell? ⟨g, 2, none⟩ = some (.int .i64 m.far) := k2
      replace k5 : (w.drewN nq).cell? ⟨g, 5, none⟩ = some (.slice (some ⟨sg, off, none⟩) m.F.length cf) := k5
      replace hck : (w.drewN nq).cell? ⟨sg, off + n, none⟩ = some (.int .i64 v) := hck
      generalize w.drewN nq = V at *
      go_quiet ((go_at_call 22; exact Calls.quiet_of_same (cF.out _)))
      go_wp2
      go_ret2
      rw [RX.out]
      exact ⟨rfl, by obtain ⟨q, hq⟩ := HE.out; exact ⟨_, by rw [hq, World.drewN_drewN]⟩⟩
    · have d2 : decide (0 ≤ j) = false := by simpa using cj
      rw [if_neg cj] at RX
      obtain rfl : j = -1 := by omega
      go_enter Tryd.func15, Tryd.ntmps15
      go_wp2
      go_quiet ((go_at_call 22; exact Calls.quiet_of_same (cT.out _)))
      go_wp2
      have HE := hid (show ∃ n, w.drewN nq = w.drewN n from ⟨_, rfl⟩)
      replace k2 : (w.drewN nq).cell? ⟨g, 2, none⟩ = some (.int .i64 m.far) := k2
      replace k5 : (w.drewN nq).cell? ⟨g, 5, none⟩ = some (.slice af m.F.length cf) := k5
      generalize w.drewN nq = V at *
      go_quiet ((go_at_call 22; exact Calls.quiet_of_same (cF.out _)))
      go_wp2
      go_ret2
      rw [RX.out]
      exact ⟨rfl, by obtain ⟨q, hq⟩ := HE.out; exact ⟨_, by rw [hq, World.drewN_drewN]⟩⟩

end Go.Proofs.YtaiplongpjimnaaDoor
