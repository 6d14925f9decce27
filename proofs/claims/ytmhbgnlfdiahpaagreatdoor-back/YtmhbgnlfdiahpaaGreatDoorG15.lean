/- The scanner goes forward only. -/
/- What a text's object keeps to, whatever the text says. -/
/- Walks over package wire's Writer. -/
/- Walks over package wire's Writer: Text, Bytes. -/
/- Walks over package object: the writers. -/
import Derived.Test.YtmhbgnlfdiahpaaGreatDoorG01
import Derived.Test.YtmhbgnlfdiahpaaGreatDoorG04
import Derived.Deep.RegionLaw
import Derived.Deep.AppendLies
import Derived.Test.YtmhbgnlfdiahpaaGreatDoorG14
namespace Go.Proofs.YtmhbgnlfdiahpaaGreatDoor
namespace As

theorem skip_up (f : UInt8 → Bool) (s : List UInt8) (p : Nat) : p ≤ skip f s p := by unfold skip; omega
theorem scanNum_up (s : List UInt8) (p : Nat) : p ≤ (scanNum s p).2.2 := by
  unfold scanNum
  split
  · simp
  split
  · exact skip_up _ _ _
  · exact skip_up _ _ _
theorem nextAt_up (s : List UInt8) (q : Nat) : q ≤ (nextAt s q).2.2 := by
  unfold nextAt
  split
  · exact Nat.le_refl _
  split
  · exact Nat.le_refl _
  split
  · exact scanNum_up s q
  split
  · exact skip_up _ _ _
  split
  · exact Nat.le_succ _
  · exact Nat.le_refl _
theorem next_up (s : List UInt8) (p : Nat) : p ≤ (next s p).2.2 := Nat.le_trans (skip_up _ s p) (nextAt_up s _)
theorem refuse_p (e pos : Nat) (st : St) : (refuse e pos st).p = st.p := by unfold refuse; split <;> rfl
theorem refuseIf_p (c : Bool) (e pos : Nat) (st : St) : (refuseIf c e pos st).p = st.p := by unfold refuseIf; split; exact refuse_p _ _ _; rfl
theorem advance_up (s : List UInt8) (st : St) : st.p ≤ (advance s st).p := by
  unfold advance
  split
  · exact Nat.le_refl _
  split
  · exact next_up s st.p
  · rw [refuse_p]; exact next_up s st.p
theorem takeWord_up (s : List UInt8) (st : St) : st.p ≤ (takeWord s st).2.p := by
  unfold takeWord
  split
  · exact advance_up s st
  · exact Nat.le_refl _
theorem checkName_p (t : Tok) (st : St) : (checkName t st).p = st.p := by unfold checkName; rw [refuseIf_p, refuseIf_p, refuseIf_p]
theorem symbolNamed_p (t : Tok) (st : St) : (symbolNamed t st).2.p = st.p := by
  unfold symbolNamed
  split
  · rfl
  split
  · rfl
  split
  · exact refuse_p _ _ _
  · rfl
theorem label_p (t : Tok) (st : St) : (label t st).p = st.p := by
  unfold label
  dsimp only
  have h := symbolNamed_p t (checkName t st)
  rw [checkName_p] at h
  split
  · exact h
  split
  · rw [refuse_p]; exact h
  · exact h
theorem name_up (s : List UInt8) (st : St) : st.p ≤ (name s st).2.p := by
  unfold name
  split
  · have := advance_up s (checkName st.tok st); rw [checkName_p] at this; exact this
  · rw [refuse_p]; exact Nat.le_refl _
theorem bind_up (s : List UInt8) (b : Int) (st : St) : st.p ≤ (bind s b st).p := by
  unfold bind
  dsimp only
  have h := symbolNamed_p (name s st).1 (name s st).2
  have h2 := name_up s st
  split
  · omega
  split
  · rw [refuse_p]; omega
  · show _ ≤ (symbolNamed (name s st).1 (name s st).2).2.p; omega
theorem sign_up (s c : List UInt8) (st : St) : st.p ≤ (sign s c st).p := by
  unfold sign
  split
  · exact advance_up s st
  · rw [refuse_p]; exact Nat.le_refl _
theorem register_up (s : List UInt8) (st : St) : st.p ≤ (register s st).2.p := by
  unfold register
  split
  · split
    · rw [refuse_p]; exact Nat.le_refl _
    · exact advance_up s st
  · rw [refuse_p]; exact Nat.le_refl _
theorem numberFrom_up (s : List UInt8) (neg : Bool) (pos : Nat) (lo hi : Int) (st : St) : st.p ≤ (numberFrom s neg pos lo hi st).2.p := by
  unfold numberFrom
  generalize (if neg then -(st.tok.n : Int) else (st.tok.n : Int)) = x
  split
  · by_cases h : x < lo ∨ hi < x
    · rw [if_pos h, refuse_p]; exact Nat.le_refl _
    · rw [if_neg h]; exact advance_up s st
  · rw [refuse_p]; exact Nat.le_refl _
theorem number_up (s : List UInt8) (lo hi : Int) (st : St) : st.p ≤ (number s lo hi st).2.p := by
  unfold number
  split
  · exact Nat.le_trans (advance_up s st) (numberFrom_up _ _ _ _ _ _)
  · exact numberFrom_up _ _ _ _ _ _
theorem symbol_up (s : List UInt8) (st : St) : st.p ≤ (symbol s st).2.p := by
  unfold symbol
  dsimp only
  rw [symbolNamed_p]
  exact name_up s st
theorem target_up (s : List UInt8) (st : St) : st.p ≤ (target s st).2.p := by
  unfold target
  dsimp only
  have h := symbol_up s st
  split
  · exact Nat.le_trans h (Nat.le_trans (advance_up s _) (number_up _ _ _ _))
  split
  · exact Nat.le_trans h (Nat.le_trans (advance_up s _) (number_up _ _ _ _))
  · exact h
theorem place_up (s : List UInt8) (st : St) : st.p ≤ (place s st).2.p :=
  Nat.le_trans (number_up s _ _ st) (Nat.le_trans (sign_up s _ _) (Nat.le_trans (register_up s _) (sign_up s _ _)))
theorem lay_p (ws : List Int) (st : St) : (lay ws st).p = st.p := by
  unfold lay
  split
  · exact refuse_p _ _ _
  split <;> rfl
theorem layWith_p (kind : Int) (sym : Nat) (addend : Int) (ws : List Int) (st : St) : (layWith kind sym addend ws st).p = st.p := by
  unfold layWith
  dsimp only
  split
  · exact refuseIf_p _ _ _ _
  · rw [lay_p]; exact refuseIf_p _ _ _ _
theorem layOne_p (op rd rs1 rs2 : Nat) (n : Int) (st : St) : (layOne op rd rs1 rs2 n st).p = st.p := lay_p _ _
theorem layAddress_p (reg op rd rs1 rs2 : Nat) (n : Int) (sym : Nat) (addend : Int) (st : St) : (layAddress reg op rd rs1 rs2 n sym addend st).p = st.p := by
  unfold layAddress; rw [layWith_p, refuseIf_p]

theorem up2 {a b c : Nat} (h : a ≤ b) (k : b ≤ c) : a ≤ c := Nat.le_trans h k
theorem threeRegs_up (s : List UInt8) (op : Nat) (st : St) : st.p ≤ (threeRegs s op st).p := by
  unfold threeRegs; dsimp only; rw [layOne_p]
  exact up2 (register_up s st) (up2 (sign_up s _ _) (up2 (register_up s _) (up2 (sign_up s _ _) (register_up s _))))
theorem twoRegsNum_up (s : List UInt8) (op : Nat) (st : St) : st.p ≤ (twoRegsNum s op st).p := by
  unfold twoRegsNum; dsimp only; rw [layOne_p]
  exact up2 (register_up s st) (up2 (sign_up s _ _) (up2 (register_up s _) (up2 (sign_up s _ _) (number_up s _ _ _))))
theorem upper_up (s : List UInt8) (st : St) : st.p ≤ (upper s st).p := by
  unfold upper; dsimp only; rw [layOne_p]
  exact up2 (register_up s st) (up2 (sign_up s _ _) (number_up s _ _ _))
theorem load_up (s : List UInt8) (st : St) : st.p ≤ (load s st).p := by
  unfold load; dsimp only
  split
  · rw [layAddress_p]; exact up2 (register_up s st) (up2 (sign_up s _ _) (target_up s _))
  · rw [layOne_p]; exact up2 (register_up s st) (up2 (sign_up s _ _) (place_up s _))
theorem store_up (s : List UInt8) (st : St) : st.p ≤ (store s st).p := by
  unfold store; dsimp only
  split
  · rw [layAddress_p]; exact up2 (register_up s st) (up2 (sign_up s _ _) (up2 (target_up s _) (up2 (sign_up s _ _) (register_up s _))))
  · rw [layOne_p]; exact up2 (register_up s st) (up2 (sign_up s _ _) (place_up s _))
theorem loadAddress_up (s : List UInt8) (st : St) : st.p ≤ (loadAddress s st).p := by
  unfold loadAddress; dsimp only; rw [layAddress_p]
  exact up2 (register_up s st) (up2 (sign_up s _ _) (target_up s _))
theorem jumpRegister_up (s : List UInt8) (st : St) : st.p ≤ (jumpRegister s st).p := by
  unfold jumpRegister; dsimp only; rw [layOne_p]
  exact up2 (register_up s st) (up2 (sign_up s _ _) (place_up s _))
theorem bare_p (st : St) : (bare st).p = st.p := by
  unfold bare
  split
  · exact layOne_p ..
  split
  · exact layOne_p ..
  split
  · exact layOne_p ..
  · rfl
theorem branch_up (s : List UInt8) (op : Nat) (st : St) : st.p ≤ (branch s op st).p := by
  unfold branch; dsimp only; rw [layWith_p]
  exact up2 (register_up s st) (up2 (sign_up s _ _) (up2 (register_up s _) (up2 (sign_up s _ _) (symbol_up s _))))
theorem layJump_up (s : List UInt8) (rd : Nat) (st : St) : st.p ≤ (layJump s rd st).p := by
  unfold layJump; dsimp only; rw [layWith_p]
  exact symbol_up s st
theorem jumpLink_up (s : List UInt8) (st : St) : st.p ≤ (jumpLink s st).p := by
  unfold jumpLink; dsimp only
  exact up2 (register_up s st) (up2 (sign_up s _ _) (layJump_up s _ _))
theorem move_up (s : List UInt8) (st : St) : st.p ≤ (move s st).p := by
  unfold move; dsimp only; rw [layOne_p]
  exact up2 (register_up s st) (up2 (sign_up s _ _) (register_up s _))
theorem loadNumber_up (s : List UInt8) (st : St) : st.p ≤ (loadNumber s st).p := by
  unfold loadNumber; dsimp only
  split
  · rw [layOne_p]; exact up2 (register_up s st) (up2 (sign_up s _ _) (number_up s _ _ _))
  · rw [lay_p]; exact up2 (register_up s st) (up2 (sign_up s _ _) (number_up s _ _ _))
theorem call_up (s : List UInt8) (st : St) : st.p ≤ (call s st).p := by
  unfold call; dsimp only; rw [layWith_p]
  exact symbol_up s st
theorem section_p (st : St) : (section' st).p = st.p := by
  unfold section'
  repeat' split
  all_goals rfl
theorem word_up (s : List UInt8) (st : St) : st.p ≤ (word s st).p := by
  unfold word; dsimp only
  split
  · rw [layWith_p]; exact target_up s st
  · rw [lay_p]; exact number_up s _ _ st
theorem space_up (s : List UInt8) (st : St) : st.p ≤ (space s st).p := by
  unfold space; dsimp only
  split
  · rw [lay_p]; exact number_up s _ _ st
  · rw [refuse_p]; exact number_up s _ _ st
theorem raiseBorder_p (k : Int) (st : St) : (raiseBorder k st).p = st.p := by unfold raiseBorder; split <;> rfl
theorem alignTo_p (b : Nat) (st : St) : (alignTo b st).p = st.p := by
  unfold alignTo
  split
  · split
    · exact layWith_p _ _ _ _ _
    · rfl
  · exact lay_p _ _
theorem align_up (s : List UInt8) (st : St) : st.p ≤ (align s st).p := by
  unfold align; dsimp only
  split
  · exact number_up s _ _ st
  · rw [raiseBorder_p, alignTo_p]; exact number_up s _ _ st
theorem instruction_up (s : List UInt8) (shape op : Nat) (st : St) : st.p ≤ (instruction s shape op st).p := by
  unfold instruction
  by_cases h : shape = 1
  · rw [if_pos h]; exact threeRegs_up _ _ _
  rw [if_neg h]
  clear h
  by_cases h : shape = 2
  · rw [if_pos h]; exact twoRegsNum_up _ _ _
  rw [if_neg h]
  clear h
  by_cases h : shape = 3
  · rw [if_pos h]; exact upper_up _ _
  rw [if_neg h]
  clear h
  by_cases h : shape = 4
  · rw [if_pos h]; exact load_up _ _
  rw [if_neg h]
  clear h
  by_cases h : shape = 5
  · rw [if_pos h]; exact store_up _ _
  rw [if_neg h]
  clear h
  by_cases h : shape = 6
  · rw [if_pos h]; exact jumpRegister_up _ _
  rw [if_neg h]
  clear h
  by_cases h : shape = 7
  · rw [if_pos h]; rw [bare_p]; exact Nat.le_refl _
  rw [if_neg h]
  clear h
  by_cases h : shape = 8
  · rw [if_pos h]; exact branch_up _ _ _
  rw [if_neg h]
  clear h
  by_cases h : shape = 9
  · rw [if_pos h]; exact jumpLink_up _ _
  rw [if_neg h]
  clear h
  by_cases h : shape = 10
  · rw [if_pos h]; exact layJump_up _ _ _
  rw [if_neg h]
  clear h
  by_cases h : shape = 11
  · rw [if_pos h]; exact move_up _ _
  rw [if_neg h]
  clear h
  by_cases h : shape = 12
  · rw [if_pos h]; exact loadNumber_up _ _
  rw [if_neg h]
  clear h
  by_cases h : shape = 13
  · rw [if_pos h]; exact call_up _ _
  rw [if_neg h]
  clear h
  by_cases h : shape = 14
  · rw [if_pos h]; exact loadAddress_up _ _
  rw [if_neg h]
  clear h
  exact Nat.le_refl _
theorem directive_up (s : List UInt8) (shape : Nat) (st : St) : st.p ≤ (directive s shape st).p := by
  unfold directive
  split
  · rw [section_p]; exact Nat.le_refl _
  split
  · exact word_up _ _
  split
  · exact space_up _ _
  split
  · exact align_up _ _
  split
  · exact bind_up _ _ _
  · exact Nat.le_refl _
theorem operation_up (s : List UInt8) (t : Tok) (st : St) : st.p ≤ (operation s t st).p := by
  unfold operation
  split
  · rw [refuse_p]; exact Nat.le_refl _
  split
  · rw [refuse_p]; exact Nat.le_refl _
  split
  · exact instruction_up _ _ _ { st with op := t }
  · exact directive_up _ _ { st with op := t }
theorem lineOp_up (s : List UInt8) (t : Tok) (st : St) : st.p ≤ (lineOp s t st).p := by
  unfold lineOp; dsimp only
  have h : st.p ≤ (if t.kind == 1 then operation s t st else st).p := by
    split
    · exact operation_up _ _ _
    · exact Nat.le_refl _
  generalize (if t.kind == 1 then operation s t st else st) = x at h ⊢
  split
  · exact h
  · rw [refuse_p]; exact h
theorem line_up (s : List UInt8) (st : St) : st.p ≤ (line s st).p := by
  unfold line; dsimp only
  have h := up2 (advance_up s st) (takeWord_up s (advance s st))
  split
  · refine up2 h (up2 (Nat.le_of_eq (label_p _ _).symm) (up2 (advance_up s _) (up2 (takeWord_up s _) (lineOp_up _ _ _))))
  · exact up2 h (lineOp_up _ _ _)
theorem nextLine_up (s : List UInt8) (st : St) (h : (nextLine s st).1 = true) : st.p < (nextLine s st).2.p ∧ (nextLine s st).2.p ≤ s.length := by
  unfold nextLine at h ⊢
  split at h
  · cases h
  · rename_i hf
    rw [if_neg hf]
    have k := skip_up notEnd s st.p
    unfold lineEnd at h ⊢
    split at h
    · rename_i hl
      rw [if_pos hl]
      exact ⟨by show st.p < skip notEnd s st.p + 1; omega, by show skip notEnd s st.p + 1 ≤ s.length; omega⟩
    · cases h

end As
end Go.Proofs.YtmhbgnlfdiahpaaGreatDoor

namespace Go.Proofs.YtmhbgnlfdiahpaaGreatDoor
namespace As

structure Tm (o : Lk.Obj) : Prop where
  text : o.text.length ≤ 1200
  far : o.far.length ≤ 1200
  data : o.data.length ≤ 64
  bss : 0 ≤ o.bss ∧ o.bss ≤ 64
  names : ∀ y ∈ o.syms, y.name.length ≤ 6
  offs : ∀ r ∈ o.rels, r.off ≤ 4800

theorem secLen_le {o : Lk.Obj} (h : Tm o) (sect : Nat) : secLen o sect ≤ 1200 := by
  have h1 := h.text
  have h2 := h.far
  have h3 := h.data
  have h4 := h.bss
  unfold secLen
  repeat' split
  all_goals omega
theorem refuse_obj (e pos : Nat) (st : St) : (refuse e pos st).obj = st.obj := by unfold refuse; split <;> rfl
theorem refuseIf_obj (c : Bool) (e pos : Nat) (st : St) : (refuseIf c e pos st).obj = st.obj := by unfold refuseIf; split; exact refuse_obj _ _ _; rfl
theorem advance_obj (s : List UInt8) (st : St) : (advance s st).obj = st.obj := by
  unfold advance
  split
  · rfl
  split
  · rfl
  · rw [refuse_obj]
theorem takeWord_obj (s : List UInt8) (st : St) : (takeWord s st).2.obj = st.obj := by
  unfold takeWord
  split
  · exact advance_obj s st
  · rfl
theorem checkName_obj (t : Tok) (st : St) : (checkName t st).obj = st.obj := by unfold checkName; rw [refuseIf_obj, refuseIf_obj, refuseIf_obj]
theorem name_obj (s : List UInt8) (st : St) : (name s st).2.obj = st.obj := by
  unfold name
  split
  · show (advance s _).obj = _; rw [advance_obj, checkName_obj]
  · exact refuse_obj _ _ _
theorem sign_obj (s c : List UInt8) (st : St) : (sign s c st).obj = st.obj := by
  unfold sign
  split
  · exact advance_obj s st
  · exact refuse_obj _ _ _
theorem register_obj (s : List UInt8) (st : St) : (register s st).2.obj = st.obj := by
  unfold register
  split
  · split
    · exact refuse_obj _ _ _
    · exact advance_obj _ _
  · exact refuse_obj _ _ _
theorem numberFrom_obj (s : List UInt8) (neg : Bool) (pos : Nat) (lo hi : Int) (st : St) : (numberFrom s neg pos lo hi st).2.obj = st.obj := by
  unfold numberFrom
  generalize (if neg = true then -(st.tok.n : Int) else (st.tok.n : Int)) = v
  split
  · split
    · exact refuse_obj _ _ _
    · exact advance_obj _ _
  · exact refuse_obj _ _ _
theorem number_obj (s : List UInt8) (lo hi : Int) (st : St) : (number s lo hi st).2.obj = st.obj := by
  unfold number
  split
  · rw [numberFrom_obj, advance_obj]
  · rw [numberFrom_obj]
theorem place_obj (s : List UInt8) (st : St) : (place s st).2.obj = st.obj := by
  unfold place; dsimp only
  rw [sign_obj, register_obj, sign_obj, number_obj]

theorem failed_refuse (e pos : Nat) (he : e ≠ 0) (st : St) : failed (refuse e pos st) = true := by
  unfold refuse
  split
  · assumption
  · simp [failed, he]
theorem failed_refuseIf (c : Bool) (e pos : Nat) (st : St) (h : failed (refuseIf c e pos st) = false) : failed st = false := by
  unfold refuseIf at h
  split at h
  · unfold refuse at h
    split at h
    · exact h
    · rename_i hf; simpa using hf
  · exact h
theorem refuseIf_no (c : Bool) (e pos : Nat) (he : e ≠ 0) (st : St) (h : failed (refuseIf c e pos st) = false) : c = false := by
  unfold refuseIf at h
  split at h
  · rw [failed_refuse e pos he] at h; cases h
  · rename_i hc; simpa using hc
theorem failed_advance (s : List UInt8) (st : St) (h : failed (advance s st) = false) : failed st = false := by
  unfold advance at h
  split at h
  · exact h
  · rename_i hf; simpa using hf
theorem checkName_ok (t : Tok) (st : St) (h : failed (checkName t st) = false) : t.text.length ≤ 6 := by
  unfold checkName at h
  have := refuseIf_no _ _ _ (by decide) _ (failed_refuseIf _ _ _ _ h)
  simpa using this
theorem name_ok (s : List UInt8) (st : St) (h : failed (name s st).2 = false) : (name s st).1.text.length ≤ 6 := by
  unfold name at h ⊢
  split at h
  · rename_i hk
    rw [if_pos hk]
    exact checkName_ok _ _ (failed_advance s _ h)
  · rename_i hk
    rw [if_neg hk]
    exact Nat.zero_le _

theorem symbolNamed_tm (t : Tok) (st : St) (h : Tm st.obj) (ht : failed st = false → t.text.length ≤ 6) : Tm (symbolNamed t st).2.obj := by
  unfold symbolNamed
  split
  · exact h
  rename_i hf
  have hf' : failed st = false := by simpa using hf
  split
  · exact h
  split
  · show Tm (refuse _ _ _).obj; rw [refuse_obj]; exact h
  · refine ⟨h.text, h.far, h.data, h.bss, fun y hy => ?_, h.offs⟩
    rcases List.mem_append.1 hy with hy | hy
    · exact h.names y hy
    · simp at hy; subst hy; exact ht hf'
theorem mem_modify {α : Type} (l : List α) (i : Nat) (f : α → α) (y : α) (h : y ∈ l.modify i f) : ∃ x ∈ l, y = x ∨ y = f x := by
  obtain ⟨j, hj, rfl⟩ := List.getElem_of_mem h
  rw [List.getElem_modify]
  refine ⟨l[j]'(by simpa using hj), List.getElem_mem _, ?_⟩
  split
  · exact .inr rfl
  · exact .inl rfl
theorem setSym_tm (st : St) (i : Nat) (f : Lk.Sym → Lk.Sym) (h : Tm st.obj) (hf : ∀ y, (f y).name = y.name) : Tm (setSym st i f).obj := by
  refine ⟨h.text, h.far, h.data, h.bss, fun y hy => ?_, h.offs⟩
  obtain ⟨x, hx, rfl | rfl⟩ := mem_modify _ _ _ _ hy
  · exact h.names _ hx
  · rw [hf]; exact h.names _ hx
theorem label_tm (t : Tok) (st : St) (h : Tm st.obj) : Tm (label t st).obj := by
  unfold label; dsimp only
  have k := symbolNamed_tm t (checkName t st) (by rw [checkName_obj]; exact h) (checkName_ok t st)
  split
  · exact k
  split
  · rw [refuse_obj]; exact k
  · exact setSym_tm _ _ _ k fun _ => rfl
theorem bind_tm (s : List UInt8) (binding : Int) (st : St) (h : Tm st.obj) : Tm (bind s binding st).obj := by
  unfold bind; dsimp only
  have k := symbolNamed_tm (name s st).1 (name s st).2 (by rw [name_obj]; exact h) (name_ok s st)
  split
  · exact k
  split
  · rw [refuse_obj]; exact k
  · exact setSym_tm _ _ _ k fun _ => rfl
theorem symbol_tm (s : List UInt8) (st : St) (h : Tm st.obj) : Tm (symbol s st).2.obj := symbolNamed_tm (name s st).1 (name s st).2 (by rw [name_obj]; exact h) (name_ok s st)
theorem target_tm (s : List UInt8) (st : St) (h : Tm st.obj) : Tm (target s st).2.obj := by
  unfold target; dsimp only
  have k := symbol_tm s st h
  split
  · rw [number_obj, advance_obj]; exact k
  split
  · rw [number_obj, advance_obj]; exact k
  · exact k
theorem addWords_tm (o : Lk.Obj) (sect : Nat) (ws : List Int) (h : Tm o) (hl : ¬ 4 * limit sect < 4 * secLen o sect + 4 * (ws.length : Int)) : Tm (addWords o sect ws) := by
  unfold limit secLen at hl
  have h4 := h.bss
  unfold addWords
  split
  · rename_i e; subst e
    simp at hl
    exact ⟨by simp; omega, h.far, h.data, h.bss, h.names, h.offs⟩
  split
  · rename_i e; subst e
    simp at hl
    exact ⟨h.text, by simp; omega, h.data, h.bss, h.names, h.offs⟩
  split
  · rename_i e; subst e
    simp at hl
    exact ⟨h.text, h.far, by simp; omega, h.bss, h.names, h.offs⟩
  split
  · rename_i e; subst e
    simp at hl
    exact ⟨h.text, h.far, h.data, by simp; omega, h.names, h.offs⟩
  · exact h
theorem lay_tm (ws : List Int) (st : St) (h : Tm st.obj) : Tm (lay ws st).obj := by
  unfold lay
  split
  · rw [refuse_obj]; exact h
  split
  · exact h
  · rename_i hl _
    exact addWords_tm _ _ _ h hl
theorem layWith_tm (kind : Int) (sym : Nat) (addend : Int) (ws : List Int) (st : St) (h : Tm st.obj) : Tm (layWith kind sym addend ws st).obj := by
  unfold layWith; dsimp only
  have k : Tm (refuseIf (decide (32 ≤ st.obj.rels.length)) 12 st.op.pos st).obj := by rw [refuseIf_obj]; exact h
  split
  · exact k
  · refine lay_tm _ _ ⟨k.text, k.far, k.data, k.bss, k.names, fun r hr => ?_⟩
    rcases List.mem_append.1 hr with hr | hr
    · exact k.offs r hr
    · simp at hr; subst hr
      have := secLen_le k (refuseIf (decide (32 ≤ st.obj.rels.length)) 12 st.op.pos st).sect
      show 4 * _ ≤ (4800 : Int)
      omega
theorem layOne_tm (op rd rs1 rs2 : Nat) (n : Int) (st : St) (h : Tm st.obj) : Tm (layOne op rd rs1 rs2 n st).obj := lay_tm _ _ h
theorem layAddress_tm (reg op rd rs1 rs2 : Nat) (n : Int) (sym : Nat) (addend : Int) (st : St) (h : Tm st.obj) : Tm (layAddress reg op rd rs1 rs2 n sym addend st).obj := by
  unfold layAddress
  exact layWith_tm _ _ _ _ _ (by rw [refuseIf_obj]; exact h)
theorem ite_tm {c : Prop} [Decidable c] {a b : St} (ha : Tm a.obj) (hb : Tm b.obj) : Tm (if c then a else b).obj := by
  by_cases h : c
  · rw [if_pos h]; exact ha
  · rw [if_neg h]; exact hb
section
variable (s : List UInt8) (op : Nat) (st : St) (h : Tm st.obj)
include h
theorem threeRegs_tm : Tm (threeRegs s op st).obj := by unfold threeRegs; dsimp only; refine layOne_tm _ _ _ _ _ _ ?_; rw [register_obj, sign_obj, register_obj, sign_obj, register_obj]; exact h
theorem twoRegsNum_tm : Tm (twoRegsNum s op st).obj := by unfold twoRegsNum; dsimp only; refine layOne_tm _ _ _ _ _ _ ?_; rw [number_obj, sign_obj, register_obj, sign_obj, register_obj]; exact h
theorem upper_tm : Tm (upper s st).obj := by unfold upper; dsimp only; refine layOne_tm _ _ _ _ _ _ ?_; rw [number_obj, sign_obj, register_obj]; exact h
theorem load_tm : Tm (load s st).obj := by
  unfold load; dsimp only
  refine ite_tm ?_ ?_
  · refine layAddress_tm _ _ _ _ _ _ _ _ _ (target_tm s _ ?_); rw [sign_obj, register_obj]; exact h
  · refine layOne_tm _ _ _ _ _ _ ?_; rw [place_obj, sign_obj, register_obj]; exact h
theorem store_tm : Tm (store s st).obj := by
  unfold store; dsimp only
  refine ite_tm ?_ ?_
  · refine layAddress_tm _ _ _ _ _ _ _ _ _ ?_; rw [register_obj, sign_obj]; refine target_tm s _ ?_; rw [sign_obj, register_obj]; exact h
  · refine layOne_tm _ _ _ _ _ _ ?_; rw [place_obj, sign_obj, register_obj]; exact h
theorem jumpRegister_tm : Tm (jumpRegister s st).obj := by unfold jumpRegister; dsimp only; refine layOne_tm _ _ _ _ _ _ ?_; rw [place_obj, sign_obj, register_obj]; exact h
theorem bare_tm : Tm (bare st).obj := by
  unfold bare
  exact ite_tm (layOne_tm _ _ _ _ _ _ h) (ite_tm (layOne_tm _ _ _ _ _ _ h) (ite_tm (layOne_tm _ _ _ _ _ _ h) h))
theorem branch_tm : Tm (branch s op st).obj := by unfold branch; dsimp only; refine layWith_tm _ _ _ _ _ (symbol_tm s _ ?_); rw [sign_obj, register_obj, sign_obj, register_obj]; exact h
theorem layJump_tm (rd : Nat) : Tm (layJump s rd st).obj := by unfold layJump; dsimp only; exact layWith_tm _ _ _ _ _ (symbol_tm s _ h)
theorem move_tm : Tm (move s st).obj := by unfold move; dsimp only; refine layOne_tm _ _ _ _ _ _ ?_; rw [register_obj, sign_obj, register_obj]; exact h
theorem loadNumber_tm : Tm (loadNumber s st).obj := by
  unfold loadNumber; dsimp only
  refine ite_tm ?_ ?_
  · refine layOne_tm _ _ _ _ _ _ ?_; rw [number_obj, sign_obj, register_obj]; exact h
  · refine lay_tm _ _ ?_; rw [number_obj, sign_obj, register_obj]; exact h
theorem call_tm : Tm (call s st).obj := by unfold call; dsimp only; exact layWith_tm _ _ _ _ _ (symbol_tm s _ h)
theorem loadAddress_tm : Tm (loadAddress s st).obj := by unfold loadAddress; dsimp only; refine layAddress_tm _ _ _ _ _ _ _ _ _ (target_tm s _ ?_); rw [sign_obj, register_obj]; exact h
end
theorem jumpLink_tm (s : List UInt8) (st : St) (h : Tm st.obj) : Tm (jumpLink s st).obj := by unfold jumpLink; dsimp only; refine layJump_tm s _ ?_ _; rw [sign_obj, register_obj]; exact h
theorem instruction_tm (s : List UInt8) (shape op : Nat) (st : St) (h : Tm st.obj) : Tm (instruction s shape op st).obj := by
  unfold instruction
  exact ite_tm (threeRegs_tm s op st h) (ite_tm (twoRegsNum_tm s op st h) (ite_tm (upper_tm s st h) (ite_tm (load_tm s st h) (ite_tm (store_tm s st h) (ite_tm (jumpRegister_tm s st h) (ite_tm (bare_tm st h) (ite_tm (branch_tm s op st h) (ite_tm (jumpLink_tm s st h) (ite_tm (layJump_tm s st h 0) (ite_tm (move_tm s st h) (ite_tm (loadNumber_tm s st h) (ite_tm (call_tm s st h) (ite_tm (loadAddress_tm s st h) h)))))))))))))
theorem section_obj (st : St) : (section' st).obj = st.obj := by unfold section'; (repeat' split) <;> rfl
theorem directive_tm (s : List UInt8) (shape : Nat) (st : St) (h : Tm st.obj) : Tm (directive s shape st).obj := by
  unfold directive
  split
  · rw [section_obj]; exact h
  split
  · unfold word; dsimp only
    split
    · exact layWith_tm _ _ _ _ _ (target_tm s _ h)
    · refine lay_tm _ _ ?_; rw [number_obj]; exact h
  split
  · unfold space; dsimp only
    split
    · refine lay_tm _ _ ?_; rw [number_obj]; exact h
    · rw [refuse_obj, number_obj]; exact h
  split
  · unfold align; dsimp only
    have k : Tm (number s 2 4 st).2.obj := by rw [number_obj]; exact h
    split
    · exact k
    · have k2 : Tm (alignTo (2 ^ (number s 2 4 st).1.toNat) (number s 2 4 st).2).obj := by
        unfold alignTo
        split
        · split
          · exact layWith_tm _ _ _ _ _ k
          · exact k
        · exact lay_tm _ _ k
      unfold raiseBorder
      split
      · exact ⟨k2.text, k2.far, k2.data, k2.bss, k2.names, k2.offs⟩
      · exact k2
  split
  · unfold binding; exact bind_tm s _ _ h
  · exact h
theorem operation_tm (s : List UInt8) (t : Tok) (st : St) (h : Tm st.obj) : Tm (operation s t st).obj := by
  unfold operation
  split
  · rw [refuse_obj]; exact h
  split
  · rw [refuse_obj]; exact h
  split
  · exact instruction_tm s _ _ _ h
  · exact directive_tm s _ _ h
theorem lineOp_tm (s : List UInt8) (t : Tok) (st : St) (h : Tm st.obj) : Tm (lineOp s t st).obj := by
  unfold lineOp; dsimp only
  have k : Tm (if t.kind == 1 then operation s t st else st).obj := ite_tm (operation_tm s t st h) h
  exact ite_tm k (by rw [refuse_obj]; exact k)
theorem line_tm (s : List UInt8) (st : St) (h : Tm st.obj) : Tm (line s st).obj := by
  unfold line; dsimp only
  split
  · refine lineOp_tm s _ _ ?_
    rw [takeWord_obj, advance_obj]
    refine label_tm _ _ ?_
    rw [takeWord_obj, advance_obj]; exact h
  · refine lineOp_tm s _ _ ?_
    rw [takeWord_obj, advance_obj]; exact h
theorem nextLine_obj (s : List UInt8) (st : St) : (nextLine s st).2.obj = st.obj := by unfold nextLine; split <;> rfl
theorem lines_tm (s : List UInt8) (n : Nat) (st : St) (h : Tm st.obj) : Tm (lines s n st).obj := by
  induction n generalizing st with
  | zero => exact h
  | succ n ih =>
    unfold lines; dsimp only
    have k : Tm (nextLine s (line s st)).2.obj := by rw [nextLine_obj]; exact line_tm s st h
    split
    · exact ih _ k
    · exact k
theorem start_tm : Tm start.obj := ⟨by decide, by decide, by decide, by decide, by simp [start], by simp [start]⟩

end As
end Go.Proofs.YtmhbgnlfdiahpaaGreatDoor

namespace Go.Proofs.YtmhbgnlfdiahpaaGreatDoor
open Go.RowKit

theorem Tryz.infoU8 : (Tryz.prog.info? 5).map (fun i => (i.zero, i.size, i.bytes)) = some (some (.int .u8 0), 1, 1) := by kernel_rfl

def byV (l : List UInt8) : List Value := l.map fun c => .int .u8 c.toNat

/-- a Writer lies in block b and has gathered l -/
def WrAt (W : World) (b : Nat) (l : List UInt8) : Prop :=
  ∃ ao cap, BlkAt W b #[.slice ao l.length cap] 66 ∧ W.ownsRow (b + 1) 5 1 (.slice ao l.length cap) l.length (byV l)

theorem wrAt_new (W : World) : WrAt (W.alloc (.cells #[.slice none 0 0] 66)) W.heap.size [] :=
  ⟨none, 0, BlkAt.new W _ _, World.ownsRow_nil _ _ _ _⟩

theorem i64_and255 (n : Int) : bits .and .i64 n 255 = n % 256 := by
  have h255 : (BitVec.ofInt 64 255).toNat = 2 ^ 8 - 1 := by decide
  have key : (BitVec.ofInt 64 n &&& BitVec.ofInt 64 255).toNat = (n % ((2 ^ 64 : Nat) : Int)).toNat % 2 ^ 8 := by
    rw [BitVec.toNat_and, BitVec.toNat_ofInt, h255, Nat.and_two_pow_sub_one_eq_mod]
  show IntKind.i64.wrap ((BitVec.ofInt 64 n &&& BitVec.ofInt 64 255).toNat : Nat) = n % 256
  rw [key, IntKind.wrap_i64]
  omega

def lowB (x : Int) : UInt8 := UInt8.ofNat (x % 256).toNat
theorem lowB_int (x : Int) : ((lowB x).toNat : Int) = bits .and .i64 x 255 % 256 := by
  rw [i64_and255]
  unfold lowB
  rw [UInt8.toNat_ofNat']
  omega

theorem lowB_own {w : World} {base : Nat} {v : Value} {n : Nat} {xs : List Value} {x : Int} (h : w.ownsRow base 5 1 v n (xs ++ [.int .u8 (bits .and .i64 x 255 % 256)])) : w.ownsRow base 5 1 v n (xs ++ [.int .u8 (lowB x).toNat]) := by
  rw [lowB_int]; exact h

/-- but for block b, what holds no bytes is as it was -/
def KeepT (b : Nat) (w w' : World) : Prop := ∀ k cs t, k ≠ b → t ≠ 5 → BlkAt w k cs t → BlkAt w' k cs t
theorem KeepT.refl (b : Nat) (w : World) : KeepT b w w := fun _ _ _ _ _ h => h
theorem KeepT.trans {b : Nat} {x y z : World} (h : KeepT b x y) (k : KeepT b y z) : KeepT b x z := fun i cs t hi ht hb => k i cs t hi ht (h i cs t hi ht hb)

/-- below b all is as it was; and of the rest what holds no bytes -/
def Wk (b : Nat) (w w' : World) : Prop := Below b w w' ∧ KeepT b w w'
theorem Wk.refl (b : Nat) (w : World) : Wk b w w := ⟨Below.refl _ _, KeepT.refl _ _⟩
theorem Wk.trans {b : Nat} {x y z : World} (h : Wk b x y) (k : Wk b y z) : Wk b x z := ⟨h.1.trans k.1, h.2.trans k.2⟩
theorem Wk.alloc {b : Nat} {x y : World} (h : Wk b x y) (hb : b ≤ y.heap.size) (o : Obj) : Wk b x (y.alloc o) :=
  ⟨h.1.alloc hb o, h.2.trans fun _ _ _ _ _ hk => hk.grown (World.grownBy_alloc y o none) (by simp)⟩

theorem keep_put {wr w1 : World} {b : Nat} {o : Obj} {base : Nat} {v0 : Value} {n : Nat} {xs : List Value} (hown : wr.ownsRow base 5 1 v0 n xs) (hg : (wr.alloc o).grownBy w1 v0.ownBlock) (v : Value) : KeepT b wr (w1.setCell ⟨b, 0, none⟩ v) := by
  intro k cs t hk ht hb
  have h1 := hb.grown (World.grownBy_alloc wr o none) (by simp)
  have h2 : BlkAt w1 k cs t := h1.grown hg (by
    rcases hown.2 with ⟨rfl, _⟩ | ⟨g, cap, cur, rfl, _, hh, _⟩
    · simp [Value.ownBlock]
    · intro e
      simp only [Value.ownBlock, Option.some.injEq] at e
      subst e
      unfold BlkAt at hb
      rw [hb] at hh
      simp only [Option.some.injEq, Obj.cells.injEq] at hh
      exact ht hh.2.1)
  exact h2.grown (grown_set w1 b 0 v) (by simpa using hk)

/-- behind an append into the Writer's list, and the store of the list -/
theorem wr_put {w wr w1 : World} {b : Nat} {l : List UInt8} {ao : Option Addr} {cap : Nat} {o : Obj} {v : Value} {c : UInt8} (hb : BlkAt wr b #[.slice ao l.length cap] 66) (hwk : Wk b w wr) (hown0 : wr.ownsRow (b + 1) 5 1 (.slice ao l.length cap) l.length (byV l))
    (hg : (wr.alloc o).grownBy w1 (Value.ownBlock (.slice ao l.length cap))) (hrow : ∀ g, Value.ownBlock (.slice ao l.length cap) = some g → b + 1 ≤ g) (hown : w1.ownsRow (b + 1) 5 1 v (l.length + 1) (byV l ++ [.int .u8 c.toNat])) :
    WrAt (w1.setCell ⟨b, 0, none⟩ v) b (l ++ [c]) ∧ Wk b w (w1.setCell ⟨b, 0, none⟩ v) := by
  have hkt := keep_put (b := b) hown0 hg v
  have hB1 : BlkAt w1 b #[.slice ao l.length cap] 66 := (hb.grown (World.grownBy_alloc wr o none) (by simp)).grown hg (fun e => by have := hrow b e.symm; omega)
  obtain ⟨ao', cap', rfl⟩ := own_form hown
  have hlen : (l ++ [c]).length = l.length + 1 := by simp
  refine ⟨⟨ao', cap', ?_, ?_⟩, ?_⟩
  · rw [hlen]
    exact hB1.set 0 _
  · have e : byV (l ++ [c]) = byV l ++ [.int .u8 c.toNat] := by simp [byV]
    rw [hlen, e]
    exact ownsRow_setCell_below hown (Nat.lt_succ_self b) _
  · refine ⟨?_, hwk.2.trans hkt⟩
    exact ((hwk.1.alloc (Nat.le_of_lt hb.lt) o).grown hg (by have := hb.lt; simp; omega) (fun g hg => by have := hrow g hg; omega)).setCell (Nat.le_refl b) _

theorem wr_cell {wr w1 : World} {b : Nat} {cs : Array Value} {t : TypeId} {o : Obj} {row : Option Nat} (hb : BlkAt wr b cs t) (hg : (wr.alloc o).grownBy w1 row) (hrow : ∀ g, row = some g → b + 1 ≤ g) : BlkAt w1 b cs t :=
  (hb.grown (World.grownBy_alloc wr o none) (by simp)).grown hg (fun e => by have := hrow b e.symm; omega)

set_option maxHeartbeats 1000000 in
theorem wNumber_any (b : Nat) (n : Int) (size : Nat) (l : List UInt8) (w : World) (h : WrAt w b l) (hl : l.length ≤ 16777216) (hs : size ≤ 4) (hn0 : -1099511627776 ≤ n) (hn1 : n ≤ 1099511627776) :
    Calls Tryz.prog 26 #[.pointer (some ⟨b, 0, none⟩), .int .i64 n, .int .i64 size] w fun e w' => e = .returned (.tuple #[]) ∧ WrAt w' b (l ++ Lk.le n size) ∧ Wk b w w' := by
  obtain ⟨i0, hi, hz0, hz1, hz2⟩ := info_parts Tryz.infoU8
  have H := hid h
  clear h
  go_enter Tryz.func26, Tryz.ntmps26
  go_wp2
  go_loopw [1, 6] (fun m i wr => ∃ (k : Nat) (x : Int), k ≤ size ∧ i = .int .i64 k ∧ m = .int .i64 x ∧ -1099511627776 ≤ x ∧ x ≤ 1099511627776 ∧ (∃ acc : List UInt8, acc.length = l.length + k ∧ WrAt wr b acc ∧ l ++ Lk.le n size = acc ++ Lk.le x (size - k)) ∧ Wk b w wr) (fun _ i _ => size - (intOf i).toNat)
  case atStart => exact ⟨0, n, Nat.zero_le _, rfl, rfl, hn0, hn1, ⟨l, rfl, H.out, by simp⟩, Wk.refl _ _⟩
  case round =>
    obtain ⟨k, x, hk, rfl, rfl, hx0, hx1, hdone, hbel⟩ := hrel
    have HD := hid hdone
    have HB := hid hbel
    clear hdone hbel
    by_cases hlt : k < size
    · obtain ⟨acc, hdl, hw, hle⟩ := HD.out
      obtain ⟨ao, cap, hblk, hown⟩ := hw
      have c0 := hblk.cell 0
      have f0 := hblk.free 0
      have hbl := hblk.lt
      have HBK := hid hblk
      have HLE := hid hle
      have HDL := hid hdl
      have hdl2 : acc.length ≤ 16777220 := by omega
      have hrow := hid (show ∀ g, Value.ownBlock (.slice ao acc.length cap) = some g → b + 1 ≤ g from fun g hg => (hown.lt g hg).1)
      clear hblk hle hdl HD
      go_wp2_with (at_builtin; refine wpList_append_own _ rfl _ _ 64 rfl (b + 1) 5 i0 (.int .u8 0) 1 1 Tryz.underlying64 hi hz0 hz1 hz2 rfl (by decide) (.slice ao acc.length cap) acc.length (byV acc) rfl (hown.alloc _) ⟨wr.heap.size, 0, none⟩ 1 1 [.int .u8 (bits .and .i64 x 255 % 256)] rfl rfl (cell_one_new _ _ _) (by intro u hu; simp at hu; subst hu; rfl) (by unfold maxLen; omega) (by omega) (by simp; omega) ?_; intro v' w3 hown' hgrow _; obtain ⟨ao', cap', rfl⟩ := own_form hown'; have m0 := (wr_cell HBK.out hgrow hrow.out).cell 0; have n0 := (wr_cell HBK.out hgrow hrow.out).free 0; have P := hid (wr_put HBK.out HB.out hown hgrow hrow.out (lowB_own hown')); clear hown' hgrow hown c0 f0)
      go_roundw
      case rel =>
        refine ⟨k + 1, x / 256, by omega, by go_num, rfl, by omega, by omega, ⟨acc ++ [lowB x], ?_, P.out.1, ?_⟩, P.out.2⟩
        · have := HDL.out; simp; omega
        · have e : size - k = (size - (k + 1)) + 1 := by omega
          rw [HLE.out, e]
          simp [Lk.le, lowB]
      case measure => simp [intOf]; omega
    · go_wp2
      go_end0
      obtain ⟨acc, hdl, hw, hle⟩ := HD.out
      have e : size - k = 0 := by omega
      rw [e] at hle
      simp only [Lk.le, List.append_nil] at hle
      rw [hle]
      exact ⟨rfl, hw, HB.out⟩

end Go.Proofs.YtmhbgnlfdiahpaaGreatDoor

namespace Go.Proofs.YtmhbgnlfdiahpaaGreatDoor
open Go.RowKit

theorem sl_snoc (s : ByteArray) (k : Nat) (h : k < s.size) : (sl s).take (k + 1) = (sl s).take k ++ [s[k]] := by
  have h' : k < s.data.toList.length := by rw [Array.length_toList]; exact h
  unfold sl
  rw [List.take_succ_eq_append_getElem h']
  rfl

set_option maxHeartbeats 2000000 in
theorem wText_any (b : Nat) (s : ByteArray) (l : List UInt8) (w : World) (h : WrAt w b l) (hl : l.length ≤ 16777216) (hs : s.size ≤ 1048576) :
    Calls Tryz.prog 25 #[.pointer (some ⟨b, 0, none⟩), .string s] w fun e w' => e = .returned (.tuple #[]) ∧ WrAt w' b (l ++ sl s) ∧ Wk b w w' := by
  obtain ⟨i0, hi, hz0, hz1, hz2⟩ := info_parts Tryz.infoU8
  have H := hid h
  clear h
  go_enter Tryz.func25, Tryz.ntmps25
  go_wp2
  go_loopw [4] (fun i wr => ∃ (k : Nat), k ≤ s.size ∧ i = .int .i64 k ∧ (∃ acc : List UInt8, acc.length = l.length + k ∧ WrAt wr b acc ∧ l ++ (sl s).take k = acc) ∧ Wk b w wr) (fun i _ => s.size - (intOf i).toNat)
  case atStart => exact ⟨0, Nat.zero_le _, rfl, ⟨l, rfl, H.out, by simp⟩, Wk.refl _ _⟩
  case round =>
    obtain ⟨k, hk, rfl, hdone, hbel⟩ := hrel
    have HD := hid hdone
    have HB := hid hbel
    clear hdone hbel
    by_cases hlt : k < s.size
    · obtain ⟨acc, hdl, hw, hle⟩ := HD.out
      obtain ⟨ao, cap, hblk, hown⟩ := hw
      have c0 := hblk.cell 0
      have f0 := hblk.free 0
      have hbl := hblk.lt
      have HBK := hid hblk
      have HLE := hid hle
      have HDL := hid hdl
      have hdl2 : acc.length ≤ 33554432 := by omega
      have hrow := hid (show ∀ g, Value.ownBlock (.slice ao acc.length cap) = some g → b + 1 ≤ g from fun g hg => (hown.lt g hg).1)
      have HOW := hid hown
      have hne := World.new_ne wr ⟨b, 0, none⟩ (by simpa using c0)
      have g1 : (0 : Int) ≤ (k : Int) := by omega
      have g2 : (k : Int) < (s.size : Int) := by omega
      have hA : Hid ((wr.alloc (.cells #[.int .u8 s[k].toNat] 5)).drew.ownsRow (b + 1) 5 1 (.slice ao acc.length cap) acc.length (byV acc)) := (hown.alloc _).drew
      have hN : Hid (∀ j u, [Value.int .u8 s[k].toNat][j]? = some u → (wr.alloc (.cells #[.int .u8 s[k].toNat] 5)).drew.cell? ((⟨wr.heap.size, 0, none⟩ : Addr).add j) = some u) := World.news_of_block (heap_alloc_new wr (.cells #[.int .u8 s[k].toNat] 5))
      have hOne : Hid (∀ u ∈ [Value.int .u8 (s[k].toNat : Int)], u.oneCell' = true) := by intro u hu; simp at hu; subst hu; rfl
      have h63 : Hid (acc.length + 1 ≤ maxLen) := by show _ ≤ _; unfold maxLen; omega
      have hby : Hid ((acc.length + 1) * 1 ≤ 140737488355328) := by show _ ≤ _; omega
      have hbs : Hid (b + 1 ≤ (wr.alloc (.cells #[.int .u8 s[k].toNat] 5)).drew.heap.size) := by show _ ≤ _; simp; omega
      have hHH : Hid ((wr.alloc (.cells #[.int .u8 s[k].toNat] 5)).drew.heap.size = wr.heap.size + 1) := by show _ = _; simp
      clear hblk hle hdl HD hown
      go_wp2
      refine wp_region_any (by kernel_rfl) ?_
      change wpAny _ Region.Mode.any _ _ _ _ _ wr.drew
      refine wpAny_take (i := 0) (v := ?_) rfl (by kernel_rfl) (by kernel_rfl) (by kernel_rfl) (fun _ _ _ h => h) (Or.inl ⟨by kernel_rfl, ?_⟩) ?_
      rotate_left
      · intro w; go_simp; with_reducible rfl
      refine wpAny_take (i := 1) (v := ?_) rfl (by kernel_rfl) (by kernel_rfl) (by kernel_rfl) (fun _ _ _ h => h) (Or.inl ⟨by kernel_rfl, ?_⟩) ?_
      rotate_left
      · intro w; go_simp; with_reducible rfl
      refine wpAny_take (i := 2) (v := ?_) rfl (by kernel_rfl) (by kernel_rfl) (by kernel_rfl) (fun _ _ _ h => h) (Or.inl ⟨by kernel_rfl, ?_⟩) ?_
      rotate_left
      · intro w; go_simp; with_reducible rfl
      refine wpAny_take (i := 3) (v := ?_) rfl (by kernel_rfl) (by kernel_rfl) (by kernel_rfl) (fun _ _ _ h => h) (Or.inl ⟨by kernel_rfl, ?_⟩) ?_
      rotate_left
      · intro w; go_simp; with_reducible rfl
      refine wpAny_take (i := 5) (v := ?_) rfl (by kernel_rfl) (by kernel_rfl) (by kernel_rfl) (fun _ _ _ h => h) (Or.inl ⟨by kernel_rfl, ?_⟩) ?_
      rotate_left
      · intro w; go_simp; with_reducible rfl
      refine wpAny_take (i := 6) (v := ?_) rfl (by kernel_rfl) (by kernel_rfl) (by kernel_rfl) (fun _ _ _ h => h) (Or.inl ⟨by kernel_rfl, ?_⟩) ?_
      rotate_left
      · intro w; go_simp; with_reducible rfl
      refine wpAny_take (i := 7) (v := ?_) rfl (by kernel_rfl) (by kernel_rfl) (by kernel_rfl) (fun _ _ _ h => h) (Or.inl ⟨by kernel_rfl, ?_⟩) ?_
      rotate_left
      · intro w; go_simp; with_reducible rfl
      refine wpAny_ready (rs := [4, 8]) (by kernel_rfl) (by simp) ?_
      refine AllReady.cons rfl (fun K hK => ?_) (AllReady.cons rfl (fun K hK => ?_) AllReady.nil)
      · go_simp
        refine hK _ _ ?_
        clear hK K
        refine wpAny_ready (rs := [8]) (by kernel_rfl) (by simp) ?_
        refine AllReady.cons rfl (fun K hK => ?_) AllReady.nil
        go_simp
        refine hK _ _ ?_
        clear hK K
        refine wpAny_ready (rs := [9]) (by kernel_rfl) (by simp) ?_
        refine AllReady.cons rfl (fun K hK => ?_) AllReady.nil
        rw [if_pos (by kernel_rfl)]
        refine wp_append_own _ (.tmp 15) (.tmp 19) 64 rfl (b + 1) 5 i0 (.int .u8 0) 1 1 Tryz.underlying64 hi hz0 hz1 hz2 rfl (by decide) (.slice ao acc.length cap) acc.length (byV acc) (by kernel_rfl) hA.out ⟨wr.heap.size, 0, none⟩ 1 1 [.int .u8 s[k].toNat] (by kernel_rfl) rfl hN.out hOne.out h63.out hby.out hbs.out ?_
        intro v' w3 hown' hgrow _
        obtain ⟨ao', cap', rfl⟩ := own_form hown'
        have gd : (wr.alloc (.cells #[.int .u8 s[k].toNat] 5)).grownBy w3 (Value.ownBlock (.slice ao acc.length cap)) := ⟨hgrow.os, hgrow.tape, hgrow.output, hgrow.size, hgrow.block⟩
        have m0 := (wr_cell HBK.out gd hrow.out).cell 0
        have n0 := (wr_cell HBK.out gd hrow.out).free 0
        have P := hid (wr_put HBK.out HB.out HOW.out gd hrow.out hown')
        clear hown' hgrow gd
        refine hK _ _ ?_
        clear hK K
        refine wpAny_take (i := 10) (v := ?_) rfl (by kernel_rfl) (by kernel_rfl) (by kernel_rfl) (fun _ _ _ h => h) (Or.inl ⟨by kernel_rfl, ?_⟩) ?_
        rotate_left
        · intro w; go_simp; with_reducible rfl
        refine wpAny_take (i := 11) (v := ?_) rfl (by kernel_rfl) (by kernel_rfl) (by kernel_rfl) (fun _ _ _ h => h) (Or.inl ⟨by kernel_rfl, ?_⟩) ?_
        rotate_left
        · intro w; go_simp; with_reducible rfl
        refine wpAny_ready (rs := [12]) (by kernel_rfl) (by simp) ?_
        refine AllReady.cons rfl (fun K hK => ?_) AllReady.nil
        go_simp
        refine hK _ _ ?_
        clear hK K
        refine wpAny_done (by kernel_rfl) ?_ _
        clear hA hN hOne h63 hby hbs hHH c0 f0 hne
        go_wp2
        go_roundw
        case rel =>
          refine ⟨k + 1, by omega, by go_num, ⟨acc ++ [s[k]], ?_, P.out.1, ?_⟩, P.out.2⟩
          · have := HDL.out; simp; omega
          · rw [← HLE.out, List.append_assoc, sl_snoc s k hlt]
        case measure => simp [intOf]; omega
      · go_simp
        refine hK _ _ ?_
        clear hK K
        refine wpAny_ready (rs := [4]) (by kernel_rfl) (by simp) ?_
        refine AllReady.cons rfl (fun K hK => ?_) AllReady.nil
        go_simp
        refine hK _ _ ?_
        clear hK K
        refine wpAny_ready (rs := [9]) (by kernel_rfl) (by simp) ?_
        refine AllReady.cons rfl (fun K hK => ?_) AllReady.nil
        rw [if_pos (by kernel_rfl)]
        refine wp_append_own _ (.tmp 15) (.tmp 19) 64 rfl (b + 1) 5 i0 (.int .u8 0) 1 1 Tryz.underlying64 hi hz0 hz1 hz2 rfl (by decide) (.slice ao acc.length cap) acc.length (byV acc) (by kernel_rfl) hA.out ⟨wr.heap.size, 0, none⟩ 1 1 [.int .u8 s[k].toNat] (by kernel_rfl) rfl hN.out hOne.out h63.out hby.out hbs.out ?_
        intro v' w3 hown' hgrow _
        obtain ⟨ao', cap', rfl⟩ := own_form hown'
        have gd : (wr.alloc (.cells #[.int .u8 s[k].toNat] 5)).grownBy w3 (Value.ownBlock (.slice ao acc.length cap)) := ⟨hgrow.os, hgrow.tape, hgrow.output, hgrow.size, hgrow.block⟩
        have m0 := (wr_cell HBK.out gd hrow.out).cell 0
        have n0 := (wr_cell HBK.out gd hrow.out).free 0
        have P := hid (wr_put HBK.out HB.out HOW.out gd hrow.out hown')
        clear hown' hgrow gd
        refine hK _ _ ?_
        clear hK K
        refine wpAny_take (i := 10) (v := ?_) rfl (by kernel_rfl) (by kernel_rfl) (by kernel_rfl) (fun _ _ _ h => h) (Or.inl ⟨by kernel_rfl, ?_⟩) ?_
        rotate_left
        · intro w; go_simp; with_reducible rfl
        refine wpAny_take (i := 11) (v := ?_) rfl (by kernel_rfl) (by kernel_rfl) (by kernel_rfl) (fun _ _ _ h => h) (Or.inl ⟨by kernel_rfl, ?_⟩) ?_
        rotate_left
        · intro w; go_simp; with_reducible rfl
        refine wpAny_ready (rs := [12]) (by kernel_rfl) (by simp) ?_
        refine AllReady.cons rfl (fun K hK => ?_) AllReady.nil
        go_simp
        refine hK _ _ ?_
        clear hK K
        refine wpAny_done (by kernel_rfl) ?_ _
        clear hA hN hOne h63 hby hbs hHH c0 f0 hne
        go_wp2
        go_roundw
        case rel =>
          refine ⟨k + 1, by omega, by go_num, ⟨acc ++ [s[k]], ?_, P.out.1, ?_⟩, P.out.2⟩
          · have := HDL.out; simp; omega
          · rw [← HLE.out, List.append_assoc, sl_snoc s k hlt]
        case measure => simp [intOf]; omega
    · go_wp2
      go_end0
      obtain ⟨acc, hdl, hw, hle⟩ := HD.out
      rw [List.take_of_length_le (by rw [sl_length]; omega)] at hle
      rw [hle]
      exact ⟨rfl, hw, HB.out⟩

theorem str_nums (l : List UInt8) : strOfNums (l.map fun c => (c.toNat : Int)) = bs l := by
  unfold strOfNums bs
  rw [List.map_map, List.map_congr_left (g := id) (fun c _ => by simp), List.map_id]

theorem own_convert {w : World} {base : Nat} {ao : Option Addr} {cap : Nat} {l : List UInt8} (h : w.ownsRow base 5 1 (.slice ao l.length cap) l.length (byV l)) :
    (convert 64 9 (.slice ao l.length cap)).run Tryz.prog w = .ok (.string (bs l)) w := by
  rcases h.2 with ⟨h1, h2⟩ | ⟨g, cap', cur, hv, _⟩
  · simp only [Value.slice.injEq] at h1
    obtain ⟨rfl, h3, rfl⟩ := h1
    have : l = [] := List.length_eq_zero_iff.1 h3
    subst this
    exact run_convert_bytes_nil w 64 5 Tryz.underlying64 Tryz.underlying5 _ _ 9 Tryz.underlying9
  · simp only [Value.slice.injEq] at hv
    obtain ⟨rfl, _, rfl⟩ := hv
    have := run_convert_bytes_arg (P := Tryz.prog) w 64 5 Tryz.underlying64 Tryz.underlying5 g 0 l.length cap (l.map fun c => (c.toNat : Int)) (by simp) (fun i hi => by
      have q := h.cellAt i (by omega)
      rw [Nat.zero_add, q]
      simp [byV, hi]) 9 Tryz.underlying9
    rw [str_nums] at this
    exact this

set_option maxHeartbeats 1000000 in
theorem wBytes_any (b : Nat) (l : List UInt8) (w : World) (h : WrAt w b l) :
    Calls Tryz.prog 30 #[.pointer (some ⟨b, 0, none⟩)] w fun e w' => e = .returned (.string (bs l)) ∧ w' = w := by
  obtain ⟨ao, cap, hblk, hown⟩ := h
  have c0 := hblk.cell 0
  have hr := own_convert hown
  clear hblk hown
  go_enter Tryz.func30, Tryz.ntmps30
  go_wp2
  go_ret
  exact ⟨rfl, rfl⟩

end Go.Proofs.YtmhbgnlfdiahpaaGreatDoor

namespace Go.Proofs.YtmhbgnlfdiahpaaGreatDoor
open Go.RowKit

/-- a list of numbers whose array is no Writer's -/
def IntsB (w : World) (b : Nat) (ao : Option Addr) (xs : List Int) : Prop :=
  0 < xs.length → ∃ g cs, ao = some ⟨g, 0, none⟩ ∧ g ≠ b ∧ BlkAt w g cs 3 ∧ ∀ i (h : i < xs.length), cs[i]? = some (.int .i64 xs[i])
theorem IntsB.kept {w w' : World} {b : Nat} {ao : Option Addr} {xs : List Int} (h : IntsB w b ao xs) (hk : Wk b w w') : IntsB w' b ao xs := by
  intro h0
  obtain ⟨g, cs, h1, h2, h3, h4⟩ := h h0
  exact ⟨g, cs, h1, h2, hk.2 g cs _ h2 (by decide) h3, h4⟩
theorem IntsB.of_own {w : World} {base b : Nat} {ao : Option Addr} {n cap : Nat} {xs : List Int} (h : w.ownsRow base 3 1 (.slice ao n cap) n (xs.map (Value.int .i64))) (hb : ∀ g, Value.ownBlock (.slice ao n cap) = some g → g ≠ b) : IntsB w b ao xs := by
  intro h0
  have hn : xs.length = n := by have := h.1; simpa using this
  rcases h.2 with ⟨h1, h2⟩ | ⟨g, cap', cur, hv, _, hh, _, _, hcs, htk⟩
  · simp at h1; omega
  · simp only [Value.slice.injEq] at hv
    obtain ⟨rfl, _, rfl⟩ := hv
    refine ⟨g, cur, rfl, hb g rfl, hh, fun i hi => ?_⟩
    have e : (cur.toList.take (n * 1))[i]? = (xs.map (Value.int .i64))[i]? := by rw [htk]
    rw [List.getElem?_take, if_pos (by omega)] at e
    rw [← Array.getElem?_toList, e]
    simp [hi]

theorem wNumber_lit (b : Nat) (n : Int) (size : Nat) (ms : Int) (hms : ms = (size : Int)) (l : List UInt8) (w : World) (h : WrAt w b l) (hl : l.length ≤ 16777216) (hs : size ≤ 4) (hn0 : -1099511627776 ≤ n) (hn1 : n ≤ 1099511627776) :
    Calls Tryz.prog 26 #[.pointer (some ⟨b, 0, none⟩), .int .i64 n, .int .i64 ms] w fun e w' => e = .returned (.tuple #[]) ∧ WrAt w' b (l ++ Lk.le n size) ∧ Wk b w w' := by
  subst hms; exact wNumber_any b n size l w h hl hs hn0 hn1

theorem nums_snoc (xs : List Int) (k size : Nat) (h : k < xs.length) : Lk.nums (xs.take (k + 1)) size = Lk.nums (xs.take k) size ++ Lk.le xs[k] size := by
  unfold Lk.nums
  rw [List.take_succ_eq_append_getElem h, List.flatMap_append]
  simp
theorem nums_length (xs : List Int) (size : Nat) : (Lk.nums xs size).length = xs.length * size := by
  unfold Lk.nums
  induction xs with
  | nil => simp
  | cons x t ih => simp only [List.flatMap_cons, List.length_append, ih, Lk.le_length, List.length_cons, Nat.succ_mul]; omega

set_option maxHeartbeats 2000000 in
theorem writeNumbers_any (b : Nat) (ao : Option Addr) (cap size : Nat) (ms : Int) (hms : ms = (size : Int)) (xs : List Int) (l : List UInt8) (w : World) (h : WrAt w b l) (hI : IntsB w b ao xs)
    (hl : l.length ≤ 1048576) (hs : size ≤ 4) (hn : xs.length ≤ 65535) (hx : ∀ i (h : i < xs.length), -1099511627776 ≤ xs[i] ∧ xs[i] ≤ 1099511627776) :
    Calls Tryz.prog 27 #[.pointer (some ⟨b, 0, none⟩), .slice ao xs.length cap, .int .i64 ms] w fun e w' => e = .returned (.tuple #[]) ∧ WrAt w' b (l ++ Lk.nums xs size) ∧ Wk b w w' := by
  subst hms
  have H := hid h
  have HI := hid hI
  have HX := hid hx
  clear h hI hx
  go_enter Tryz.func27, Tryz.ntmps27
  go_wp2
  go_loopw [10] (fun i wr => ∃ k : Nat, k ≤ xs.length ∧ i = .int .i64 k ∧ WrAt wr b (l ++ Lk.nums (xs.take k) size) ∧ Wk b w wr) (fun i _ => xs.length - (intOf i).toNat)
  case atStart => exact ⟨0, Nat.zero_le _, rfl, by simpa [Lk.nums] using H.out, Wk.refl _ _⟩
  case round =>
    obtain ⟨k, hk, rfl, hw, hbel⟩ := hrel
    have HW := hid hw
    have HB := hid hbel
    clear hw hbel
    by_cases hlt2 : k < xs.length
    · obtain ⟨g, cs, hao, -, hbk, hc⟩ := HI.out.kept HB.out (by omega)
      subst hao
      have hck := (hbk.cell k).trans (hc k hlt2)
      clear hbk
      have hxk := HX.out k hlt2
      have hlen : (l ++ Lk.nums (xs.take k) size).length ≤ 16777216 := by
        rw [List.length_append, nums_length, List.length_take_of_le (by omega)]
        have : k * size ≤ k * 4 := Nat.mul_le_mul_left k hs
        omega
      have cN := hid (fun W h => wNumber_any b xs[k] size (l ++ Lk.nums (xs.take k) size) W h hlen hs hxk.1 hxk.2)
      clear hc hlen
      go_wp2_with fail
      refine (cN.out _ HW.out).mono ?_
      rintro e w2 ⟨rfl, hw2, hb2⟩
      have HW2 := hid hw2
      have HB2 := hid (HB.out.trans hb2)
      clear hw2 hb2
      go_wp2
      go_roundw
      case rel => exact ⟨k + 1, by omega, by go_num, by rw [nums_snoc xs k size hlt2, ← List.append_assoc]; exact HW2.out, HB2.out⟩
      case measure => simp [intOf]; omega
    · go_wp2
      go_end0
      have e : xs.take k = xs := List.take_of_length_le (by omega)
      have hw := HW.out
      rw [e] at hw
      exact ⟨rfl, hw, HB.out⟩

/-- while a Writer in b gathers: what was gathered, a variable of the call's own in block v -/
structure St3 (w : World) (b v : Nat) (t : TypeId) (cs : Array Value) (l : List UInt8) (W : World) : Prop where
  wr : WrAt W b l
  own : BlkAt W v cs t
  wk : Wk b w W

theorem St3.begin {w : World} {b : Nat} {l : List UInt8} (h : WrAt w b l) (cs : Array Value) (t : TypeId) : St3 w b w.heap.size t cs l (w.alloc (.cells cs t)) := by
  obtain ⟨ao, cap, h1, h2⟩ := h
  exact ⟨⟨ao, cap, h1.grown (World.grownBy_alloc _ _ none) (by simp), h2.alloc _⟩, BlkAt.new _ _ _, (Wk.refl b w).alloc (Nat.le_of_lt h1.lt) _⟩
theorem St3.step {w W W' : World} {b v : Nat} {t : TypeId} {cs : Array Value} {l l' : List UInt8} (h : St3 w b v t cs l W) (hv : v ≠ b) (ht : t ≠ 5) (hw : WrAt W' b l') (hk : Wk b W W') : St3 w b v t cs l' W' :=
  ⟨hw, hk.2 v cs t hv ht h.own, h.wk.trans hk⟩

set_option maxHeartbeats 2000000 in
theorem writeSymbol_any (b : Nat) (y : Lk.Sym) (l : List UInt8) (w : World) (h : WrAt w b l) (hl : l.length ≤ 1048576) (hg : Lk.goodSym y) :
    Calls Tryz.prog 28 #[.pointer (some ⟨b, 0, none⟩), .agg #[.string (bs y.name), .int .i64 y.bind, .int .i64 y.sect, .int .i64 y.off]] w fun e w' => e = .returned (.tuple #[]) ∧ WrAt w' b (l ++ Lk.symB y) ∧ Wk b w w' := by
  obtain ⟨hn, ⟨hb0, hb1⟩, ⟨hs0, hs1⟩, ho0, ho1⟩ := hg
  have hvb : w.heap.size ≠ b := by obtain ⟨_, _, h1, _⟩ := h; have := h1.lt; omega
  have S0 := hid (St3.begin h #[.string (bs y.name), .int .i64 y.bind, .int .i64 y.sect, .int .i64 y.off] 71)
  have hsz : ((bs y.name).size : Int) = (y.name.length : Int) := by rw [bs_size]
  have hsz2 : (bs y.name).size = y.name.length := bs_size _
  have c1 := hid (fun W (h : WrAt W b l) => wNumber_lit b ((bs y.name).size : Int) 1 1 rfl l W h (by omega) (by omega) (by omega) (by omega))
  have c2 := hid (fun W (h : WrAt W b (l ++ Lk.le y.name.length 1)) => wText_any b (bs y.name) (l ++ Lk.le y.name.length 1) W h (by rw [List.length_append, Lk.le_length]; omega) (by omega))
  have c3 := hid (fun W (h : WrAt W b (l ++ Lk.le y.name.length 1 ++ y.name)) => wNumber_lit b y.bind 1 1 rfl (l ++ Lk.le y.name.length 1 ++ y.name) W h (by rw [List.length_append, List.length_append, Lk.le_length]; omega) (by omega) (by omega) (by omega))
  have c4 := hid (fun W (h : WrAt W b (l ++ Lk.le y.name.length 1 ++ y.name ++ Lk.le y.bind 1)) => wNumber_lit b y.sect 1 1 rfl (l ++ Lk.le y.name.length 1 ++ y.name ++ Lk.le y.bind 1) W h (by rw [List.length_append, List.length_append, List.length_append, Lk.le_length, Lk.le_length]; omega) (by omega) (by omega) (by omega))
  have c5 := hid (fun W (h : WrAt W b (l ++ Lk.le y.name.length 1 ++ y.name ++ Lk.le y.bind 1 ++ Lk.le y.sect 1)) => wNumber_lit b y.off 2 2 rfl (l ++ Lk.le y.name.length 1 ++ y.name ++ Lk.le y.bind 1 ++ Lk.le y.sect 1) W h (by rw [List.length_append, List.length_append, List.length_append, List.length_append, Lk.le_length, Lk.le_length, Lk.le_length]; omega) (by omega) (by omega) (by omega))
  have HS := hid hsz
  have HSL := hid (sl_bs y.name)
  clear h hsz hsz2
  go_enter Tryz.func28, Tryz.ntmps28
  go_wp2_with fail
  refine Calls.at_world (St3 w b w.heap.size 71 #[.string (bs y.name), .int .i64 y.bind, .int .i64 y.sect, .int .i64 y.off] l) S0.out ?_
  intro W1 s1
  refine (c1.out W1 s1.wr).mono ?_
  rintro e W2 ⟨rfl, hw, hk⟩
  rw [HS.out] at hw
  have S2 := hid (s1.step hvb (by decide) hw hk)
  have k0 := S2.out.own.cell 0
  clear hw hk s1
  go_wp2_with fail
  refine (c2.out W2 S2.out.wr).mono ?_
  rintro e W3 ⟨rfl, hw, hk⟩
  rw [HSL.out] at hw
  have S3 := hid (S2.out.step hvb (by decide) hw hk)
  have k1 := S3.out.own.cell 1
  clear hw hk k0
  go_wp2_with fail
  refine (c3.out W3 S3.out.wr).mono ?_
  rintro e W4 ⟨rfl, hw, hk⟩
  have S4 := hid (S3.out.step hvb (by decide) hw hk)
  have k2 := S4.out.own.cell 2
  clear hw hk k1
  go_wp2_with fail
  refine (c4.out W4 S4.out.wr).mono ?_
  rintro e W5 ⟨rfl, hw, hk⟩
  have S5 := hid (S4.out.step hvb (by decide) hw hk)
  have k3 := S5.out.own.cell 3
  clear hw hk k2
  go_wp2_with fail
  refine (c5.out W5 S5.out.wr).mono ?_
  rintro e W6 ⟨rfl, hw, hk⟩
  have S6 := hid (S5.out.step hvb (by decide) hw hk)
  clear hw hk k3
  go_wp2
  go_end0
  refine ⟨rfl, ?_, S6.out.wk⟩
  have := S6.out.wr
  simpa [Lk.symB] using this

end Go.Proofs.YtmhbgnlfdiahpaaGreatDoor
