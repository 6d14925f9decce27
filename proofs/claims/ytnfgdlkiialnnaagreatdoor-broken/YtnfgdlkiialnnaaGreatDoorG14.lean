/- The assembler's object is written. -/
/- The assembler: a symbol by its name. -/
import Derived.Test.YtnfgdlkiialnnaaGreatDoorG13
import Derived.Deep.RegionHeld3
namespace Go.Proofs.YtnfgdlkiialnnaaGreatDoor
open Go.RowKit

section
variable {P : Program} (w : World)
theorem wp_append_own_at {o : Oper} {a : Act} {K : Act → World → Prop} {Q : Exit → Act → World → Prop} (s x : Operand) (t : TypeId)
  (ho : o.op = .call { callee := .builtin .append, args := #[s, x], argTypes := #[t, t] })
  (base : Nat) (e : TypeId) (i : TypeInfo) (z : Value) (size bytes : Nat) (ht : P.underlying t = some (.slice e)) (hi : P.info? e = some i) (hz : i.zero = some z)
  (hsize : i.size = size) (hby : i.bytes = bytes) (hzs : z.cells.size = size) (hsz : 0 < size)
  (v : Value) (n : Nat) (xs : List Value) (hs : a.eval s = v) (hown : w.ownsRow base e size v n xs)
  (ad : Addr) (m c : Nat) (news : List Value) (hx : a.eval x = .slice (some ad) m c) (hl : news.length = m * size) (hnews : ∀ j u, news[j]? = some u → w.cell? (ad.add j) = some u) (h1 : ∀ u ∈ news, u.oneCell' = true)
  (h63 : n + m ≤ maxLen) (hbytes : (n + m) * bytes ≤ 140737488355328) (hbase : base ≤ w.heap.size)
  (h : ∀ v' w', w'.ownsRow base e size v' (n + m) (xs ++ news) → w.grownBy w' v.ownBlock → (v' = .slice none 0 0 ↔ v = .slice none 0 0 ∧ m = 0) → (v'.ownBlock = v.ownBlock ∨ v'.ownBlock = some w.heap.size) → K (a.put o.dst v') w') : o.wp P a w K Q := by
 obtain ⟨v', w', hr, h2, h3, h4, h5⟩ := run_append_own_at (P := P) w base t o.type e i z size bytes ht hi hz hsize hby hzs hsz v n xs hown ad m c news hl hnews h1 h63 hbytes hbase
 unfold Oper.wp execOp
 simp only [ho, resolve, invoke, builtin, Sem.run_bind, Sem.run_pure, Result.andThen_ok, List.map_toArray, List.map_cons, List.map_nil, hs, hx, hr]
 exact h v' w' h2 h3 h4 h5
end

theorem Apart.set {l : List Value} {i : Nat} {v v' : Value} (h : Apart l) (hi : l[i]? = some v) (hv : ∀ k, v'.ownBlock = some k → v.ownBlock = some k ∨ ∀ u ∈ l, u.ownBlock ≠ some k) : Apart (l.set i v') := by
 unfold Apart at h ⊢
 rw [List.pairwise_iff_getElem] at h ⊢
 obtain ⟨hil, rfl⟩ := List.getElem?_eq_some_iff.1 hi
 intro a c ha hc hac k
 simp only [List.length_set] at ha hc
 rw [List.getElem_set, List.getElem_set]
 by_cases e1 : i = a
 ·subst e1
  rw [if_pos rfl, if_neg (by omega)]
  intro hk hck
  rcases hv k hk with h1 | h1
  ·exact h i c hil hc hac k h1 hck
  ·exact h1 _ (List.getElem_mem hc) hck
 ·rw [if_neg e1]
  by_cases e2 : i = c
  ·subst e2
   rw [if_pos rfl]
   intro hk hck
   rcases hv k hck with h1 | h1
   ·exact h a i ha hil hac k hk h1
   ·exact h1 _ (List.getElem_mem ha) hk
  ·rw [if_neg e2]
   exact h a c ha hc hac k
theorem Apart.ne {l : List Value} (h : Apart l) {i j : Nat} {u v : Value} (hi : l[i]? = some u) (hj : l[j]? = some v) (hij : i ≠ j) : ∀ k, u.ownBlock = some k → v.ownBlock ≠ some k := by
 unfold Apart at h
 rw [List.pairwise_iff_getElem] at h
 obtain ⟨hil, rfl⟩ := List.getElem?_eq_some_iff.1 hi
 obtain ⟨hjl, rfl⟩ := List.getElem?_eq_some_iff.1 hj
 intro k hk hk2
 rcases Nat.lt_or_gt_of_ne hij with h1 | h1
 ·exact h i j hil hjl h1 k hk hk2
 ·exact h j i hjl hil h1 k hk2 hk

/-- what one row of the object becomes -/
structure NewRow (B : Nat) (V W' : World) (b g : Nat) (v v' : Value) : Prop where
 keep : ∀ k, k < V.heap.size → some k ≠ v.ownBlock → k ≠ g → W'.heap[k]? = V.heap[k]?
 blk : ∀ k, v'.ownBlock = some k → v.ownBlock = some k ∨ V.heap.size ≤ k
 os : W'.os = V.os
 tape : W'.tape = V.tape
 output : W'.output = V.output
 size : V.heap.size ≤ W'.heap.size

section
variable {B : Nat} {s : ByteArray} {b g : Nat} {V W' : World} {o : Lk.Obj} {vt vf vd va vs vr v v' : Value} {st st' : As.St}
theorem ObjOwn.lts (h : ObjOwn B V b g o vt vf vd va vs vr) (hb : b < V.heap.size) : ∀ u ∈ [blkV b, blkV g, vt, vf, vd, va, vs, vr], ∀ k, u.ownBlock = some k → k < V.heap.size := by
 intro u hu k hk
 simp only [List.mem_cons, List.mem_nil_iff, or_false] at hu
 rcases hu with rfl | rfl | rfl | rfl | rfl | rfl | rfl | rfl
 ·simp [blkV, Value.ownBlock] at hk; omega
 ·have := h.blk.lt; simp [blkV, Value.ownBlock] at hk; omega
 ·exact (h.text.lt k hk).2
 ·exact (h.far.lt k hk).2
 ·exact (h.data.lt k hk).2
 ·exact (h.align.lt k hk).2
 ·exact (h.syms.lt k hk).2
 ·exact (h.rels.lt k hk).2
theorem NewRow.apart (n : NewRow B V W' b g v v') (h : ObjOwn B V b g o vt vf vd va vs vr) (hb : b < V.heap.size) {i : Nat} (hi : [blkV b, blkV g, vt, vf, vd, va, vs, vr][i]? = some v) : Apart ([blkV b, blkV g, vt, vf, vd, va, vs, vr].set i v') :=
 h.apart.set hi fun k hk => (n.blk k hk).imp id fun hle u hu hk2 => by have := h.lts hb u hu k hk2; omega
theorem NewRow.row (n : NewRow B V W' b g v v') (h : ObjOwn B V b g o vt vf vd va vs vr) {i j : Nat} (hi : [blkV b, blkV g, vt, vf, vd, va, vs, vr][i]? = some v) {u : Value} (hj : [blkV b, blkV g, vt, vf, vd, va, vs, vr][j]? = some u) (hij : i ≠ j) (hj1 : 1 ≠ j)
  {e : TypeId} {size m : Nat} {xs : List Value} (hu : V.ownsRow B e size u m xs) : W'.ownsRow B e size u m xs :=
 ownsRow_keep hu fun k hk => n.keep k (hu.lt k hk).2 (fun e => h.apart.ne hi hj hij k e.symm hk) (fun e => h.apart.ne (i := 1) (j := j) rfl hj hj1 k (by rw [e]; rfl) hk)

/-- the object's row is new: the assembler goes on -/
theorem NewRow.does (n : NewRow B V W' b g v v') (h : AsmAt B s b g st V) (hobj : ObjOwn B V b g st.obj vt vf vd va vs vr) {i : Nat} (hi : [blkV b, blkV g, vt, vf, vd, va, vs, vr][i]? = some v) (h2 : 2 ≤ i)
  (ho : ∃ vt vf vd va vs vr, ObjOwn B W' b g st'.obj vt vf vd va vs vr) (hc : asmCells s g st' = asmCells s g st) (hok : StOk s st')
  (hv : ∀ k, v.ownBlock = some k → B ≤ k ∧ ∃ cs t, BlkAt V k cs t ∧ (t = 3 ∨ t = 124 ∨ t = 139)) : Does B s b g V st' W' := by
 have hbg := h.lo
 have hbv : some b ≠ v.ownBlock := fun e => hobj.apart.ne (i := 0) (j := i) rfl hi (by omega) b rfl e.symm
 have low : ∀ k, k < B → W'.heap[k]? = V.heap[k]? := fun k hk => n.keep k (by have := h.size; omega) (fun e => by have := (hv k e.symm).1; omega) (by omega)
 refine ⟨⟨by rw [hc]; exact (n.keep b h.blk.lt hbv hbg.2.2.2).trans h.blk, ho, h.lo, hok, ?_⟩, ⟨n.os, n.tape, n.output, n.size, low⟩, ?_⟩
 ·exact ⟨fun i hi => (World.cell?_of_block (low _ (by have := h.lo; simp only; omega))).trans (h.tabs.form i hi), fun i hi => (World.cell?_of_block (low _ (by have := h.lo; simp only; omega))).trans (h.tabs.fix i hi)⟩
 ·intro k cs t h1 h2 h3 h4 h5 hb
  refine (n.keep k hb.lt ?_ ?_).trans hb
  ·intro e
   obtain ⟨-, cs', t', hb', ht'⟩ := hv k e.symm
   have := hb.symm.trans hb'
   simp at this
   rcases ht' with rfl | rfl | rfl
   ·exact h3 this.2
   ·exact h4 this.2
   ·exact h5 this.2
  ·rintro rfl
   have := hb.symm.trans hobj.blk
   simp at this
   exact h2 this.2
theorem row_blk {e : TypeId} {size m : Nat} {xs : List Value} (hu : V.ownsRow B e size v m xs) (he : e = 3 ∨ e = 124 ∨ e = 139) : ∀ k, v.ownBlock = some k → B ≤ k ∧ ∃ cs t, BlkAt V k cs t ∧ (t = 3 ∨ t = 124 ∨ t = 139) := by
 intro k hk
 refine ⟨(hu.lt k hk).1, ?_⟩
 rcases hu.2 with ⟨rfl, _⟩ | ⟨g', cap, cur, rfl, _, hg, _⟩
 ·simp [Value.ownBlock] at hk
 ·obtain rfl : g' = k := by simpa [Value.ownBlock] using hk
  exact ⟨cur, e, hg, he⟩
/-- append, then the field -/
theorem NewRow.app {ob : Obj} {w3 : World} {off : Nat} (_hv : ∀ k, v.ownBlock = some k → k < V.heap.size) (hg : (V.alloc ob).grownBy w3 v.ownBlock) (hat : v'.ownBlock = v.ownBlock ∨ v'.ownBlock = some (V.alloc ob).heap.size) : NewRow B V (w3.setCell ⟨g, off, none⟩ v') b g v v' := by
 have gs := grown_set w3 g off v'
 refine ⟨fun k hk hne hkg => ?_, fun k hk => ?_, ?_, ?_, ?_, ?_⟩
 ·rw [gs.block k (by have := hg.size; simp at this; omega) (by simpa using hkg), hg.block k (by simp; omega) hne, Below.heap_alloc V ob k hk]
 ·rcases hat with e | e
  ·exact .inl (by rw [← e]; exact hk)
  ·rw [e] at hk
   simp at hk
   exact .inr (by omega)
 ·rw [gs.os, hg.os]; rfl
 ·rw [gs.tape, hg.tape]; rfl
 ·rw [gs.output, hg.output]; rfl
 ·have := gs.size; have := hg.size; simp at this; omega
end

end Go.Proofs.YtnfgdlkiialnnaaGreatDoor

namespace Go.Proofs.YtnfgdlkiialnnaaGreatDoor
open Go.RowKit

theorem cell_obj {B : Nat} {s : ByteArray} {b g : Nat} {st : As.St} {W : World} (h : AsmAt B s b g st W) : W.cell? ⟨b, 14, none⟩ = some (.pointer (some ⟨g, 0, none⟩)) := by
 have c := asm_cell h 14
 simpa only [asmCells, List.getElem?_toArray, List.getElem?_cons_succ, List.getElem?_cons_zero] using c
theorem cell_sect {B : Nat} {s : ByteArray} {b g : Nat} {st : As.St} {W : World} (h : AsmAt B s b g st W) : W.cell? ⟨b, 13, none⟩ = some (.int .i64 st.sect) := by
 have c := asm_cell h 13
 simpa only [asmCells, List.getElem?_toArray, List.getElem?_cons_succ, List.getElem?_cons_zero] using c

theorem find_some (ys : List Lk.Sym) (nm : List UInt8) (k : Nat) (hk : k < ys.length) (h : ys[k].name = nm) (hall : ∀ j (hj : j < ys.length), j < k → ys[j].name ≠ nm) : As.findSym ys nm = some k := by
 unfold As.findSym
 rw [List.findIdx?_eq_some_iff_getElem]
 exact ⟨hk, by simp [h], fun j hj => by simpa using hall j (by omega) hj⟩
theorem find_none (ys : List Lk.Sym) (nm : List UInt8) (hall : ∀ j (hj : j < ys.length), ys[j].name ≠ nm) : As.findSym ys nm = none := by
 unfold As.findSym
 rw [List.findIdx?_eq_none_iff]
 intro y hy
 obtain ⟨j, hj, rfl⟩ := List.getElem_of_mem hy
 simpa using hall j hj

theorem own_keep_set {w : World} {base : Nat} {e : TypeId} {size n : Nat} {v : Value} {xs : List Value} {g o : Nat} {u : Value} (h : w.ownsRow base e size v n xs) (hk : ∀ k, v.ownBlock = some k → g ≠ k) : (w.setCell ⟨g, o, none⟩ u).ownsRow base e size v n xs :=
 ownsRow_keep h fun k hk' => Below.heap_setCell _ _ _ _ (fun e => hk k hk' e.symm)

def symRet (r : Nat × Bool) : Value := .tuple #[.int .i64 r.1, .bool r.2]

theorem StOk.obj' {s : ByteArray} {st : As.St} (h : StOk s st) (o : Lk.Obj) (h1 : o.text.length ≤ 1200) (h2 : o.far.length ≤ 1200) (h3 : o.data.length ≤ 64) (h4 : 0 ≤ o.bss ∧ o.bss ≤ 64) (h5 : o.align.length = 4) (h6 : o.syms.length ≤ 16) (h7 : o.rels.length ≤ 32) : StOk s { st with obj := o } :=
 ⟨h.size, h.p, h.tok, h.fe, h.fa, h.op, h.sect, h1, h2, h3, h4, h5, h6, h7⟩

/-- the symbols' row is new -/
theorem AsmAt.newSyms {B : Nat} {s : ByteArray} {b g : Nat} {V W' : World} {st : As.St} {vt vf vd va vs vr v' : Value} (h : AsmAt B s b g st V) (ho : ObjOwn B V b g st.obj vt vf vd va vs vr) (n : NewRow B V W' b g vs v') (ys : List Lk.Sym) (hys : ys.length ≤ 16)
  (hblk : BlkAt W' g #[vt, vf, vd, .int .i64 st.obj.bss, va, v', vr] 90) (hown : W'.ownsRow B 124 4 v' ys.length (ys.flatMap symV)) : Does B s b g V { st with obj := { st.obj with syms := ys } } W' := by
 refine n.does h ho (i := 6) rfl (by omega) ⟨vt, vf, vd, va, v', vr, hblk, ?_, ?_, ?_, ?_, hown, ?_, n.apart ho h.blk.lt (i := 6) rfl⟩ rfl (h.ok.obj' _ h.ok.text h.ok.far h.ok.data h.ok.bss h.ok.align hys h.ok.rels) (row_blk ho.syms (by simp))
 ·exact n.row ho (i := 6) (j := 2) rfl rfl (by omega) (by omega) ho.text
 ·exact n.row ho (i := 6) (j := 3) rfl rfl (by omega) (by omega) ho.far
 ·exact n.row ho (i := 6) (j := 4) rfl rfl (by omega) (by omega) ho.data
 ·exact n.row ho (i := 6) (j := 5) rfl rfl (by omega) (by omega) ho.align
 ·exact n.row ho (i := 6) (j := 7) rfl rfl (by omega) (by omega) ho.rels

set_option maxRecDepth 100000 in
set_option maxHeartbeats 4000000 in
theorem symbolNamed_any (B : Nat) (s : ByteArray) (b g : Nat) (st : As.St) (t : As.Tok) (W : World) (h : AsmAt B s b g st W) (ht : TokOk t) :
  Calls Tryz.prog 108 #[.pointer (some ⟨b, 0, none⟩), tokA t] W fun en W' => en = .returned (symRet (As.symbolNamed t st).1) ∧ Does B s b g W (As.symbolNamed t st).2 W' := by
 obtain ⟨i1, hi1, hy0, hy1, hy2⟩ := info_parts Tryz.infoSym
 have L0 := hid ((Loc.begin h).alloc (tokCs t) 83)
 have HW := hid h
 have hpos := ht.pos
 have cF := hid (fun V hV => failed_any B s b g st V hV)
 clear h
 unfold tokA
 cases hf : As.failed st
 ·have RS := hid (show As.symbolNamed t st = match As.findSym st.obj.syms t.text with
   | some i => ((i, true), st)
   | none => if 16 ≤ st.obj.syms.length then ((0, false), As.refuse 11 t.pos st) else ((st.obj.syms.length, true), { st with obj := { st.obj with syms := st.obj.syms ++ [⟨t.text, 0, 0, 0⟩] } }) by unfold As.symbolNamed; rw [hf]; rfl)
  rw [hf] at cF
  clear hf
  generalize As.symbolNamed t st = X at *
  go_enter Tryz.func108, Tryz.ntmps108
  go_wp2_with fail
  refine Calls.at_world (Loc B s b g W [(W.heap.size, tokCs t, 83)] st) L0.out ?_
  clear L0
  generalize hr : W.heap.size = r at *
  have HR := hid hr
  clear hr
  intro V hV
  have L := hid hV
  clear hV
  refine (cF.out V L.out.d.1).mono ?_
  rintro e V' ⟨rfl, rfl⟩
  clear cF
  obtain ⟨vt, vf, vd, va, vs, vr, ho⟩ := L.out.d.1.own
  obtain ⟨as_, cs, rfl⟩ := own_form ho.syms
  have HO := hid ho
  have hcap := own_cap ho.syms
  have SI := hid (SymsIn.of_own ho.syms)
  have hn16 := L.out.d.1.ok.syms
  have c14 := cell_obj L.out.d.1
  have g5 := ho.blk.cell 5
  simp only [List.getElem?_toArray, List.getElem?_cons_succ, List.getElem?_cons_zero] at g5
  clear ho
  go_wp2
  go_loopw [18] (fun i wr => ∃ k : Nat, k ≤ st.obj.syms.length ∧ i = .int .i64 k ∧ (∀ j (hj : j < st.obj.syms.length), j < k → st.obj.syms[j].name ≠ t.text) ∧ V'.grownBy wr none) (fun i _ => st.obj.syms.length - (intOf i).toNat)
  case atStart => exact ⟨0, Nat.zero_le _, rfl, fun j _ hj => absurd hj (Nat.not_lt_zero j), World.grownBy.refl _ _⟩
  case round =>
   obtain ⟨k, hk, rfl, hall, hgr⟩ := hrel
   have HA := hid hall
   have HG := hid hgr
   have LW := hid (L.out.grown hgr)
   have q14 := gcell c14 hgr
   have q5 := gcell g5 hgr
   clear hall hgr c14 g5
   obtain ⟨m0, m1, m2, m3⟩ := (⟨LW.out.d, LW.out.l (r, tokCs t, 83) (by simp)⟩ : LocB B s b g W r t st wr).cells
   have hrl : r < wr.heap.size := (LW.out.l (r, tokCs t, 83) (by simp)).lt
   have hrn : r ≠ wr.heap.size := by omega
   by_cases hlt : k < st.obj.syms.length
   ·obtain ⟨sg, hsg, hgs, hc⟩ := SI.out.grown HG.out (by omega)
    obtain ⟨k0, k1, k2, k3⟩ := hc k hlt
    clear hc
    subst hsg
    by_cases e1 : st.obj.syms[k].name = t.text
    ·have E := hid (find_some _ _ k hlt e1 HA.out)
     have b1 : ((bs st.obj.syms[k].name).toList == (bs t.text).toList) = true := by rw [e1]; simp
     clear e1
     go_wp2
     go_ret2
     rw [RS.out, E.out]
     exact ⟨rfl, (LW.out.d.alloc _).does HW.out⟩
    ·have E := hid e1
     have b1 : ((bs st.obj.syms[k].name).toList == (bs t.text).toList) = false := by rw [toList_bs, toList_bs]; simpa using e1
     clear e1
     go_wp2
     go_roundw
     case rel => exact ⟨k + 1, by omega, by go_num, fun j hj hjk => (Nat.lt_succ_iff_lt_or_eq.1 hjk).elim (fun h => HA.out j hj h) (fun h => by subst h; exact E.out), grown_trans HG.out (World.grownBy_alloc _ _ _)⟩
     case measure => simp [intOf]; omega
   ·have EN := hid (find_none st.obj.syms t.text (fun j hj => HA.out j hj (by omega)))
    rw [EN.out] at RS
    by_cases h16 : 16 ≤ st.obj.syms.length
    ·have D : decide ((16 : Int) ≤ (st.obj.syms.length : Int)) = true := by simp; omega
     have RF := hid (show X = ((0, false), As.refuse 11 t.pos st) by rw [RS.out]; simp only; rw [if_pos h16])
     go_wp2_with fail
     refine (refuse_any B s b g st 11 t.pos wr LW.out.d.1 (by omega) hpos).mono ?_
     rintro e V2 ⟨rfl, h2⟩
     have HF := hid (LW.out.d.after h2)
     clear h2
     go_wp2
     go_ret2
     rw [RF.out]
     exact ⟨rfl, HF.out.does HW.out⟩
    ·have D : decide ((16 : Int) ≤ (st.obj.syms.length : Int)) = false := by simp; omega
     have RF := hid (show X = ((st.obj.syms.length, true), { st with obj := { st.obj with syms := st.obj.syms ++ [⟨t.text, 0, 0, 0⟩] } }) by rw [RS.out]; simp only; rw [if_neg h16])
     have hgl : g < wr.heap.size := by have := HO.out.blk.lt; have := HG.out.size; omega
     have HOW := hid (HO.out.keep (W' := wr) (fun k _ hk => HG.out.block k hk (by simp)))
     have GA := hid (World.grownBy_alloc wr (.cells #[.string (bs t.text), .int .i64 0, .int .i64 0, .int .i64 0] 124) none)
     have KA1 : Hid ((wr.alloc (.cells #[.string (bs t.text), .int .i64 0, .int .i64 0, .int .i64 0] 124)).drew.cell? ⟨b, 14, none⟩ = some (.pointer (some ⟨g, 0, none⟩))) := gcell q14 (grown_drew GA.out)
     have KA2 : Hid ((wr.alloc (.cells #[.string (bs t.text), .int .i64 0, .int .i64 0, .int .i64 0] 124)).drew.cell? ⟨r, 2, none⟩ = some (.string (bs t.text))) := gcell m2 (grown_drew GA.out)
     have LT := hid (LW.out.l (r, tokCs t, 83) (by simp))
     have hrs : Hid (some r ≠ Value.ownBlock (.slice as_ st.obj.syms.length cs)) := fun e => by
      obtain ⟨-, cs', t', hb', ht'⟩ := row_blk HOW.out.syms (by simp) r e.symm
      have := LT.out.symm.trans hb'
      simp at this
      rcases ht' with rfl | rfl | rfl <;> exact absurd this.2 (by decide)
     have hbs0 : Hid (some b ≠ Value.ownBlock (.slice as_ st.obj.syms.length cs)) := fun e => HOW.out.apart.ne (i := 0) (j := 6) rfl rfl (by omega) b rfl e.symm
     have hgs0 : Hid (some g ≠ Value.ownBlock (.slice as_ st.obj.syms.length cs)) := fun e => HOW.out.apart.ne (i := 1) (j := 6) rfl rfl (by omega) g rfl e.symm
     have KEEP1 : Hid (∀ w3, (wr.alloc (.cells #[.string (bs t.text), .int .i64 0, .int .i64 0, .int .i64 0] 124)).grownBy w3 (Value.ownBlock (.slice as_ st.obj.syms.length cs)) → w3.cell? ⟨b, 14, none⟩ = some (.pointer (some ⟨g, 0, none⟩))) := fun w3 h => h.cell KA1.out hbs0.out
     have KEEP2 : Hid (∀ w3, (wr.alloc (.cells #[.string (bs t.text), .int .i64 0, .int .i64 0, .int .i64 0] 124)).grownBy w3 (Value.ownBlock (.slice as_ st.obj.syms.length cs)) → w3.cell? ⟨r, 2, none⟩ = some (.string (bs t.text))) := fun w3 h => h.cell KA2.out hrs.out
     have KEEP3 : Hid (∀ w3, (wr.alloc (.cells #[.string (bs t.text), .int .i64 0, .int .i64 0, .int .i64 0] 124)).grownBy w3 (Value.ownBlock (.slice as_ st.obj.syms.length cs)) → BlkAt w3 g #[vt, vf, vd, .int .i64 st.obj.bss, va, .slice as_ st.obj.syms.length cs, vr] 90) := fun w3 h => (HOW.out.blk.grown GA.out (by simp)).grown h hgs0.out
     have hgb : Hid (g ≠ b) := fun e => LW.out.d.1.lo.2.2.2 e.symm
     have hgr0 : Hid (r ≠ g) := fun e => by
      subst e
      have := LT.out.symm.trans HOW.out.blk
      simp at this
     have FIN : Hid (∀ w3 ao' cap', (wr.alloc (.cells #[.string (bs t.text), .int .i64 0, .int .i64 0, .int .i64 0] 124)).grownBy w3 (Value.ownBlock (.slice as_ st.obj.syms.length cs)) → (Value.ownBlock (.slice ao' (st.obj.syms.length + 1) cap') = Value.ownBlock (.slice as_ st.obj.syms.length cs) ∨ Value.ownBlock (.slice ao' (st.obj.syms.length + 1) cap') = some (wr.alloc (.cells #[.string (bs t.text), .int .i64 0, .int .i64 0, .int .i64 0] 124)).heap.size) →
       w3.ownsRow B 124 4 (.slice ao' (st.obj.syms.length + 1) cap') (st.obj.syms.length + 1) (st.obj.syms.flatMap symV ++ [.string (bs t.text), .int .i64 0, .int .i64 0, .int .i64 0]) →
       Does B s b g W { st with obj := { st.obj with syms := st.obj.syms ++ [⟨t.text, 0, 0, 0⟩] } } (w3.setCell ⟨g, 5, none⟩ (.slice ao' (st.obj.syms.length + 1) cap')) ∧ (w3.setCell ⟨g, 5, none⟩ (.slice ao' (st.obj.syms.length + 1) cap')).cell? ⟨b, 14, none⟩ = some (.pointer (some ⟨g, 0, none⟩)) ∧ (w3.setCell ⟨g, 5, none⟩ (.slice ao' (st.obj.syms.length + 1) cap')).cell? ⟨r, 2, none⟩ = some (.string (bs t.text)) ∧ (w3.setCell ⟨g, 5, none⟩ (.slice ao' (st.obj.syms.length + 1) cap')).cell? ⟨g, 5, none⟩ = some (.slice ao' (st.obj.syms.length + 1) cap')) := fun w3 ao' cap' gd hat hown => by
      have nr : NewRow B wr (w3.setCell ⟨g, 5, none⟩ (.slice ao' (st.obj.syms.length + 1) cap')) b g (.slice as_ st.obj.syms.length cs) (.slice ao' (st.obj.syms.length + 1) cap') := NewRow.app (fun k hk => (HOW.out.syms.lt k hk).2) gd hat
      have nb := (KEEP3.out w3 gd).set 5 (.slice ao' (st.obj.syms.length + 1) cap')
      have gs := grown_set w3 g 5 (.slice ao' (st.obj.syms.length + 1) cap')
      refine ⟨(LW.out.d.does HW.out).after (LW.out.d.1.newSyms HOW.out nr _ (by simp; omega) (by simpa using nb) ?_), gs.cell (KEEP1.out w3 gd) (by simpa using hgb.out.symm), gs.cell (KEEP2.out w3 gd) (by simpa using hgr0.out), ?_⟩
      ·have e : (st.obj.syms ++ [(⟨t.text, 0, 0, 0⟩ : Lk.Sym)]).flatMap symV = st.obj.syms.flatMap symV ++ [.string (bs t.text), .int .i64 0, .int .i64 0, .int .i64 0] := by rw [List.flatMap_append]; rfl
       rw [e, List.length_append, List.length_singleton]
       exact own_keep_set hown (fun k hk => by
        rcases hat with h1 | h1
        ·rw [h1] at hk
         exact fun e => hgs0.out (by rw [e, hk])
        ·rw [h1] at hk
         simp at hk
         have := HOW.out.blk.lt
         omega)
      ·have := nb.cell 5
       simpa using this
     go_wp2
     have hA : Hid ((wr.alloc (.cells #[.string (bs t.text), .int .i64 0, .int .i64 0, .int .i64 0] 124)).drew.ownsRow B 124 4 (.slice as_ st.obj.syms.length cs) st.obj.syms.length (st.obj.syms.flatMap symV)) := (HOW.out.syms.alloc _).drew
     have hN : Hid (∀ j u, [Value.string (bs t.text), .int .i64 0, .int .i64 0, .int .i64 0][j]? = some u → (wr.alloc (.cells #[.string (bs t.text), .int .i64 0, .int .i64 0, .int .i64 0] 124)).drew.cell? ((⟨wr.heap.size, 0, none⟩ : Addr).add j) = some u) := World.news_of_block (heap_alloc_new wr (.cells #[.string (bs t.text), .int .i64 0, .int .i64 0, .int .i64 0] 124))
     have hOne : Hid (∀ u ∈ [Value.string (bs t.text), .int .i64 0, .int .i64 0, .int .i64 0], u.oneCell' = true) := by intro u hu; simp at hu; rcases hu with rfl | rfl | rfl | rfl <;> rfl
     have h63 : Hid (st.obj.syms.length + 1 ≤ maxLen) := by show _ ≤ _; unfold maxLen; omega
     have hby : Hid ((st.obj.syms.length + 1) * 40 ≤ 140737488355328) := by show _ ≤ _; omega
     have hbs : Hid (B ≤ (wr.alloc (.cells #[.string (bs t.text), .int .i64 0, .int .i64 0, .int .i64 0] 124)).drew.heap.size) := by have := LW.out.d.1.size; show _ ≤ _; simp; omega
     refine wp_region_held_drew (S := (fun w' => w'.cell? ⟨b, 14, none⟩ = some (.pointer (some ⟨g, 0, none⟩)) ∧ w'.cell? ⟨r, 2, none⟩ = some (.string (bs t.text)))) (by kernel_rfl) ⟨q14, m2⟩ ?_
     intro hS
     refine wpAnyH_take (i := 0) (v := ?_) rfl (by kernel_rfl) (by kernel_rfl) (by kernel_rfl) (fun _ _ _ h => h) (Or.inl ⟨by kernel_rfl, ?_⟩) hS ?_
     rotate_left
     ·intro w' hw'; obtain ⟨x0, x1⟩ := hw'; go_simp; with_reducible rfl
     refine wpAnyH_take (i := 1) (v := ?_) rfl (by kernel_rfl) (by kernel_rfl) (by kernel_rfl) (fun _ _ _ h => h) (Or.inl ⟨by kernel_rfl, ?_⟩) hS ?_
     rotate_left
     ·intro w' hw'; obtain ⟨x0, x1⟩ := hw'; go_simp; with_reducible rfl
     refine wpAnyH_take (i := 2) (v := ?_) rfl (by kernel_rfl) (by kernel_rfl) (by kernel_rfl) (fun _ _ _ h => h) (Or.inl ⟨by kernel_rfl, ?_⟩) hS ?_
     rotate_left
     ·intro w' hw'; obtain ⟨x0, x1⟩ := hw'; go_simp; with_reducible rfl
     refine wpAnyH_take (i := 3) (v := ?_) rfl (by kernel_rfl) (by kernel_rfl) (by kernel_rfl) (fun _ _ _ h => h) (Or.inl ⟨by kernel_rfl, ?_⟩) hS ?_
     rotate_left
     ·intro w' hw'; obtain ⟨x0, x1⟩ := hw'; go_simp; with_reducible rfl
     refine wpAnyH_take (i := 4) (v := ?_) rfl (by kernel_rfl) (by kernel_rfl) (by kernel_rfl) (fun _ _ _ h => h) (Or.inl ⟨by kernel_rfl, ?_⟩) hS ?_
     rotate_left
     ·intro w' hw'; obtain ⟨x0, x1⟩ := hw'; go_simp; with_reducible rfl
     refine wpAnyH_take (i := 5) (v := ?_) rfl (by kernel_rfl) (by kernel_rfl) (by kernel_rfl) (fun _ _ _ h => h) (Or.inl ⟨by kernel_rfl, ?_⟩) hS ?_
     rotate_left
     ·intro w' hw'; obtain ⟨x0, x1⟩ := hw'; go_simp; with_reducible rfl
     refine wpAnyH_take (i := 6) (v := ?_) rfl (by kernel_rfl) (by kernel_rfl) (by kernel_rfl) (fun _ _ _ h => h) (Or.inl ⟨by kernel_rfl, ?_⟩) hS ?_
     rotate_left
     ·intro w' hw'; obtain ⟨x0, x1⟩ := hw'; go_simp; with_reducible rfl
     refine wpAnyH_take (i := 7) (v := ?_) rfl (by kernel_rfl) (by kernel_rfl) (by kernel_rfl) (fun _ _ _ h => h) (Or.inl ⟨by kernel_rfl, ?_⟩) hS ?_
     rotate_left
     ·intro w' hw'; obtain ⟨x0, x1⟩ := hw'; go_simp; with_reducible rfl
     refine wpAnyH_take (i := 8) (v := ?_) rfl (by kernel_rfl) (by kernel_rfl) (by kernel_rfl) (fun _ _ _ h => h) (Or.inl ⟨by kernel_rfl, ?_⟩) hS ?_
     rotate_left
     ·intro w' hw'; obtain ⟨x0, x1⟩ := hw'; go_simp; with_reducible rfl
     refine wpAnyH_take (i := 9) (v := ?_) rfl (by kernel_rfl) (by kernel_rfl) (by kernel_rfl) (fun _ _ _ h => h) (Or.inl ⟨by kernel_rfl, ?_⟩) hS ?_
     rotate_left
     ·intro w' hw'; obtain ⟨x0, x1⟩ := hw'; go_simp; with_reducible rfl
     refine wpAnyH_take (i := 11) (v := ?_) rfl (by kernel_rfl) (by kernel_rfl) (by kernel_rfl) (fun _ _ _ h => h) (Or.inl ⟨by kernel_rfl, ?_⟩) hS ?_
     rotate_left
     ·intro w' hw'; obtain ⟨x0, x1⟩ := hw'; go_simp; with_reducible rfl
     refine wpAnyH_take (i := 12) (v := ?_) rfl (by kernel_rfl) (by kernel_rfl) (by kernel_rfl) (fun _ _ _ h => h) (Or.inl ⟨by kernel_rfl, ?_⟩) hS ?_
     rotate_left
     ·intro w' hw'; obtain ⟨x0, x1⟩ := hw'; go_simp; with_reducible rfl
     refine wpAnyH_take (i := 13) (v := ?_) rfl (by kernel_rfl) (by kernel_rfl) (by kernel_rfl) (fun _ _ _ h => h) (Or.inl ⟨by kernel_rfl, ?_⟩) hS ?_
     rotate_left
     ·intro w' hw'; obtain ⟨x0, x1⟩ := hw'; go_simp; with_reducible rfl

     refine wpAnyH_ready (rs := [10, 14]) (by kernel_rfl) (by simp) ?_
     refine AllReadyH.cons rfl (fun K hK => ?_) (AllReadyH.cons rfl (fun K hK => ?_) AllReadyH.nil)
     ·go_simp
      refine hK.out _ _ hS (fun hS2 => ?_)
      clear hK K
      refine wpAnyH_ready (rs := [14]) (by kernel_rfl) (by simp) ?_
      refine AllReadyH.cons rfl (fun K hK => ?_) AllReadyH.nil
      go_simp
      refine hK.out _ _ ⟨KA1.out, KA2.out⟩ (fun hS3 => ?_)
      clear hK K hS2 hS3

      refine wpAnyH_ready (rs := [15]) (by kernel_rfl) (by simp) ?_
      refine AllReadyH.cons rfl (fun K hK => ?_) AllReadyH.nil
      rw [if_pos (by kernel_rfl)]
      refine wp_append_own_at _ (.tmp 53) (.tmp 57) 87 rfl B 124 i1 (.agg #[.string ⟨#[]⟩, .int .i64 0, .int .i64 0, .int .i64 0]) 4 40 Tryz.underlying87 hi1 hy0 hy1 hy2 rfl (by decide) (.slice as_ st.obj.syms.length cs) st.obj.syms.length (st.obj.syms.flatMap symV) (by kernel_rfl) hA.out ⟨wr.heap.size, 0, none⟩ 1 1 [.string (bs t.text), .int .i64 0, .int .i64 0, .int .i64 0] (by kernel_rfl) rfl hN.out hOne.out h63.out hby.out hbs.out ?_
      intro v' w3 hown' hgrow _ hat
      obtain ⟨ao', cap', rfl⟩ := own_form hown'
      have gd : (wr.alloc (.cells #[.string (bs t.text), .int .i64 0, .int .i64 0, .int .i64 0] 124)).grownBy w3 (Value.ownBlock (.slice as_ st.obj.syms.length cs)) := ⟨hgrow.os, hgrow.tape, hgrow.output, hgrow.size, hgrow.block⟩
      have hat2 : Value.ownBlock (.slice ao' (st.obj.syms.length + 1) cap') = Value.ownBlock (.slice as_ st.obj.syms.length cs) ∨ Value.ownBlock (.slice ao' (st.obj.syms.length + 1) cap') = some (wr.alloc (.cells #[.string (bs t.text), .int .i64 0, .int .i64 0, .int .i64 0] 124)).heap.size := hat
      have F := hid (FIN.out _ _ _ gd hat2 hown')
      have n14 := KEEP1.out _ gd
      have n2 := KEEP2.out _ gd
      have ng := KEEP3.out _ gd
      have m5 := ng.cell 5
      have f5 := ng.free 5
      simp only [List.getElem?_toArray, List.getElem?_cons_succ, List.getElem?_cons_zero] at m5
      clear hown' hgrow gd hat hat2 ng
      refine hK.out _ _ ⟨n14, n2⟩ (fun hS4 => ?_)
      clear hK K
      refine wpAnyH_take (i := 16) (v := ?_) rfl (by kernel_rfl) (by kernel_rfl) (by kernel_rfl) (fun _ _ _ h => h) (Or.inl ⟨by kernel_rfl, ?_⟩) hS4 ?_
      rotate_left
      ·intro w' hw'; obtain ⟨x0, x1⟩ := hw'; go_simp; with_reducible rfl
      refine wpAnyH_take (i := 17) (v := ?_) rfl (by kernel_rfl) (by kernel_rfl) (by kernel_rfl) (fun _ _ _ h => h) (Or.inl ⟨by kernel_rfl, ?_⟩) hS4 ?_
      rotate_left
      ·intro w' hw'; obtain ⟨x0, x1⟩ := hw'; go_simp; with_reducible rfl

      refine wpAnyH_ready (rs := [18]) (by kernel_rfl) (by simp) ?_
      refine AllReadyH.cons rfl (fun K hK => ?_) AllReadyH.nil
      go_simp
      refine hK.out _ _ ⟨F.out.2.1, F.out.2.2.1⟩ (fun hS5 => ?_)
      clear hK K
      refine wpAnyH_done (by kernel_rfl) ?_ _
      try simp only [put_mk, List.getElem_toArray, List.getElem_cons_succ, List.getElem_cons_zero, List.setIfInBounds_toArray, List.set_cons_succ, List.set_cons_zero]
      have z14 := F.out.2.1
      have z5 := F.out.2.2.2
      clear hA hN hOne h63 hby hbs q14 q5 m0 m1 m2 m3 n14 n2 m5 f5 hS4 hS5 hS
      go_wp2
      go_ret2
      rw [RF.out]
      exact ⟨rfl, F.out.1⟩
     ·go_simp
      refine hK.out _ _ ⟨KA1.out, KA2.out⟩ (fun hS2 => ?_)
      clear hK K
      refine wpAnyH_ready (rs := [10]) (by kernel_rfl) (by simp) ?_
      refine AllReadyH.cons rfl (fun K hK => ?_) AllReadyH.nil
      go_simp
      refine hK.out _ _ ⟨KA1.out, KA2.out⟩ (fun hS3 => ?_)
      clear hK K hS2 hS3

      refine wpAnyH_ready (rs := [15]) (by kernel_rfl) (by simp) ?_
      refine AllReadyH.cons rfl (fun K hK => ?_) AllReadyH.nil
      rw [if_pos (by kernel_rfl)]
      refine wp_append_own_at _ (.tmp 53) (.tmp 57) 87 rfl B 124 i1 (.agg #[.string ⟨#[]⟩, .int .i64 0, .int .i64 0, .int .i64 0]) 4 40 Tryz.underlying87 hi1 hy0 hy1 hy2 rfl (by decide) (.slice as_ st.obj.syms.length cs) st.obj.syms.length (st.obj.syms.flatMap symV) (by kernel_rfl) hA.out ⟨wr.heap.size, 0, none⟩ 1 1 [.string (bs t.text), .int .i64 0, .int .i64 0, .int .i64 0] (by kernel_rfl) rfl hN.out hOne.out h63.out hby.out hbs.out ?_
      intro v' w3 hown' hgrow _ hat
      obtain ⟨ao', cap', rfl⟩ := own_form hown'
      have gd : (wr.alloc (.cells #[.string (bs t.text), .int .i64 0, .int .i64 0, .int .i64 0] 124)).grownBy w3 (Value.ownBlock (.slice as_ st.obj.syms.length cs)) := ⟨hgrow.os, hgrow.tape, hgrow.output, hgrow.size, hgrow.block⟩
      have hat2 : Value.ownBlock (.slice ao' (st.obj.syms.length + 1) cap') = Value.ownBlock (.slice as_ st.obj.syms.length cs) ∨ Value.ownBlock (.slice ao' (st.obj.syms.length + 1) cap') = some (wr.alloc (.cells #[.string (bs t.text), .int .i64 0, .int .i64 0, .int .i64 0] 124)).heap.size := hat
      have F := hid (FIN.out _ _ _ gd hat2 hown')
      have n14 := KEEP1.out _ gd
      have n2 := KEEP2.out _ gd
      have ng := KEEP3.out _ gd
      have m5 := ng.cell 5
      have f5 := ng.free 5
      simp only [List.getElem?_toArray, List.getElem?_cons_succ, List.getElem?_cons_zero] at m5
      clear hown' hgrow gd hat hat2 ng
      refine hK.out _ _ ⟨n14, n2⟩ (fun hS4 => ?_)
      clear hK K
      refine wpAnyH_take (i := 16) (v := ?_) rfl (by kernel_rfl) (by kernel_rfl) (by kernel_rfl) (fun _ _ _ h => h) (Or.inl ⟨by kernel_rfl, ?_⟩) hS4 ?_
      rotate_left
      ·intro w' hw'; obtain ⟨x0, x1⟩ := hw'; go_simp; with_reducible rfl
      refine wpAnyH_take (i := 17) (v := ?_) rfl (by kernel_rfl) (by kernel_rfl) (by kernel_rfl) (fun _ _ _ h => h) (Or.inl ⟨by kernel_rfl, ?_⟩) hS4 ?_
      rotate_left
      ·intro w' hw'; obtain ⟨x0, x1⟩ := hw'; go_simp; with_reducible rfl

      refine wpAnyH_ready (rs := [18]) (by kernel_rfl) (by simp) ?_
      refine AllReadyH.cons rfl (fun K hK => ?_) AllReadyH.nil
      go_simp
      refine hK.out _ _ ⟨F.out.2.1, F.out.2.2.1⟩ (fun hS5 => ?_)
      clear hK K
      refine wpAnyH_done (by kernel_rfl) ?_ _
      try simp only [put_mk, List.getElem_toArray, List.getElem_cons_succ, List.getElem_cons_zero, List.setIfInBounds_toArray, List.set_cons_succ, List.set_cons_zero]
      have z14 := F.out.2.1
      have z5 := F.out.2.2.2
      clear hA hN hOne h63 hby hbs q14 q5 m0 m1 m2 m3 n14 n2 m5 f5 hS4 hS5 hS
      go_wp2
      go_ret2
      rw [RF.out]
      exact ⟨rfl, F.out.1⟩
 ·have R := hid (show As.symbolNamed t st = ((0, false), st) by unfold As.symbolNamed; rw [hf]; rfl)
  rw [hf] at cF
  clear hf
  go_enter Tryz.func108, Tryz.ntmps108
  go_wp2_with fail
  refine (cF.out _ L0.out.d.1).mono ?_
  rintro e w1 ⟨rfl, rfl⟩
  go_wp2
  go_ret2
  rw [R.out]
  exact ⟨rfl, L0.out.d.does HW.out⟩

end Go.Proofs.YtnfgdlkiialnnaaGreatDoor
