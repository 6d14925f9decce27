/- Walks: Read of images, Load, the statement Images. -/
/- Walks: what the law says of images. -/
/- Walks over the law: what is loaded, and Runs. -/
/- The row and the card of Runs. -/
import Derived.Test.YtaiplongpjimnaaDoorG14
import Derived.Test.YtaiplongpjimnaaDoorG05
import Derived.Laws.CopyOwn
import Derived.Test.YtaiplongpjimnaaDoorCards
import Derived.Test.YtaiplongpjimnaaDoorTie
import Derived.ProofKit
import Derived.OpenShut
import Derived.ChangeMaps5
import Derived.Deep.DeepHandedRow
import Derived.Lib.LaidTab
namespace Go.Proofs.YtaiplongpjimnaaDoor
open Go.RowKit

theorem rdText_mark (l : List UInt8) (a b : UInt8) (h : (Lk.rdText l 2 (0, false)).1 = [a, b]) : (Lk.rdText l 2 (0, false)).2 = (2, false) ∧ 2 ≤ l.length ∧ l.take 2 = [a, b] := by
  unfold Lk.rdText at h ⊢
  simp only [Nat.sub_zero, List.drop_zero, Nat.zero_add] at h ⊢
  split at h
  · rename_i hl
    rw [if_pos hl]
    exact ⟨rfl, hl, h⟩
  · cases h
theorem mark_rdText (l : List UInt8) (a b : UInt8) (h : l.take 2 = [a, b]) : (Lk.rdText l 2 (0, false)).1 = [a, b] := by
  unfold Lk.rdText
  simp only [Nat.sub_zero, List.drop_zero]
  have : 2 ≤ l.length := by have := congrArg List.length h; simp at this; omega
  rw [if_pos this]
  exact h

/-- what Read of an image gives -/
def ImgRead (s : ByteArray) (e : Ending) (w' : World) : Prop :=
  (Im.IsImg (sl s) ∧ ∃ g, e = .returned (.tuple #[.pointer (some ⟨g, 0, none⟩), .int .i64 0]) ∧ ImgAt w' g (Im.imgOf (sl s))) ∨
  (¬ Im.IsImg (sl s) ∧ e = .returned (.tuple #[.pointer none, .int .i64 23]))

set_option maxHeartbeats 4000000 in
theorem imgRead_any (s : ByteArray) (w : World) (hs : s.size ≤ 1048576) :
    Calls Tryd.prog 11 #[.string s] w fun e w' => ImgRead s e w' ∧ w.grownBy w' none := by
  have hsz := sl_length s
  have TM := hid (imgOf_tame (sl s))
  go_enter Tryd.func11, Tryd.ntmps11
  go_wp2_with fail
  refine (newReader_any s w).mono ?_
  rintro e W1 ⟨rfl, g1⟩
  have R : RdAt (W1.alloc (.cells #[.string s, .int .i64 0, .bool false] 59)) W1.heap.size s 0 false := heap_alloc_new W1 _
  have HR := hid R
  have G1 := hid g1
  have GA := hid (World.grownBy_alloc W1 (.cells #[.string s, .int .i64 0, .bool false] 59) none)
  have hz := hid g1.size
  clear R g1
  by_cases hm : (Lk.rdText (sl s) 2 (0, false)).1 = [73, 77]
  · have cR := hid (readImage_yes W1.heap.size s 0 false _ HR.out hs (Nat.zero_le _) hm)
    obtain ⟨m1, m2, m3⟩ := rdText_mark _ _ _ hm
    rw [m1] at cR
    have FU := hid (fun h : Im.Full (sl s) => Im.rdImg_full (sl s) h)
    have ON := hid (Im.rdImg_only (sl s) m2)
    have IS := hid (show Im.IsImg (sl s) ↔ Im.Full (sl s) ∧ Im.ImgOk (Im.imgOf (sl s)) from ⟨fun q => q.2, fun q => ⟨m3, q⟩⟩)
    generalize Im.rdImg (sl s) (2, false) = X at *
    obtain ⟨m, p', s'⟩ := X
    simp only at cR ON FU
    clear hm m1 m2 m3
    go_wp2_with fail
    refine cR.out.mono ?_
    rintro e W2 ⟨g, rfl, hg, himg, hrd, hgr⟩
    have HIM := hid himg
    have HRD := hid hrd
    have GR := hid hgr
    clear himg hrd hgr hg cR
    have cD := hid (done_any W1.heap.size s p' s' W2 HRD.out)
    go_wp2_with fail
    refine cD.out.mono ?_
    rintro e W3 ⟨rfl, kd, rfl⟩
    have GF := hid (grown_drewN (grown_high (grown_trans G1.out GA.out) GR.out (by intro b e; simp at e; have := hz.out; omega)) kd)
    clear cD
    by_cases hd : s' = false ∧ p' = s.size
    · obtain ⟨rfl, rfl⟩ := hd
      have hfu := ON.out (by rw [hsz])
      have HF := hid hfu
      have hmm : m = Im.imgOf (sl s) := congrArg Prod.fst (FU.out hfu)
      subst hmm
      have cV := hid (imgValid_any g (Im.imgOf (sl s)) (W2.drewN kd) (HIM.out.kept (grown_drewN (World.grownBy.refl _ _) kd)) TM.out)
      have dd : (!false && decide (s.size = s.size)) = true := by simp
      clear hfu hsz
      go_wp2_with fail
      refine cV.out.mono ?_
      rintro e W4 ⟨t, q⟩
      have GQ := hid (grown_trans GF.out q)
      have HO4 := hid (HIM.out.kept (grown_trans (grown_drewN (World.grownBy.refl _ _) kd) q))
      rcases t.split with ⟨rfl, pv⟩ | ⟨rfl, pv⟩ <;> clear t q cV
      · go_wp2
        go_ret2
        exact ⟨.inr ⟨fun q => pv.out (IS.out.1 q).2, rfl⟩, GQ.out⟩
      · go_wp2
        go_ret2
        exact ⟨.inl ⟨IS.out.2 ⟨HF.out, pv.out⟩, g, rfl, HO4.out⟩, GQ.out⟩
    · have N := hid (show ¬ Im.IsImg (sl s) from fun q => by
        have := congrArg Prod.snd (FU.out (IS.out.1 q).1)
        simp only [Prod.mk.injEq] at this
        exact hd ⟨this.2, by rw [← hsz]; exact this.1⟩)
      have dd : (!s' && decide (p' = s.size)) = false := by
        cases s'
        · simp at hd ⊢; exact hd
        · rfl
      clear hsz hd
      go_wp2
      go_ret2
      exact ⟨.inr ⟨N.out, rfl⟩, GF.out⟩
  · have cR := hid (readImage_no W1.heap.size s 0 false _ HR.out hs (Nat.zero_le _) hm)
    have N := hid (show ¬ Im.IsImg (sl s) from fun q => hm (mark_rdText _ _ _ q.1))
    clear hm
    go_wp2_with fail
    refine cR.out.mono ?_
    rintro e W2 ⟨rfl, hgr⟩
    have GR := hid hgr
    clear hgr cR
    go_wp2
    go_ret2
    exact ⟨.inr ⟨N.out, rfl⟩, grown_high (grown_trans G1.out GA.out) GR.out (by intro b e; simp at e; have := hz.out; omega)⟩

/-- a machine that was loaded -/
def MachAt (W : World) (x : Nat) (m : Im.Img) : Prop := ∃ g, BlkAt W x #[.pointer (some ⟨g, 0, none⟩)] 46 ∧ ImgAt W g m
/-- what Load gives -/
def Loaded (s : ByteArray) (e : Ending) (w' : World) : Prop :=
  (Im.IsImg (sl s) ∧ ∃ x, e = .returned (.tuple #[.pointer (some ⟨x, 0, none⟩), .int .i64 0]) ∧ MachAt w' x (Im.imgOf (sl s))) ∨
  (¬ Im.IsImg (sl s) ∧ e = .returned (.tuple #[.pointer none, .int .i64 23]))

set_option maxHeartbeats 2000000 in
theorem load_any (s : ByteArray) (w : World) (hs : s.size ≤ 1048576) :
    Calls Tryd.prog 7 #[.string s] w fun e w' => Loaded s e w' ∧ w.grownBy w' none := by
  have cR := hid (imgRead_any s w hs)
  go_enter Tryd.func7, Tryd.ntmps7
  go_wp2_with fail
  refine cR.out.mono ?_
  rintro e W1 ⟨hr, hg⟩
  have G := hid hg
  clear hg cR
  rcases hr with ⟨q, g, rfl, hi⟩ | ⟨q, rfl⟩
  · have Q := hid q
    have HI := hid hi
    clear q hi
    go_wp2
    go_ret2
    have GA := World.grownBy_alloc W1 (.cells #[.pointer (some ⟨g, 0, none⟩)] 46) none
    exact ⟨.inl ⟨Q.out, W1.heap.size, rfl, g, BlkAt.new _ _ _, HI.out.kept GA⟩, grown_trans G.out GA⟩
  · have Q := hid q
    clear q
    go_wp2
    go_ret2
    exact ⟨.inr ⟨Q.out, rfl⟩, G.out⟩

theorem MachAt.kept {W W' : World} {x : Nat} {m : Im.Img} (h : MachAt W x m) (hg : W.grownBy W' none) : MachAt W' x m := by
  obtain ⟨g, hb, hi⟩ := h
  exact ⟨g, hb.grown hg (by simp), hi.kept hg⟩

end Go.Proofs.YtaiplongpjimnaaDoor

namespace Go.Proofs.YtaiplongpjimnaaDoor
open Go.RowKit

theorem sets2_grown {w V : World} (h : w.grownBy V none) (r : Nat) (hr : w.heap.size ≤ r) (a b : Value) : w.grownBy ((V.setCell ⟨r, 0, none⟩ a).setCell ⟨r, 1, none⟩ b) none :=
  grown_high (grown_high h (grown_set V r 0 a) (by intro k e; simp at e; omega)) (grown_set _ r 1 b) (by intro k e; simp at e; omega)
theorem sets2_high {V : World} (r : Nat) (a b : Value) : V.grownBy ((V.setCell ⟨r, 0, none⟩ a).setCell ⟨r, 1, none⟩ b) (some r) := grown_trans (grown_set V r 0 a) (grown_set _ r 1 b)

/-- what the law's loaded gives -/
def LoadedRet (s : ByteArray) (e : Ending) : Prop :=
  (Im.IsImg (sl s) ∧ ∃ x g, e = .returned (.tuple #[.agg #[.pointer (some ⟨x, 0, none⟩), .pointer (some ⟨g, 0, none⟩)], .bool true, .bool true])) ∨
  (¬ Im.IsImg (sl s) ∧ e = .returned (.tuple #[.agg #[.pointer none, .pointer none], .bool false, .bool true]))

set_option maxHeartbeats 4000000 in
theorem loaded_any (s : ByteArray) (w : World) (hs : s.size ≤ 1048576) :
    Calls Tryd.prog 4 #[.string s] w fun e w' => LoadedRet s e ∧ w.grownBy w' none := by
  have GA := hid (World.grownBy_alloc w (.cells #[.pointer none, .pointer none] 26) none)
  have B0 := hid (BlkAt.new w #[.pointer none, .pointer none] 26)
  have cL := hid (fun W => load_any s W hs)
  have cP := hid (fun W => parseImage_any s W hs)
  go_enter Tryd.func4, Tryd.ntmps4
  go_wp2_with fail
  refine (cL.out _).mono ?_
  rintro e W1 ⟨hl, g1⟩
  have G1 := hid (grown_trans GA.out g1)
  have B1 := hid (B0.out.grown g1 (by simp))
  clear g1 cL GA B0
  rcases hl with ⟨q, x, rfl, hm⟩ | ⟨q, rfl⟩
  · have Q := hid q
    clear q hm
    go_wp2_with fail
    refine (cP.out _).mono ?_
    rintro e W2 ⟨hp, g2⟩
    have G2 := hid (grown_trans G1.out g2)
    have B2 := hid (B1.out.grown g2 (by simp))
    clear g2 cP G1 B1
    rcases hp with ⟨_, g, rfl, hr⟩ | ⟨q, _⟩
    · clear hr
      have v0 := B2.out.free 0
      have v1 := B2.out.free 1
      have x0 := B2.out.cell 0
      have x1 := B2.out.cell 1
      simp only [List.getElem?_toArray, List.getElem?_cons_succ, List.getElem?_cons_zero] at x0 x1
      go_wp2
      have F := (B2.out.set 0 (.pointer (some ⟨x, 0, none⟩))).set 1 (.pointer (some ⟨g, 0, none⟩))
      have h0 := F.cell 0
      have h1 := F.cell 1
      simp only [List.setIfInBounds_toArray, List.set_cons_succ, List.set_cons_zero, List.getElem?_toArray, List.getElem?_cons_succ, List.getElem?_cons_zero] at h0 h1
      refine bodyPost_ret (v := .tuple #[.agg #[.pointer (some ⟨x, 0, none⟩), .pointer (some ⟨g, 0, none⟩)], .bool true, .bool true]) ?_ rfl ⟨.inl ⟨Q.out, x, g, rfl⟩, sets2_grown G2.out _ (Nat.le_refl _) _ _⟩
      clear F x0 x1 v0 v1
      generalize World.setCell _ _ _ = WF at *
      simp [results, Tryd.results4, go_sem, h0, h1]
    · exact absurd Q.out q
  · have Q := hid q
    clear q
    go_wp2_with fail
    refine (cP.out _).mono ?_
    rintro e W2 ⟨hp, g2⟩
    have G2 := hid (grown_trans G1.out g2)
    have B2 := hid (B1.out.grown g2 (by simp))
    clear g2 cP G1 B1
    rcases hp with ⟨q, _⟩ | ⟨_, v, rfl⟩
    · exact absurd q Q.out
    · have v0 := B2.out.free 0
      have v1 := B2.out.free 1
      have x0 := B2.out.cell 0
      have x1 := B2.out.cell 1
      simp only [List.getElem?_toArray, List.getElem?_cons_succ, List.getElem?_cons_zero] at x0 x1
      go_wp2
      have F := (B2.out.set 0 (.pointer none)).set 1 (.pointer none)
      have h0 := F.cell 0
      have h1 := F.cell 1
      simp only [List.setIfInBounds_toArray, List.set_cons_succ, List.set_cons_zero, List.getElem?_toArray, List.getElem?_cons_succ, List.getElem?_cons_zero] at h0 h1
      refine bodyPost_ret (v := .tuple #[.agg #[.pointer none, .pointer none], .bool false, .bool true]) ?_ rfl ⟨.inr ⟨Q.out, rfl⟩, sets2_grown G2.out _ (Nat.le_refl _) _ _⟩
      clear F x0 x1 v0 v1
      generalize World.setCell _ _ _ = WF at *
      simp [results, Tryd.results4, go_sem, h0, h1]

end Go.Proofs.YtaiplongpjimnaaDoor

namespace Go.Proofs.YtaiplongpjimnaaDoor
open Go.RowKit

/-- what the law's loaded gives, with what lies there -/
def LoadedTold (s : ByteArray) (e : Ending) (w' : World) : Prop :=
  (Im.IsImg (sl s) ∧ ∃ x g, e = .returned (.tuple #[.agg #[.pointer (some ⟨x, 0, none⟩), .pointer (some ⟨g, 0, none⟩)], .bool true, .bool true]) ∧ MachAt w' x (Im.imgOf (sl s)) ∧ RImgAt w' g (Im.imgOf (sl s))) ∨
  (¬ Im.IsImg (sl s) ∧ e = .returned (.tuple #[.agg #[.pointer none, .pointer none], .bool false, .bool true]))

/-- rows of numbers, images and machines pass a store into a block of another type -/
theorem row_other {V : World} {r : Nat} {cs : Array Value} (hb : BlkAt V r cs 26) (a b : Value) {B : Nat} {v : Value} {n : Nat} {xs : List Value} (h : V.ownsRow B 3 1 v n xs) : ((V.setCell ⟨r, 0, none⟩ a).setCell ⟨r, 1, none⟩ b).ownsRow B 3 1 v n xs := by
  have hne : ∀ k, v.ownBlock = some k → k ≠ r := by
    intro k e c
    subst c
    obtain ⟨h1, h2 | ⟨g, cap, cur, rfl, _, hg, _⟩⟩ := h
    · rw [h2.1] at e; simp [Value.ownBlock] at e
    · simp only [Value.ownBlock, Option.some.injEq] at e
      subst e
      have := hg.symm.trans hb
      simp at this
  exact own_other (own_other h hne) hne
theorem blk_pass {V : World} {r k : Nat} {cs ds : Array Value} {t : TypeId} (hb : BlkAt V r cs 26) (a b : Value) (h : BlkAt V k ds t) (ht : t ≠ 26) : BlkAt ((V.setCell ⟨r, 0, none⟩ a).setCell ⟨r, 1, none⟩ b) k ds t := by
  have hne : r ≠ k := by
    intro c
    subst c
    have := h.symm.trans hb
    simp at this
    exact ht this.2
  exact blk_other (blk_other h hne 0 a) hne 1 b
theorem MachAt.other {V : World} {x r : Nat} {m : Im.Img} {cs : Array Value} (h : MachAt V x m) (hb : BlkAt V r cs 26) (a b : Value) : MachAt ((V.setCell ⟨r, 0, none⟩ a).setCell ⟨r, 1, none⟩ b) x m := by
  obtain ⟨g, h1, vt, vf, vd, h2, h3, h4, h5⟩ := h
  exact ⟨g, blk_pass hb a b h1 (by decide), vt, vf, vd, blk_pass hb a b h2 (by decide), row_other hb a b h3, row_other hb a b h4, row_other hb a b h5⟩
theorem RImgAt.other {V : World} {g r : Nat} {m : Im.Img} {cs : Array Value} (h : RImgAt V g m) (hb : BlkAt V r cs 26) (a b : Value) : RImgAt ((V.setCell ⟨r, 0, none⟩ a).setCell ⟨r, 1, none⟩ b) g m := by
  obtain ⟨vt, vf, vd, h2, h3, h4, h5⟩ := h
  exact ⟨vt, vf, vd, blk_pass hb a b h2 (by decide), row_other hb a b h3, row_other hb a b h4, row_other hb a b h5⟩

set_option maxHeartbeats 4000000 in
theorem loaded_told (s : ByteArray) (w : World) (hs : s.size ≤ 1048576) :
    Calls Tryd.prog 4 #[.string s] w fun e w' => LoadedTold s e w' ∧ w.grownBy w' none := by
  have GA := hid (World.grownBy_alloc w (.cells #[.pointer none, .pointer none] 26) none)
  have B0 := hid (BlkAt.new w #[.pointer none, .pointer none] 26)
  have cL := hid (fun W => load_any s W hs)
  have cP := hid (fun W => parseImage_any s W hs)
  go_enter Tryd.func4, Tryd.ntmps4
  go_wp2_with fail
  refine (cL.out _).mono ?_
  rintro e W1 ⟨hl, g1⟩
  have G1 := hid (grown_trans GA.out g1)
  have B1 := hid (B0.out.grown g1 (by simp))
  clear g1 cL GA B0
  rcases hl with ⟨q, x, rfl, hm⟩ | ⟨q, rfl⟩
  · have Q := hid q
    have HM := hid hm
    clear q hm
    go_wp2_with fail
    refine (cP.out _).mono ?_
    rintro e W2 ⟨hp, g2⟩
    have G2 := hid (grown_trans G1.out g2)
    have B2 := hid (B1.out.grown g2 (by simp))
    have HM2 := hid (HM.out.kept g2)
    clear g2 cP G1 B1 HM
    rcases hp with ⟨_, g, rfl, hr⟩ | ⟨q, _⟩
    · have HR := hid hr
      clear hr
      have v0 := B2.out.free 0
      have v1 := B2.out.free 1
      have x0 := B2.out.cell 0
      have x1 := B2.out.cell 1
      simp only [List.getElem?_toArray, List.getElem?_cons_succ, List.getElem?_cons_zero] at x0 x1
      go_wp2
      have F := (B2.out.set 0 (.pointer (some ⟨x, 0, none⟩))).set 1 (.pointer (some ⟨g, 0, none⟩))
      have h0 := F.cell 0
      have h1 := F.cell 1
      simp only [List.setIfInBounds_toArray, List.set_cons_succ, List.set_cons_zero, List.getElem?_toArray, List.getElem?_cons_succ, List.getElem?_cons_zero] at h0 h1
      have KM := HM2.out.other B2.out (.pointer (some ⟨x, 0, none⟩)) (.pointer (some ⟨g, 0, none⟩))
      have KR := HR.out.other B2.out (.pointer (some ⟨x, 0, none⟩)) (.pointer (some ⟨g, 0, none⟩))
      refine bodyPost_ret (v := .tuple #[.agg #[.pointer (some ⟨x, 0, none⟩), .pointer (some ⟨g, 0, none⟩)], .bool true, .bool true]) ?_ rfl ⟨.inl ⟨Q.out, x, g, rfl, KM, KR⟩, sets2_grown G2.out _ (Nat.le_refl _) _ _⟩
      clear F x0 x1 v0 v1 KM KR
      generalize World.setCell _ _ _ = WF at *
      simp [results, Tryd.results4, go_sem, h0, h1]
    · exact absurd Q.out q
  · have Q := hid q
    clear q
    go_wp2_with fail
    refine (cP.out _).mono ?_
    rintro e W2 ⟨hp, g2⟩
    have G2 := hid (grown_trans G1.out g2)
    have B2 := hid (B1.out.grown g2 (by simp))
    clear g2 cP G1 B1
    rcases hp with ⟨q, _⟩ | ⟨_, v, rfl⟩
    · exact absurd q Q.out
    · have v0 := B2.out.free 0
      have v1 := B2.out.free 1
      have x0 := B2.out.cell 0
      have x1 := B2.out.cell 1
      simp only [List.getElem?_toArray, List.getElem?_cons_succ, List.getElem?_cons_zero] at x0 x1
      go_wp2
      have F := (B2.out.set 0 (.pointer none)).set 1 (.pointer none)
      have h0 := F.cell 0
      have h1 := F.cell 1
      simp only [List.setIfInBounds_toArray, List.set_cons_succ, List.set_cons_zero, List.getElem?_toArray, List.getElem?_cons_succ, List.getElem?_cons_zero] at h0 h1
      refine bodyPost_ret (v := .tuple #[.agg #[.pointer none, .pointer none], .bool false, .bool true]) ?_ rfl ⟨.inr ⟨Q.out, rfl⟩, sets2_grown G2.out _ (Nat.le_refl _) _ _⟩
      clear F x0 x1 v0 v1
      generalize World.setCell _ _ _ = WF at *
      simp [results, Tryd.results4, go_sem, h0, h1]

theorem call_out (ins : List Int) (st : Mc.St) (h : st.out.length ≤ 16) : (Mc.call ins st).out.length ≤ 16 := by
  unfold Mc.call
  split
  · exact h
  split
  · split
    · exact h
    · simp; omega
  split
  · split
    · exact h
    · show (Mc.set _ _ _).out.length ≤ 16
      rw [(set_fields _ _ _).2.2.2.1]; exact h
  · exact h
theorem doIt_out (m : Im.Img) (ins : List Int) (op rd rs1 rs2 n : Int) (st : Mc.St) (h : st.out.length ≤ 16) : (Mc.doIt m ins op rd rs1 rs2 n st).out.length ≤ 16 := by
  have q : ∀ r v, (Mc.set r v st).out.length ≤ 16 := fun r v => by rw [(set_fields _ _ _).2.2.2.1]; exact h
  unfold Mc.doIt
  by_cases h0 : op = 0
  · rw [if_pos h0]; exact h
  rw [if_neg h0]
  by_cases h1 : op = 1
  · rw [if_pos h1]; exact q _ _
  rw [if_neg h1]
  by_cases h2 : op = 2
  · rw [if_pos h2]; exact q _ _
  rw [if_neg h2]
  by_cases h3 : op = 3
  · rw [if_pos h3]; exact q _ _
  rw [if_neg h3]
  by_cases h4 : op = 4
  · rw [if_pos h4]; exact q _ _
  rw [if_neg h4]
  by_cases h5 : 5 ≤ op ∧ op ≤ 10
  · rw [if_pos h5]; unfold Mc.branch; split <;> exact h
  rw [if_neg h5]
  by_cases h6 : op = 11
  · rw [if_pos h6, load_word]
    cases Mc.wordAt m st (Mc.wd (Mc.reg st rs1 + n)) with
    | none => exact h
    | some v => exact q _ _
  rw [if_neg h6]
  by_cases h7 : op = 12
  · rw [if_pos h7]; unfold Mc.store; split <;> exact h
  rw [if_neg h7]
  by_cases h8 : 13 ≤ op ∧ op ≤ 17
  · rw [if_pos h8]; exact q _ _
  rw [if_neg h8]
  by_cases h9 : op = 25
  · rw [if_pos h9]; exact call_out _ _ h
  rw [if_neg h9]
  exact q _ _
theorem step_out (m : Im.Img) (ins : List Int) (st : Mc.St) (h : st.out.length ≤ 16) : (Mc.step m ins st).out.length ≤ 16 := by
  unfold Mc.step
  cases Im.code m st.pc with
  | none => exact h
  | some w => exact doIt_out _ _ _ _ _ _ _ _ h
theorem steps_out (m : Im.Img) (ins : List Int) (fuel : Nat) : ∀ (k : Nat) (st : Mc.St), st.out.length ≤ 16 → (Mc.steps m ins fuel k st).out.length ≤ 16 := by
  intro k
  induction k with
  | zero => intro st h; exact h
  | succ k ih =>
    intro st h
    by_cases c : st.ende = 0 ∧ st.steps < fuel
    · rw [steps_more m ins fuel k st c]; exact ih _ (step_out m ins st h)
    · rw [steps_end m ins fuel _ st c]; exact h
theorem told_out (m : Im.Img) (ins : List Int) (fuel : Int) : (Mc.toldS m ins fuel).out.length ≤ 1048576 := by
  unfold Mc.toldS
  split
  · simp
  · unfold Mc.run
    have h := steps_out m ins fuel.toNat fuel.toNat (Mc.start m) (by simp [Mc.start])
    dsimp only
    split
    · show (Mc.steps m ins fuel.toNat fuel.toNat (Mc.start m)).out.length ≤ 1048576
      omega
    · omega

set_option maxRecDepth 100000 in
set_option maxHeartbeats 8000000 in
theorem runs_any (s : ByteArray) (ai : Option Addr) (ci : Nat) (ins : List Int) (fuel : Int) (w : World) (hin : IntsIn w ai ins) (ht : Tabs w) (hci : ins.length ≤ maxLen) :
    Calls Tryd.prog 3 #[.string s, .slice ai ins.length ci, .int .i64 fuel] w fun e w' => e = .returned (.bool true) ∧ w.grownBy w' none := by
  unfold maxLen at hci
  by_cases h1 : 1048576 < s.size
  · have d : decide (1048576 < (s.size : Int)) = true := by simp; omega
    go_enter Tryd.func3, Tryd.ntmps3
    go_wp2
    go_ret
    exact ⟨rfl, World.grownBy.refl _ _⟩
  have d1 : decide (1048576 < (s.size : Int)) = false := by simp; omega
  by_cases h2 : 1048576 < ins.length
  · have d : decide (1048576 < (ins.length : Int)) = true := by simp; omega
    go_enter Tryd.func3, Tryd.ntmps3
    go_wp2
    go_ret
    exact ⟨rfl, World.grownBy.refl _ _⟩
  have d2 : decide (1048576 < (ins.length : Int)) = false := by simp; omega
  have cL := hid (loaded_told s w (by omega))
  have HI := hid hin
  have HT := hid ht
  clear hin ht
  go_enter Tryd.func3, Tryd.ntmps3
  go_wp2_with fail
  refine cL.out.mono ?_
  rintro e W1 ⟨hr, hg⟩
  have G1 := hid hg
  clear hg cL
  rcases hr with ⟨q, x, rg, rfl, hM, hR⟩ | ⟨q, rfl⟩
  case inr =>
    clear q
    go_wp2
    go_ret
    exact ⟨rfl, grown_trans G1.out (World.grownBy_alloc _ _ _)⟩
  have HM := hid hM
  have HR := hid hR
  clear q hM hR
  obtain ⟨i0, hi, hz0, hz1, hz2⟩ := info_parts Tryd.infoInt
  have GA := hid (World.grownBy_alloc W1 (.cells #[.pointer (some ⟨x, 0, none⟩), .pointer (some ⟨rg, 0, none⟩)] 26) none)
  have BA := hid (BlkAt.new W1 #[.pointer (some ⟨x, 0, none⟩), .pointer (some ⟨rg, 0, none⟩)] 26)
  have hsA : (W1.alloc (.cells #[.pointer (some ⟨x, 0, none⟩), .pointer (some ⟨rg, 0, none⟩)] 26)).heap.size = W1.heap.size + 1 := Array.size_push _
  have HSA := hid hsA
  clear hsA
  have HSZ := hid (show (Tryd.prog.info? 3).map (·.size) = some 1 by rw [hi]; simp [hz1])
  have HIA := hid (HI.out.kept (fun a v e => gcell e (grown_trans G1.out GA.out)))
  have MK := hid (fun (w2 : World) (L : List Value) (hown2 : w2.ownsRow (W1.heap.size + 1) 3 1 (.slice (some ⟨W1.heap.size + 1, 0, none⟩) ins.length ins.length) ins.length L) => show ∃ cur : List Value, cur.length = ins.length ∧ w2.heap[W1.heap.size + 1]? = some (.cells cur.toArray 3 (0, 0)) by
    rcases hown2.2 with ⟨h1, _⟩ | ⟨g', cap', cur, hv, _, hg, _, _, h5, _⟩
    · simp at h1
    · simp only [Value.slice.injEq, Option.some.injEq, Addr.mk.injEq] at hv
      obtain ⟨⟨rfl, _⟩, _, rfl⟩ := hv
      exact ⟨cur.toList, by simpa using h5, by simpa using hg⟩)
  have SRC := hid (fun (w2 : World) (hg2 : (W1.alloc (.cells #[.pointer (some ⟨x, 0, none⟩), .pointer (some ⟨rg, 0, none⟩)] 26)).grownBy w2 none) (hp : 0 < (ins.map (Value.int .i64)).length) => show ∃ ad, ai = some ad ∧ ∀ j v, (ins.map (Value.int .i64))[j]? = some v → w2.cell? (ad.add j) = some v by
    obtain ⟨g', off, he, hc⟩ := HIA.out (by simpa using hp)
    refine ⟨⟨g', off, none⟩, he, fun j v hv => ?_⟩
    rw [List.getElem?_map, Option.map_eq_some_iff] at hv
    obtain ⟨y, hy, rfl⟩ := hv
    obtain ⟨hj, rfl⟩ := List.getElem?_eq_some_iff.1 hy
    have e : (⟨g', off, none⟩ : Addr).add j = ⟨g', off + j, none⟩ := by
      unfold Addr.add
      by_cases h0 : j = 0
      · subst h0; simp
      · simp [h0]
    rw [e]
    exact gcell (hc j hj) hg2)
  go_wp2_with (at_make; refine wpList_make_full _ rfl _ _ 22 rfl (W1.alloc (.cells #[.pointer (some ⟨x, 0, none⟩), .pointer (some ⟨rg, 0, none⟩)] 26)).heap.size 3 i0 (.int .i64 0) 1 Tryd.underlying22 hi hz0 hz1 .i64 .i64 _ _ ins.length rfl rfl rfl rfl (by rw [hz2]; omega) (by unfold maxLen; omega) (Nat.le_refl _) ?_)
  intro w2 hown2 hg2
  obtain ⟨cur, hcl, hcb⟩ := MK.out w2 _ hown2
  have OB := hid hcb
  have HG2 := hid hg2
  have CL := hid hcl
  clear hcb hg2 hown2 hcl
  go_wp2_with (refine wpList_copy_splice rfl _ _ 22 22 rfl 3 Tryd.underlying22 HSZ.out (some ⟨W1.heap.size + 1, 0, none⟩) ai ins.length ins.length ins.length ci rfl rfl (W1.heap.size + 1) 0 cur 3 OB.out (ins.map (Value.int .i64)) (by simp) (fun hp => ⟨rfl, SRC.out w2 HG2.out hp⟩) (by have := CL.out; simp; omega) (by intro u hu; simp at hu; obtain ⟨y, _, rfl⟩ := hu; rfl) (W1.alloc (.cells #[.pointer (some ⟨x, 0, none⟩), .pointer (some ⟨rg, 0, none⟩)] 26)).heap.size (W1.alloc (.cells #[.pointer (some ⟨x, 0, none⟩), .pointer (some ⟨rg, 0, none⟩)] 26)) ⟨HG2.out.os, HG2.out.tape, HG2.out.output, HG2.out.size, fun k hk => HG2.out.block k hk (by simp)⟩ (by rw [HSA.out]; exact Nat.le_refl _) ?_)
  intro w3 hB3 hb3
  have GW : Hid ((W1.alloc (.cells #[.pointer (some ⟨x, 0, none⟩), .pointer (some ⟨rg, 0, none⟩)] 26)).grownBy w3 none) := ⟨hb3.os, hb3.tape, hb3.output, hb3.size, fun i hi _ => hb3.block i (by have := HSA.out; omega)⟩
  have G3 := hid (grown_trans (grown_trans G1.out GA.out) GW.out)
  have OWN := hid (show IntsIn w3 (some ⟨W1.heap.size + 1, 0, none⟩) ins from fun hp => ⟨W1.heap.size + 1, 0, rfl, fun i hi => by
    have e : splice cur 0 (ins.map (Value.int .i64)) = ins.map (Value.int .i64) := by
      unfold splice
      rw [List.drop_of_length_le (by have := CL.out; simp; omega)]
      simp
    have hb : BlkAt w3 (W1.heap.size + 1) (ins.map (Value.int .i64)).toArray 3 := by rw [← e]; exact hB3.out
    rw [Nat.zero_add, hb.cell i, List.getElem?_toArray, List.getElem?_map, List.getElem?_eq_getElem hi]
    rfl⟩)
  have B3 := hid (BA.out.grown GW.out (by simp))
  have I3 := hid (HI.out.kept (fun a v e => gcell e G3.out))
  have T3 := hid (HT.out.grown G3.out)
  have M3 := hid (HM.out.kept (grown_trans GA.out GW.out))
  have R3 := hid (HR.out.kept (grown_trans GA.out GW.out))
  obtain ⟨gi, hxb, hII⟩ := M3.out
  have XC := hid (hxb.cell 0)
  have II := hid hII
  clear hB3 hb3 OB HG2 CL MK SRC HSZ HIA HI HT HM HR M3 hxb hII
  have cR := hid (fun W (hg : w3.grownBy W none) => ran_any x gi rg (Im.imgOf (sl s)) ai (some ⟨W1.heap.size + 1, 0, none⟩) ci ins.length ins fuel W (gcell (by have := XC.out; simpa using this) hg) (II.out.kept hg) (R3.out.kept hg) (imgOf_tame _) (imgOf_words _).2 (imgOf_words _).1 (I3.out.kept (fun a v e => gcell e hg)) (OWN.out.kept (fun a v e => gcell e hg)) (T3.out.grown hg) (told_out _ _ _))
  have cS := hid (fun W (hg : w3.grownBy W none) => sameRun_yes (some ⟨W1.heap.size + 1, 0, none⟩) ai ins.length ci ins W (OWN.out.kept (fun a v e => gcell e hg)) (I3.out.kept (fun a v e => gcell e hg)) (by omega))
  have b0 := B3.out.cell 0
  have b1 := B3.out.cell 1
  simp only [List.getElem?_toArray, List.getElem?_cons_succ, List.getElem?_cons_zero] at b0 b1
  go_wp2_with fail
  refine (cR.out _ (World.grownBy.refl _ _)).mono ?_
  rintro e w4 ⟨⟨z1, z2, zo, zn, zc, z3, z4, rfl⟩, hg4⟩
  have G4 := hid hg4
  have B4 := hid (B3.out.grown hg4 (by simp))
  clear hg4 b0 b1
  have b0 := B4.out.cell 0
  have b1 := B4.out.cell 1
  simp only [List.getElem?_toArray, List.getElem?_cons_succ, List.getElem?_cons_zero] at b0 b1
  have hltb := B4.out.lt
  go_wp2_with fail
  refine (cR.out _ (grown_trans G4.out (World.grownBy_alloc _ _ _))).mono ?_
  rintro e w5 ⟨⟨y1, y2, yo, yn, yc, y3, y4, rfl⟩, hg5⟩
  have G5 := hid (grown_trans (grown_trans G4.out (World.grownBy_alloc _ _ _)) hg5)
  clear hg5 b0 b1 B4 cR hltb
  go_wp2_with fail
  refine (cS.out _ (grown_trans G5.out (World.grownBy_alloc _ _ _))).mono ?_
  rintro e w6 ⟨rfl, n6, h6⟩
  have G6 : Hid (w3.grownBy w6 none) := by rw [h6]; exact grown_drewN (grown_trans G5.out (World.grownBy_alloc _ _ _)) n6
  clear h6 cS
  go_wp2
  go_ret
  exact ⟨rfl, grown_trans G3.out G6.out⟩

end Go.Proofs.YtaiplongpjimnaaDoor

namespace Go.Proofs.YtaiplongpjimnaaDoor
open Go.ChangeShapes Go.WideShapes Go.ChangeAt Go.RowKit

theorem ownKnobNone : ownKnob Tryd.prog.godebug = none := by kernel_rfl
theorem gForm : Tryd.prog.globalNamed "linker/instr.forms" = some 0 := by kernel_rfl
theorem gFix : Tryd.prog.globalNamed "linker/instr.fixed" = some 1 := by kernel_rfl
theorem gFormType : (Tryd.prog.globals[0]?).map (·.type) = some 102 := by kernel_rfl
theorem gFixType : (Tryd.prog.globals[1]?).map (·.type) = some 102 := by kernel_rfl
theorem cellsArr : Tryd.prog.cellsOf 102 = 26 := by kernel_rfl
theorem cellsInt : Tryd.prog.cellsOf 3 = 1 := by kernel_rfl

/-- what the row's list gives: the tables -/
theorem tabs_of_laid {W : World} (h : laidMetH Tryd.prog Rows.runsRow.laid W) : Tabs W := by
  have h' : laidMet Tryd.prog [("linker/instr.forms", Lib.tabData .i64 formL), ("linker/instr.fixed", Lib.tabData .i64 fixedL)] W := h
  have t1 : Lib.TabIs Tryd.prog W "linker/instr.forms" .i64 formL := Lib.tabIs_of_head gForm gFormType Tryd.underlying102 Tryd.underlying3 cellsInt cellsArr h'
  have t2 : Lib.TabIs Tryd.prog W "linker/instr.fixed" .i64 fixedL := by
    obtain ⟨ps, ⟨g', t', cs, fuel, p, q, hg', ht', hvar, hd, ⟨g2, t2, cs2, fuel2, p2, q2, hg2, ht2, hvar2, hd2, _, _⟩, _⟩, _⟩ := h'
    obtain rfl := Option.some.inj (gFix.symm.trans hg2)
    obtain rfl := Option.some.inj (gFixType.symm.trans ht2)
    unfold Lib.TabIs
    rw [hvar2, ← Lib.cells_of_tab Tryd.underlying102 Tryd.underlying3 cellsInt cellsArr hd2]
  exact ⟨fun i hi => t1.cell gForm i hi, fun i hi => t2.cell gFix i hi⟩

theorem kept_of_grown {W W' : World} (h : W.grownBy W' none) (may : MemPlace → Prop) : W.keptBut W' may := by
  refine World.keptBut_mono (fun _ f => f.elim) (?_ : W.keptBut W' (fun _ => False))
  refine ⟨h.os, h.output, fun i hi => ?_⟩
  rw [h.block i hi (by simp)]
  cases hb : W.heap[i]? with
  | none => trivial
  | some o => cases o <;> simp

theorem add_cell {W W' : World} {a : Addr} {i : Nat} {v : Value} (h : W.cell? (a.add i) = some v) (hg : W.grownBy W' none) : W'.cell? (a.add i) = some v := gcell h hg

set_option maxRecDepth 100000 in
theorem runs_contract (H : Type) (enc : TypeId × Value → H) (W : World) (base : Nat) (args : Array Value) (ds gs : List (DataW H)) (before : List MemPlace)
    (hval : ∀ (j : Nat) t v, Tryd.f3.params[j]? = some t → args[j]? = some v → Value.okWide Tryd.prog W .any base t v)
    (hW : DataW.Whole enc Tryd.prog Tryd.f3.params.toList Rows.runsSpec.vars false W args.toList ds gs before) (hL : laidMetH Tryd.prog Rows.runsRow.laid W) :
    Calls Tryd.prog 3 args W fun e W' => ∃ v, e = .returned v ∧ Rows.runsSpec.post enc Tryd.prog Tryd.f3 false true false false W args v W' := by
  have hW' := hW
  obtain ⟨p, q, hA0, hV, rfl, hfz, hnd⟩ := hW
  have hA : DataW.TrodAll enc Tryd.prog W 0 (fun _ => true) true Tryd.f3.params.toList args.toList ds p := hA0
  rw [Tryd.params3] at hA hval
  obtain ⟨v0, vs0, d0, ds0, p0, q0, hargs, rfl, rfl, h0, r0⟩ := trodAll_cons hA
  obtain ⟨v1, vs1, d1, ds1, p1, q1, hargs1, rfl, rfl, h1, r1⟩ := trodAll_cons r0
  obtain ⟨v2, vs2, d2, ds2, p2, q2, hargs2, rfl, rfl, h2, r2⟩ := trodAll_cons r1
  obtain ⟨rfl, rfl, rfl⟩ := trodAll_nil r2
  subst hargs2
  subst hargs1
  obtain rfl : args = #[v0, v1, v2] := by cases args; simp_all
  obtain ⟨rfl, rfl⟩ := trodVars_none hV
  have hv0 : Value.okWide Tryd.prog W .any base 9 v0 := hval 0 9 v0 rfl rfl
  have hv1 : Value.okWide Tryd.prog W .any base 22 v1 := hval 1 22 v1 rfl rfl
  have hv2 : Value.okWide Tryd.prog W .any base 3 v2 := hval 2 3 v2 rfl rfl
  obtain ⟨s, rfl, rfl, rfl, hs⟩ := ChangeMaps.open_string (t := 9) Tryd.underlying9 hv0 h0
  obtain ⟨f, rfl, rfl, rfl, hw⟩ := open_int (t := 3) Tryd.underlying3 hv2 h2
  obtain ⟨a0, len, cap, rfl⟩ := okWide_slice Tryd.underlying22 hv1
  obtain ⟨fuel, hf⟩ := h1
  clear hA0
  rcases open_ints Tryd.underlying22 Tryd.underlying3 cellsInt hf with ⟨hcs, hx⟩ | ⟨a, len', cap', zs, hcs, _, hle, hmax, hall, hx, hcell, hwf⟩
  · simp [Value.cells] at hcs
    obtain ⟨rfl, rfl, rfl⟩ := hcs
    simp only [Prod.mk.injEq] at hx
    obtain ⟨rfl, rfl⟩ := hx
    refine (runs_any s none 0 [] f W (fun h => absurd h (by simp)) (tabs_of_laid hL) (by simp)).mono fun e W' ⟨he, hg⟩ => ?_
    subst he
    exact ⟨_, rfl, _, _, _, [], _, [], hW', trodAll_cons_mk (shut_bool Tryd.underlying4 _) trodAll_mk0, trodAll_cons_mk (ChangeMaps.shut_string Tryd.underlying9 hs) (trodAll_cons_mk (shut_slice_nil Tryd.underlying22) (trodAll_cons_mk (shut_int Tryd.underlying3 hw) trodAll_mk0)), rfl, kept_of_grown hg _, fun h => by cases h⟩
  · simp [Value.cells] at hcs
    obtain ⟨rfl, rfl, rfl⟩ := hcs
    simp only [Prod.mk.injEq] at hx
    obtain ⟨rfl, rfl⟩ := hx
    simp only [if_true] at hall
    have hlen : (zs.take len).length = len := by rw [List.length_take]; omega
    have hin : IntsIn W (some a) (zs.take len) := by
      intro hp
      rw [hlen] at hp
      obtain ⟨b, off, rfl, hc⟩ := ints_at hcell (by omega)
      refine ⟨b, off, rfl, fun i hi => ?_⟩
      rw [hlen] at hi
      rw [hc i (by omega), List.getElem_take, List.getD_eq_getElem?_getD, List.getElem?_eq_getElem (by omega)]
      rfl
    have hspare : zs.length = (if decide (a.block < W.heap.size) = true then cap else len) := by
      by_cases hz : 0 < zs.length
      · have hb := World.block_lt_of_cell? W _ (hcell 0 hz)
        have hb2 : a.block < W.heap.size := by rw [block_add] at hb; exact hb
        rw [decide_eq_true hb2, if_pos rfl, hall]
      · have h0 : cap = 0 := by omega
        have h1 : len = 0 := by omega
        rw [hall, h0, h1]
        simp
    have key := runs_any s (some a) cap (zs.take len) f W hin (tabs_of_laid hL) (by rw [hlen]; omega)
    rw [hlen] at key
    refine key.mono fun e W' ⟨he, hg⟩ => ?_
    subst he
    exact ⟨_, rfl, _, _, _, [], _, [], hW', trodAll_cons_mk (shut_bool Tryd.underlying4 _) trodAll_mk0, trodAll_cons_mk (ChangeMaps.shut_string Tryd.underlying9 hs) (trodAll_cons_mk ⟨2, shut_ints 0 Tryd.underlying22 Tryd.underlying3 cellsInt (Nat.zero_le _) hle hmax hspare (fun i hi => add_cell (hcell i hi) hg) hwf⟩ (trodAll_cons_mk (shut_int Tryd.underlying3 hw) trodAll_mk0)), rfl, kept_of_grown hg _, fun h => by cases h⟩

/-- a world for the witness: the settled one, the tables holding what is laid -/
def tabObj (zs : List Int) : Obj → Obj
  | .cells _ t frozen => .cells (zs.map (Value.int .i64)).toArray t frozen
  | o => o
noncomputable def laidWorld (os : Os) : World :=
  { World.holding Tryd.prog os ⟨#[], #[], []⟩ with heap := ((World.holding Tryd.prog os ⟨#[], #[], []⟩).heap.modify 0 (tabObj formL)).modify 1 (tabObj fixedL) }
theorem laid_met (os : Os) : laidMet Tryd.prog Rows.runsRow.laid ((laidWorld os).forCall (fun _ _ => 0) ⟨#[], #[.string ⟨#[]⟩, .slice none 0 0, .int .i64 0], []⟩).memory :=
  laidMet_of_run' 8 (by kernel_rfl) (by kernel_rfl)
theorem witness_reads (os : Os) {H : Type} (enc : TypeId × Value → H) : ∃ places, DataW.whole enc Tryd.prog ((laidWorld os).forCall (fun _ _ => 0) ⟨#[], #[.string ⟨#[]⟩, .slice none 0 0, .int .i64 0], []⟩).memory Tryd.f3.params.toList Rows.runsSpec.vars false #[Value.string ⟨#[]⟩, .slice none 0 0, .int .i64 0].toList 8 = some ([.lit (.string []), .nil, .lit (.int .i64 0)], [], places) :=
  ⟨[], by kernel_rfl⟩

set_option maxRecDepth 100000 in
theorem runs_lifted (os : Os) (started : os.Started) (H : Type) (enc : TypeId × Value → H) (F : Stop.Interp) :
    ReturnsInHanded {} Tryd.checked os 3 .any ((OpenSpec.ofChange Rows.runsSpec).preRow enc Tryd.prog Tryd.f3 Rows.runsRow.domain false Rows.runsRow.laid) (((OpenSpec.ofChange Rows.runsSpec).at F).post enc Tryd.prog Tryd.f3 false true false false) := by
  obtain ⟨places, hx⟩ := witness_reads os enc
  refine returnsInHanded_of_row (C := Tryd.checked) (s := OpenSpec.ofChange Rows.runsSpec) ownKnobNone started (by kernel_rfl) Tryd.func3
    (witness_row_at (enc := enc) (C := Tryd.checked) false (laidWorld os) #[.string ⟨#[]⟩, .slice none 0 0, .int .i64 0] rfl (by kernel_rfl) (by kernel_rfl) (by kernel_rfl)
      (OpenSpec.preRow_of_cond 8 hx (by kernel_rfl) (fun k hk => by cases hk) (by kernel_rfl) (laid_met os))) ?_
  intro W base args ds gs before hval hW _ _ _ hL _ _
  exact runs_contract H enc W base args ds gs before hval hW hL

theorem runs_said : Rows.RunsSaid :=
  OpenClaim.holds_of_cond 3 Tryd.f3 rfl rfl rfl rfl rfl rfl rfl ⟨rfl, rfl, rfl, rfl, rfl⟩ rfl rfl rfl rfl rfl (by kernel_rfl) Tryd.func3 (by kernel_rfl)
    (of_decide_eq_true (by kernel_rfl)) (by unfold Func.isWrapper; first | (rw [if_pos (by decide +kernel)]; kernel_rfl) | (rw [if_neg (by decide +kernel)]; exact ⟨rfl, rfl⟩))
    (fun os started H enc _ F => by rw [OpenClaim.pre_eq_preRow]; exact runs_lifted os started H enc F)

theorem runs_plain (f : FuncId) (fn : Func) (hf : Tryd.pinned.checked.prog.funcNamed "linker/linkerlaw.Runs" = some f) (hfn : Tryd.pinned.checked.prog.funcs[f]? = some fn) :
    false = Tryd.pinned.checked.prog.looks [] ∧ ∀ (j : Nat) t, fn.params[j]? = some t → Tryd.pinned.checked.prog.wantsStandIn t = false := by
  obtain rfl : f = 3 := Option.some.inj ((show Tryd.prog.funcNamed "linker/linkerlaw.Runs" = some 3 by kernel_rfl).symm.trans hf) |>.symm
  obtain rfl : fn = Tryd.f3 := (Option.some.inj (Tryd.func3.symm.trans hfn)).symm
  refine ⟨by kernel_rfl, fun j t ht => ?_⟩
  rw [Tryd.params3] at ht
  have hm := Array.mem_of_getElem? ht
  simp only [List.mem_toArray, List.mem_cons, List.not_mem_nil, or_false] at hm
  rcases hm with rfl | rfl | rfl
  · exact (show Tryd.prog.wantsStandIn 9 = false by kernel_rfl)
  · exact (show Tryd.prog.wantsStandIn 22 = false by kernel_rfl)
  · exact (show Tryd.prog.wantsStandIn 3 = false by kernel_rfl)

/-- the card -/
theorem runs_card : Rows.RunsCardSaid :=
  Claim7.holds_tied_plain_at .later [] _ _ _ _ runs_said (fun _ h => by cases h) (by kernel_rfl) (fun _ h => by cases h) runs_row_tie rfl ⟨rfl, rfl⟩ (by kernel_rfl) rfl runs_plain (by kernel_rfl)

end Go.Proofs.YtaiplongpjimnaaDoor
