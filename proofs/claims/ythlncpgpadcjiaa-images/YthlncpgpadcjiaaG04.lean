/- Walks over the document's answer: ParseImage, the whole. -/
/- Walks: Read of images, Load, the statement Images. -/
/- Walks: what the law says of images. -/
/- The row of Images. -/
import Derived.Test.YthlncpgpadcjiaaG03
import Derived.ProofKit
import Derived.OpenShut
import Derived.ChangeMaps5
import Derived.Deep.DeepHandedRow
import Derived.Lib.LaidTab
namespace Go.Proofs.Ythlncpgpadcjiaa
open Go.RowKit

/-- what ParseImage gives -/
def ImgRet (s : ByteArray) (e : Ending) (w' : World) : Prop :=
  (Im.IsImg (sl s) ∧ ∃ g, e = .returned (.tuple #[.pointer (some ⟨g, 0, none⟩), .bool true]) ∧ RImgAt w' g (Im.imgOf (sl s))) ∨
  (¬ Im.IsImg (sl s) ∧ ∃ v, e = .returned (.tuple #[v, .bool false]))

theorem four_range (l : List UInt8) (p : Nat) : 0 ≤ atL l p 4 ∧ atL l p 4 < 4294967296 := by have := atL_range l p 4; simpa using this
theorem imgOf_tame (l : List UInt8) : Im.Tame (Im.imgOf l) := by
  have h := Im.n_le l
  have h2 := Im.two_range l 24
  refine ⟨four_range l 2, four_range l 6, four_range l 10, four_range l 14, ⟨?_, ?_, ?_⟩, ?_⟩
  · simp only [Im.imgOf, Im.words_length]; omega
  · simp only [Im.imgOf, Im.words_length]; omega
  · simp only [Im.imgOf, Im.words_length]; omega
  · simp only [Im.imgOf]; omega

theorem RImgAt.kept {W W' : World} {g : Nat} {m : Im.Img} (h : RImgAt W g m) (hg : W.grownBy W' none) : RImgAt W' g m := by
  obtain ⟨vt, vf, vd, hb, h1, h2, h3⟩ := h
  have k : ∀ {v : Value} {n : Nat} {xs : List Value}, W.ownsRow 0 3 1 v n xs → W'.ownsRow 0 3 1 v n xs := fun {v n xs} h => h.kept hg (by cases hv : v.ownBlock <;> simp)
  exact ⟨vt, vf, vd, hb.grown hg (by simp), k h1, k h2, k h3⟩

theorem imgOk_ref (m : Im.Img) : Im.ImgOk m ↔ (Im.Clear m.text m.T.length ∧ Im.Clear m.far m.F.length ∧ Im.Clear m.data ((m.D.length : Int) + m.noughts)) ∧
    (¬ Im.Meet m.text (m.text + 4 * (m.T.length : Int)) m.far (m.far + 4 * (m.F.length : Int)) ∧ ¬ Im.Meet m.text (m.text + 4 * (m.T.length : Int)) m.data (m.data + 4 * ((m.D.length : Int) + m.noughts)) ∧
      ¬ Im.Meet m.far (m.far + 4 * (m.F.length : Int)) m.data (m.data + 4 * ((m.D.length : Int) + m.noughts))) ∧ (Im.code m m.start).isSome = true := by
  rw [Im.code_iff]
  unfold Im.ImgOk Im.Base Im.Clear
  constructor
  · rintro ⟨⟨a, b, c⟩, ⟨d, e, f⟩, g, h⟩; exact ⟨⟨⟨a.1, d, a.2⟩, ⟨b.1, e, b.2⟩, ⟨c.1, f, c.2⟩⟩, g, h⟩
  · rintro ⟨⟨a, b, c⟩, g, h⟩; exact ⟨⟨⟨a.1, a.2.2⟩, ⟨b.1, b.2.2⟩, ⟨c.1, c.2.2⟩⟩, ⟨a.2.1, b.2.1, c.2.1⟩, g, h⟩

set_option maxRecDepth 100000 in
set_option maxHeartbeats 16000000 in
theorem parseImage_any (s : ByteArray) (w : World) (hs : s.size ≤ 1048576) :
    Calls Try.prog 6 #[.string s] w fun e w' => ImgRet s e w' ∧ w.grownBy w' none := by
  obtain ⟨i0, hi, hz0, hz1, hz2⟩ := info_parts Try.infoInt
  have a18 := hid (fun W => at_lit s 18 2 18 2 rfl rfl W hs (by omega) (by omega))
  have a20 := hid (fun W => at_lit s 20 2 20 2 rfl rfl W hs (by omega) (by omega))
  have a22 := hid (fun W => at_lit s 22 2 22 2 rfl rfl W hs (by omega) (by omega))
  have a24 := hid (fun W => at_lit s 24 2 24 2 rfl rfl W hs (by omega) (by omega))
  have a2 := hid (fun W => at_lit s 2 4 2 4 rfl rfl W hs (by omega) (by omega))
  have a6 := hid (fun W => at_lit s 6 4 6 4 rfl rfl W hs (by omega) (by omega))
  have a10 := hid (fun W => at_lit s 10 4 10 4 rfl rfl W hs (by omega) (by omega))
  have a14 := hid (fun W => at_lit s 14 4 14 4 rfl rfl W hs (by omega) (by omega))
  obtain ⟨n1, n2, n3, n4⟩ := Im.n_le (sl s)
  obtain ⟨e1, e2, e3, e4⟩ := Im.n_int (sl s)
  have TM := hid (imgOf_tame (sl s))
  have IO := hid (show Im.imgOf (sl s) = ⟨atL (sl s) 2 4, atL (sl s) 6 4, atL (sl s) 10 4, atL (sl s) 14 4, Im.words (sl s) 26 (Im.nT (sl s)), Im.words (sl s) (26 + 4 * Im.nT (sl s)) (Im.nF (sl s)), Im.words (sl s) (26 + 4 * Im.nT (sl s) + 4 * Im.nF (sl s)) (Im.nD (sl s)), (Im.nB (sl s) : Int)⟩ by rw [e4]; rfl)
  have IS := hid (show Im.IsImg (sl s) ↔ (sl s).take 2 = [73, 77] ∧ s.size = 26 + 4 * (Im.nT (sl s) + Im.nF (sl s) + Im.nD (sl s)) ∧ Im.ImgOk (Im.imgOf (sl s)) by unfold Im.IsImg Im.Full; rw [sl_length])
  rw [← e1] at a18
  rw [← e2] at a20
  rw [← e3] at a22
  rw [← e4] at a24
  clear e1 e2 e3 e4
  have r2 := four_range (sl s) 2
  have r6 := four_range (sl s) 6
  have r10 := four_range (sl s) 10
  have r14 := four_range (sl s) 14
  generalize Im.nT (sl s) = nt at *
  generalize Im.nF (sl s) = nf at *
  generalize Im.nD (sl s) = nd at *
  generalize Im.nB (sl s) = nb at *
  generalize atL (sl s) 2 4 = st at *
  generalize atL (sl s) 6 4 = te at *
  generalize atL (sl s) 10 4 = fa at *
  generalize atL (sl s) 14 4 = da at *
  unfold ImgRet
  generalize Im.IsImg (sl s) = Q at *
  go_enter Try.func6, Try.ntmps6
  go_wp2_with fail
  refine (a18.out _).mono ?_
  rintro e V ⟨rfl, rfl⟩
  go_wp2_with fail
  refine (a20.out _).mono ?_
  rintro e V ⟨rfl, rfl⟩
  go_wp2_with fail
  refine (a22.out _).mono ?_
  rintro e V ⟨rfl, rfl⟩
  go_wp2_with fail
  refine (a24.out _).mono ?_
  rintro e V ⟨rfl, rfl⟩
  clear a18 a20 a22 a24
  by_cases hl : s.size = 26 + 4 * (nt + nf + nd)
  case neg =>
    have d1 : ((s.size : Int) == 26 + 4 * ((nt : Int) + (nf : Int) + (nd : Int))) = false := by rw [beq_eq_false_iff_ne]; omega
    go_wp2
    go_ret2
    exact ⟨.inr ⟨fun q => hl (IS.out.1 q).2.1, _, rfl⟩, World.grownBy.refl _ _⟩
  have d1 : ((s.size : Int) == 26 + 4 * ((nt : Int) + (nf : Int) + (nd : Int))) = true := by rw [beq_iff_eq]; omega
  have h2 : 2 ≤ s.size := by omega
  have TK := hid (show (s.extract 0 2).toList = (sl s).take 2 by rw [extract_bs, toList_bs]; rfl)
  by_cases hm : (sl s).take 2 = [73, 77]
  case neg =>
    have d2 : ((s.extract 0 2).toList == [73, 77]) = false := by rw [TK.out]; simpa using hm
    go_wp2
    go_ret2
    exact ⟨.inr ⟨fun q => hm (IS.out.1 q).1, _, rfl⟩, World.grownBy.refl _ _⟩
  have d2 : ((s.extract 0 2).toList == [73, 77]) = true := by rw [TK.out, hm]; rfl
  have IS2 := hid (show Q ↔ Im.ImgOk (Im.imgOf (sl s)) by rw [IS.out]; exact ⟨fun q => q.2.2, fun q => ⟨hm, hl, q⟩⟩)
  clear IS hm TK
  go_wp2_with fail
  refine (a2.out _).mono ?_
  rintro e V ⟨rfl, rfl⟩
  go_wp2_with fail
  refine (a6.out _).mono ?_
  rintro e V1 ⟨rfl, hV1⟩
  subst hV1
  go_wp2_with fail
  refine (a10.out _).mono ?_
  rintro e V1 ⟨rfl, hV1⟩
  subst hV1
  go_wp2_with fail
  refine (a14.out _).mono ?_
  rintro e V1 ⟨rfl, hV1⟩
  subst hV1
  clear a2 a6 a10 a14
  have P0 : Hid (PLs V (sl s) V.heap.size nt nf 0 st te fa da (.slice none 0 0) (.slice none 0 0) (.slice none 0 0) (V.heap.size + 1) (V.heap.size + 1) (V.alloc (.cells #[.int .i64 st, .int .i64 te, .int .i64 fa, .int .i64 da, .slice none 0 0, .slice none 0 0, .slice none 0 0] 42))) := by
    refine ⟨BlkAt.new _ _ _, by rw [Nat.zero_min]; exact World.ownsRow_nil _ _ _ _, by rw [Nat.zero_sub, Nat.zero_min]; exact World.ownsRow_nil _ _ _ _, by rw [Nat.zero_sub, Nat.zero_sub]; exact World.ownsRow_nil _ _ _ _, by simp [Value.ownBlock], by simp [Value.ownBlock], by simp [Value.ownBlock], ⟨⟨?_, ?_⟩, by omega, by omega⟩, fun _ => rfl, fun _ => rfl, World.grownBy_alloc _ _ _, Nat.le_refl _⟩
    · rw [show (V.alloc (.cells #[.int .i64 st, .int .i64 te, .int .i64 fa, .int .i64 da, .slice none 0 0, .slice none 0 0, .slice none 0 0] 42)).heap.size = V.heap.size + 1 from Array.size_push _]; exact Nat.le_refl _
    · rw [show (V.alloc (.cells #[.int .i64 st, .int .i64 te, .int .i64 fa, .int .i64 da, .slice none 0 0, .slice none 0 0, .slice none 0 0] 42)).heap.size = V.heap.size + 1 from Array.size_push _]; exact Nat.le_refl _
  go_wp2
  generalize V.heap.size = g at *
  go_loopw [9, 10] (fun p i wr => ∃ (k : Nat) (vT vF vD : Value) (B1 B2 : Nat), k ≤ nt + nf + nd ∧ i = .int .i64 k ∧ p = .int .i64 ((26 + 4 * k : Nat) : Int) ∧ PLs V (sl s) g nt nf k st te fa da vT vF vD B1 B2 wr) (fun _ i _ => nt + nf + nd - (intOf i).toNat)
  case atStart => exact ⟨0, _, _, _, _, _, Nat.zero_le _, rfl, rfl, P0.out⟩
  case round =>
    obtain ⟨k, vT, vF, vD, B1, B2, hk, rfl, rfl, hP⟩ := hrel
    have H := hid hP
    clear hP P0
    by_cases hlt : k < nt + nf + nd
    · have g1 : (k : Int) < (nt : Int) + (nf : Int) + (nd : Int) := by omega
      have aK := hid (fun W => at_lit s (26 + 4 * k) 4 ((26 + 4 * k : Nat) : Int) 4 rfl rfl W hs (by omega) (by omega))
      generalize hx : atL (sl s) (26 + 4 * k) 4 = x at *
      go_wp2_with fail
      refine (aK.out _).mono ?_
      rintro e V2 ⟨rfl, hV2⟩
      subst hV2
      clear aK
      have hp4 : IntKind.i64.wrap (((26 + 4 * k : Nat) : Int) + 4) = ((26 + 4 * (k + 1) : Nat) : Int) := by rw [IntWalk.i64_in _ ⟨by omega, by omega⟩]; omega
      by_cases cT : k < nt
      · have dT : decide ((k : Int) < (nt : Int)) = true := by simp; omega
        have hown := H.out.rT
        rw [show min k nt = k by omega] at hown
        obtain ⟨av, cv, hav⟩ := own_form hown
        subst hav
        have c4 := H.out.obj.cell 4
        have f4 := H.out.obj.free 4
        simp only [List.getElem?_toArray, List.getElem?_cons_succ, List.getElem?_cons_zero] at c4
        have hsz := H.out.sz
        have hgl := H.out.obj.lt
        have WS := hid (Im.words_snoc (sl s) 26 (k))
        rw [show 26 + 4 * (k) = 26 + 4 * k by omega, hx] at WS
        go_wp2_with (at_builtin; refine wpList_append_own _ rfl _ _ 40 rfl (g + 1) 3 i0 (.int .i64 0) 1 8 Try.underlying40 hi hz0 hz1 hz2 rfl (by decide) _ _ _ rfl (hown.alloc _) ⟨V2.heap.size, 0, none⟩ 1 1 [.int .i64 x] rfl rfl (cell_one_new _ _ _) (by intro u hu; simp at hu; subst hu; rfl) (by unfold maxLen; omega) (by omega) (by simp; omega) ?_; intro v' w3 hown' hgrow _; obtain ⟨av', cv', rfl⟩ := own_form hown'; have KB := (H.out.pre hgrow (fun b hb => by have := (hown.lt b hb).1; omega)).1; have c4' := KB.cell 4; have f4' := KB.free 4; simp only [List.getElem?_toArray, List.getElem?_cons_succ, List.getElem?_cons_zero] at c4'; have K := hid (H.out.stepT cT (by rw [WS.out, List.map_append]; exact hown') hgrow); clear hgrow hown' KB hown c4 f4)
        go_wp2
        go_roundw
        case rel => exact ⟨k + 1, _, _, _, _, _, by omega, by go_num, by go_num, K.out⟩
        case measure => simp [intOf]; omega
      · have dT : decide ((k : Int) < (nt : Int)) = false := by simp; omega
        by_cases cF : k < nt + nf
        · have dF : decide ((k : Int) < (nt : Int) + (nf : Int)) = true := by simp; omega
          have hown := H.out.rF
          rw [show min (k - nt) nf = k - nt by omega] at hown
          obtain ⟨av, cv, hav⟩ := own_form hown
          subst hav
          have c4 := H.out.obj.cell 5
          have f4 := H.out.obj.free 5
          simp only [List.getElem?_toArray, List.getElem?_cons_succ, List.getElem?_cons_zero] at c4
          have hsz := H.out.sz
          have hgl := H.out.obj.lt
          have WS := hid (Im.words_snoc (sl s) (26 + 4 * nt) (k - nt))
          rw [show (26 + 4 * nt) + 4 * (k - nt) = 26 + 4 * k by omega, hx] at WS
          go_wp2_with (at_builtin; refine wpList_append_own _ rfl _ _ 40 rfl B1 3 i0 (.int .i64 0) 1 8 Try.underlying40 hi hz0 hz1 hz2 rfl (by decide) _ _ _ rfl (hown.alloc _) ⟨V2.heap.size, 0, none⟩ 1 1 [.int .i64 x] rfl rfl (cell_one_new _ _ _) (by intro u hu; simp at hu; subst hu; rfl) (by unfold maxLen; omega) (by omega) (by simp; omega) ?_; intro v' w3 hown' hgrow _; obtain ⟨av', cv', rfl⟩ := own_form hown'; have KB := (H.out.pre hgrow (fun b hb => by have := (hown.lt b hb).1; omega)).1; have c4' := KB.cell 5; have f4' := KB.free 5; simp only [List.getElem?_toArray, List.getElem?_cons_succ, List.getElem?_cons_zero] at c4'; have K := hid (H.out.stepF (by omega) cF (by rw [WS.out, List.map_append]; exact hown') hgrow); clear hgrow hown' KB hown c4 f4)
          go_wp2
          go_roundw
          case rel => exact ⟨k + 1, _, _, _, _, _, by omega, by go_num, by go_num, K.out⟩
          case measure => simp [intOf]; omega
        · have dF : decide ((k : Int) < (nt : Int) + (nf : Int)) = false := by simp; omega
          have hown := H.out.rD
          obtain ⟨av, cv, hav⟩ := own_form hown
          subst hav
          have c4 := H.out.obj.cell 6
          have f4 := H.out.obj.free 6
          simp only [List.getElem?_toArray, List.getElem?_cons_succ, List.getElem?_cons_zero] at c4
          have hsz := H.out.sz
          have hgl := H.out.obj.lt
          have WS := hid (Im.words_snoc (sl s) (26 + 4 * nt + 4 * nf) (k - nt - nf))
          rw [show (26 + 4 * nt + 4 * nf) + 4 * (k - nt - nf) = 26 + 4 * k by omega, hx] at WS
          go_wp2_with (at_builtin; refine wpList_append_own _ rfl _ _ 40 rfl B2 3 i0 (.int .i64 0) 1 8 Try.underlying40 hi hz0 hz1 hz2 rfl (by decide) _ _ _ rfl (hown.alloc _) ⟨V2.heap.size, 0, none⟩ 1 1 [.int .i64 x] rfl rfl (cell_one_new _ _ _) (by intro u hu; simp at hu; subst hu; rfl) (by unfold maxLen; omega) (by omega) (by simp; omega) ?_; intro v' w3 hown' hgrow _; obtain ⟨av', cv', rfl⟩ := own_form hown'; have KB := (H.out.pre hgrow (fun b hb => by have := (hown.lt b hb).1; omega)).1; have c4' := KB.cell 6; have f4' := KB.free 6; simp only [List.getElem?_toArray, List.getElem?_cons_succ, List.getElem?_cons_zero] at c4'; have K := hid (H.out.stepD (by omega) (by rw [WS.out, List.map_append]; exact hown') hgrow); clear hgrow hown' KB hown c4 f4)
          go_wp2
          go_roundw
          case rel => exact ⟨k + 1, _, _, _, _, _, by omega, by go_num, by go_num, K.out⟩
          case measure => simp [intOf]; omega
    · obtain rfl : k = nt + nf + nd := by omega
      have g1 : decide (((nt + nf + nd : Nat) : Int) < (nt : Int) + (nf : Int) + (nd : Int)) = false := by simp
      have hown := H.out.rD
      rw [show nt + nf + nd - nt - nf = nd by omega] at hown
      obtain ⟨av, cv, hav⟩ := own_form hown
      subst hav
      have c6 := H.out.obj.cell 6
      have f6 := H.out.obj.free 6
      simp only [List.getElem?_toArray, List.getElem?_cons_succ, List.getElem?_cons_zero] at c6
      have hsz := H.out.sz
      have hgl := H.out.obj.lt
      have HQ := hid (show Q ↔ _ from IS2.out.trans (imgOk_ref (Im.imgOf (sl s))))
      have ES := hid (show (Im.imgOf (sl s)).start = st by rw [IO.out])
      rw [ES.out] at HQ
      generalize hcode : Im.code (Im.imgOf (sl s)) st = cd at *
      have HC := hid hcode
      clear hcode
      rw [IO.out] at HQ
      simp only [Im.words_length] at HQ
      clear IS2
      go_wp2_with (at_builtin; refine wpList_append_zeros _ rfl _ _ 40 3 rfl B2 3 i0 Try.underlying40 Try.underlying3 hi hz0 hz1 hz2 _ _ _ rfl hown nb rfl (by omega) (by omega) ?_; intro v' w3 hown' hgrow; obtain ⟨av', cv', rfl⟩ := own_form hown'; have KB := H.out.obj.grown hgrow (fun e => by have := (hown.lt g e.symm).1; omega); have c6' := KB.cell 6; have f6' := KB.free 6; have z1 := KB.cell 1; simp only [List.getElem?_toArray, List.getElem?_cons_succ, List.getElem?_cons_zero] at c6' z1; have K := hid (PLs.fin (Im.imgOf (sl s)) nb nd IO.out H.out hown' hgrow); clear hgrow hown' KB hown c6 f6)
      go_wp2_with fail
      generalize World.setCell w3 ⟨g, 6, none⟩ (.slice av' (nd + nb) cv') = V3 at *
      clear c6' f6' hsz hgl H z1
      obtain ⟨vt, vf, vd, hb, -, -, -⟩ := K.out.1
      rw [IO.out] at hb
      have k0 := hb.cell 0
      have k1 := hb.cell 1
      have k2 := hb.cell 2
      have k3 := hb.cell 3
      simp only [List.getElem?_toArray, List.getElem?_cons_succ, List.getElem?_cons_zero] at k0 k1 k2 k3
      clear hb
      have x1 : IntKind.i64.wrap ((nd : Int) + (nb : Int)) = (nd : Int) + (nb : Int) := IntWalk.i64_in _ ⟨by omega, by omega⟩
      have x2 : IntKind.i64.wrap (4 * (nt : Int)) = 4 * (nt : Int) := IntWalk.i64_in _ ⟨by omega, by omega⟩
      have x3 : IntKind.i64.wrap (te + 4 * (nt : Int)) = te + 4 * (nt : Int) := IntWalk.i64_in _ ⟨by omega, by omega⟩
      have x4 : IntKind.i64.wrap (4 * (nf : Int)) = 4 * (nf : Int) := IntWalk.i64_in _ ⟨by omega, by omega⟩
      have x5 : IntKind.i64.wrap (fa + 4 * (nf : Int)) = fa + 4 * (nf : Int) := IntWalk.i64_in _ ⟨by omega, by omega⟩
      have x6 : IntKind.i64.wrap (4 * ((nd : Int) + (nb : Int))) = 4 * ((nd : Int) + (nb : Int)) := IntWalk.i64_in _ ⟨by omega, by omega⟩
      have x7 : IntKind.i64.wrap (da + 4 * ((nd : Int) + (nb : Int))) = da + 4 * ((nd : Int) + (nb : Int)) := IntWalk.i64_in _ ⟨by omega, by omega⟩
      refine (clear_any te nt V3 r6.1 r6.2 (by omega) (by omega)).mono ?_
      rintro e V4 ⟨rfl, hV4⟩
      subst hV4
      go_wp2_with fail
      refine (clear_any fa nf _ r10.1 r10.2 (by omega) (by omega)).mono ?_
      rintro e V5 ⟨rfl, hV5⟩
      subst hV5
      go_wp2_with fail
      refine (clear_any da ((nd : Int) + (nb : Int)) _ r14.1 r14.2 (by omega) (by omega)).mono ?_
      rintro e V6 ⟨rfl, hV6⟩
      subst hV6
      have GF := hid K.out.2
      cases hA : decide (Im.Clear te (nt : Int))
      · have N := hid (show ¬ Q from fun q => by rw [decide_eq_false_iff_not] at hA; exact hA (HQ.out.1 q).1.1)
        clear hA
        go_wp2
        go_ret2
        exact ⟨.inr ⟨N.out, _, rfl⟩, GF.out⟩
      cases hB : decide (Im.Clear fa (nf : Int))
      · have N := hid (show ¬ Q from fun q => by rw [decide_eq_false_iff_not] at hB; exact hB (HQ.out.1 q).1.2.1)
        clear hA hB
        go_wp2
        go_ret2
        exact ⟨.inr ⟨N.out, _, rfl⟩, GF.out⟩
      cases hC : decide (Im.Clear da ((nd : Int) + (nb : Int)))
      · have N := hid (show ¬ Q from fun q => by rw [decide_eq_false_iff_not] at hC; exact hC (HQ.out.1 q).1.2.2)
        clear hA hB hC
        go_wp2
        go_ret2
        exact ⟨.inr ⟨N.out, _, rfl⟩, GF.out⟩
      rw [decide_eq_true_iff] at hA hB hC
      have CL := hid (And.intro hA (And.intro hB hC))
      clear hA hB hC
      have p1 := hid (fun W => apart_any te (te + 4 * (nt : Int)) fa (fa + 4 * (nf : Int)) W)
      have p2 := hid (fun W => apart_any te (te + 4 * (nt : Int)) da (da + 4 * ((nd : Int) + (nb : Int))) W)
      have p3 := hid (fun W => apart_any fa (fa + 4 * (nf : Int)) da (da + 4 * ((nd : Int) + (nb : Int))) W)
      go_wp2
      go_quiet ((go_at_call 10; exact Calls.quiet_of_same (p1.out _)))
      go_wp2
      have G7 := hid (grown_drewN (World.grownBy.refl V6 none) nq)
      replace k0 : (V6.drewN nq).cell? ⟨g, 0, none⟩ = some (.int .i64 st) := k0
      replace k1 : (V6.drewN nq).cell? ⟨g, 1, none⟩ = some (.int .i64 te) := k1
      replace k2 : (V6.drewN nq).cell? ⟨g, 2, none⟩ = some (.int .i64 fa) := k2
      replace k3 : (V6.drewN nq).cell? ⟨g, 3, none⟩ = some (.int .i64 da) := k3
      generalize V6.drewN nq = V7 at *
      go_quiet ((go_at_call 10; exact Calls.quiet_of_same (p2.out _)))
      go_wp2
      have G8 := hid (grown_drewN G7.out nq)
      replace k0 : (V7.drewN nq).cell? ⟨g, 0, none⟩ = some (.int .i64 st) := k0
      replace k1 : (V7.drewN nq).cell? ⟨g, 1, none⟩ = some (.int .i64 te) := k1
      replace k2 : (V7.drewN nq).cell? ⟨g, 2, none⟩ = some (.int .i64 fa) := k2
      replace k3 : (V7.drewN nq).cell? ⟨g, 3, none⟩ = some (.int .i64 da) := k3
      generalize V7.drewN nq = V8 at *
      go_quiet ((go_at_call 10; exact Calls.quiet_of_same (p3.out _)))
      have G9 := hid (grown_drewN G8.out nq)
      replace k0 : (V8.drewN nq).cell? ⟨g, 0, none⟩ = some (.int .i64 st) := k0
      generalize V8.drewN nq = V9 at *
      clear k1 k2 k3 x1 x2 x3 x4 x5 x6 x7 p1 p2 p3
      go_wp2_with fail
      refine (fetch_any g (Im.imgOf (sl s)) st V9 (K.out.1.kept G9.out) TM.out r2.1 r2.2).mono ?_
      rintro e V10 ⟨rfl, nn, rfl⟩
      rw [HC.out]
      have GL := hid (grown_drewN (grown_trans GF.out G9.out) nn)
      have RL := hid (K.out.1.kept (grown_drewN G9.out nn))
      cases hA : decide (¬ Im.Meet te (te + 4 * (nt : Int)) fa (fa + 4 * (nf : Int)))
      · have N := hid (show ¬ Q from fun q => by rw [decide_eq_false_iff_not] at hA; exact hA (HQ.out.1 q).2.1.1)
        clear hA
        go_wp2
        go_ret2
        exact ⟨.inr ⟨N.out, _, rfl⟩, GL.out⟩
      cases hB : decide (¬ Im.Meet te (te + 4 * (nt : Int)) da (da + 4 * ((nd : Int) + (nb : Int))))
      · have N := hid (show ¬ Q from fun q => by rw [decide_eq_false_iff_not] at hB; exact hB (HQ.out.1 q).2.1.2.1)
        clear hA hB
        go_wp2
        go_ret2
        exact ⟨.inr ⟨N.out, _, rfl⟩, GL.out⟩
      cases hC : decide (¬ Im.Meet fa (fa + 4 * (nf : Int)) da (da + 4 * ((nd : Int) + (nb : Int))))
      · have N := hid (show ¬ Q from fun q => by rw [decide_eq_false_iff_not] at hC; exact hC (HQ.out.1 q).2.1.2.2)
        clear hA hB hC
        go_wp2
        go_ret2
        exact ⟨.inr ⟨N.out, _, rfl⟩, GL.out⟩
      rw [decide_eq_true_iff] at hA hB hC
      have ML := hid (And.intro hA (And.intro hB hC))
      clear hA hB hC
      cases hD : cd.isSome
      · have N := hid (show ¬ Q from fun q => by have := (HQ.out.1 q).2.2; rw [hD] at this; cases this)
        clear hD
        go_wp2
        go_ret2
        exact ⟨.inr ⟨N.out, _, rfl⟩, GL.out⟩
      · have N := hid (show Q from HQ.out.2 ⟨CL.out, ML.out, hD⟩)
        clear hD
        go_wp2
        go_ret2
        exact ⟨.inl ⟨N.out, g, rfl, RL.out⟩, GL.out⟩

end Go.Proofs.Ythlncpgpadcjiaa

namespace Go.Proofs.Ythlncpgpadcjiaa
open Go.RowKit

theorem rdText_mark (l : List UInt8) (a b : UInt8) (h : (Lk.rdText l 2 (0, false)).1 = [a, b]) : (Lk.rdText l 2 (0, false)).2 = (2, false) ∧ 2 ≤ l.length ∧ l.take 2 = [a, b] := by
  unfold Lk.rdText at h ⊢
  simp only [Nat.sub_zero, List.drop_zero, Nat.zero_add] at h ⊢
  split at h
  · rename_i hl
    rw [if_pos hl]
    exact ⟨rfl, hl, h⟩
  · cases h
theorem mark_rdText (l : List UInt8) (a b : UInt8) (h : l.take 2 = [a, b]) : (Lk.rdText l 2 (0, false)).1 = [a, b] := by
  unfold Lk.rdText
  simp only [Nat.sub_zero, List.drop_zero]
  have : 2 ≤ l.length := by have := congrArg List.length h; simp at this; omega
  rw [if_pos this]
  exact h

/-- what Read of an image gives -/
def ImgRead (s : ByteArray) (e : Ending) (w' : World) : Prop :=
  (Im.IsImg (sl s) ∧ ∃ g, e = .returned (.tuple #[.pointer (some ⟨g, 0, none⟩), .int .i64 0]) ∧ ImgAt w' g (Im.imgOf (sl s))) ∨
  (¬ Im.IsImg (sl s) ∧ e = .returned (.tuple #[.pointer none, .int .i64 23]))

set_option maxHeartbeats 4000000 in
theorem imgRead_any (s : ByteArray) (w : World) (hs : s.size ≤ 1048576) :
    Calls Try.prog 7 #[.string s] w fun e w' => ImgRead s e w' ∧ w.grownBy w' none := by
  have hsz := sl_length s
  have TM := hid (imgOf_tame (sl s))
  go_enter Try.func7, Try.ntmps7
  go_wp2_with fail
  refine (newReader_any s w).mono ?_
  rintro e W1 ⟨rfl, g1⟩
  have R : RdAt (W1.alloc (.cells #[.string s, .int .i64 0, .bool false] 48)) W1.heap.size s 0 false := heap_alloc_new W1 _
  have HR := hid R
  have G1 := hid g1
  have GA := hid (World.grownBy_alloc W1 (.cells #[.string s, .int .i64 0, .bool false] 48) none)
  have hz := hid g1.size
  clear R g1
  by_cases hm : (Lk.rdText (sl s) 2 (0, false)).1 = [73, 77]
  · have cR := hid (readImage_yes W1.heap.size s 0 false _ HR.out hs (Nat.zero_le _) hm)
    obtain ⟨m1, m2, m3⟩ := rdText_mark _ _ _ hm
    rw [m1] at cR
    have FU := hid (fun h : Im.Full (sl s) => Im.rdImg_full (sl s) h)
    have ON := hid (Im.rdImg_only (sl s) m2)
    have IS := hid (show Im.IsImg (sl s) ↔ Im.Full (sl s) ∧ Im.ImgOk (Im.imgOf (sl s)) from ⟨fun q => q.2, fun q => ⟨m3, q⟩⟩)
    generalize Im.rdImg (sl s) (2, false) = X at *
    obtain ⟨m, p', s'⟩ := X
    simp only at cR ON FU
    clear hm m1 m2 m3
    go_wp2_with fail
    refine cR.out.mono ?_
    rintro e W2 ⟨g, rfl, hg, himg, hrd, hgr⟩
    have HIM := hid himg
    have HRD := hid hrd
    have GR := hid hgr
    clear himg hrd hgr hg cR
    have cD := hid (done_any W1.heap.size s p' s' W2 HRD.out)
    go_wp2_with fail
    refine cD.out.mono ?_
    rintro e W3 ⟨rfl, kd, rfl⟩
    have GF := hid (grown_drewN (grown_high (grown_trans G1.out GA.out) GR.out (by intro b e; simp at e; have := hz.out; omega)) kd)
    clear cD
    by_cases hd : s' = false ∧ p' = s.size
    · obtain ⟨rfl, rfl⟩ := hd
      have hfu := ON.out (by rw [hsz])
      have HF := hid hfu
      have hmm : m = Im.imgOf (sl s) := congrArg Prod.fst (FU.out hfu)
      subst hmm
      have cV := hid (imgValid_any g (Im.imgOf (sl s)) (W2.drewN kd) (HIM.out.kept (grown_drewN (World.grownBy.refl _ _) kd)) TM.out)
      have dd : (!false && decide (s.size = s.size)) = true := by simp
      clear hfu hsz
      go_wp2_with fail
      refine cV.out.mono ?_
      rintro e W4 ⟨t, q⟩
      have GQ := hid (grown_trans GF.out q)
      have HO4 := hid (HIM.out.kept (grown_trans (grown_drewN (World.grownBy.refl _ _) kd) q))
      rcases t.split with ⟨rfl, pv⟩ | ⟨rfl, pv⟩ <;> clear t q cV
      · go_wp2
        go_ret2
        exact ⟨.inr ⟨fun q => pv.out (IS.out.1 q).2, rfl⟩, GQ.out⟩
      · go_wp2
        go_ret2
        exact ⟨.inl ⟨IS.out.2 ⟨HF.out, pv.out⟩, g, rfl, HO4.out⟩, GQ.out⟩
    · have N := hid (show ¬ Im.IsImg (sl s) from fun q => by
        have := congrArg Prod.snd (FU.out (IS.out.1 q).1)
        simp only [Prod.mk.injEq] at this
        exact hd ⟨this.2, by rw [← hsz]; exact this.1⟩)
      have dd : (!s' && decide (p' = s.size)) = false := by
        cases s'
        · simp at hd ⊢; exact hd
        · rfl
      clear hsz hd
      go_wp2
      go_ret2
      exact ⟨.inr ⟨N.out, rfl⟩, GF.out⟩
  · have cR := hid (readImage_no W1.heap.size s 0 false _ HR.out hs (Nat.zero_le _) hm)
    have N := hid (show ¬ Im.IsImg (sl s) from fun q => hm (mark_rdText _ _ _ q.1))
    clear hm
    go_wp2_with fail
    refine cR.out.mono ?_
    rintro e W2 ⟨rfl, hgr⟩
    have GR := hid hgr
    clear hgr cR
    go_wp2
    go_ret2
    exact ⟨.inr ⟨N.out, rfl⟩, grown_high (grown_trans G1.out GA.out) GR.out (by intro b e; simp at e; have := hz.out; omega)⟩

/-- a machine that was loaded -/
def MachAt (W : World) (x : Nat) (m : Im.Img) : Prop := ∃ g, BlkAt W x #[.pointer (some ⟨g, 0, none⟩)] 38 ∧ ImgAt W g m
/-- what Load gives -/
def Loaded (s : ByteArray) (e : Ending) (w' : World) : Prop :=
  (Im.IsImg (sl s) ∧ ∃ x, e = .returned (.tuple #[.pointer (some ⟨x, 0, none⟩), .int .i64 0]) ∧ MachAt w' x (Im.imgOf (sl s))) ∨
  (¬ Im.IsImg (sl s) ∧ e = .returned (.tuple #[.pointer none, .int .i64 23]))

set_option maxHeartbeats 2000000 in
theorem load_any (s : ByteArray) (w : World) (hs : s.size ≤ 1048576) :
    Calls Try.prog 5 #[.string s] w fun e w' => Loaded s e w' ∧ w.grownBy w' none := by
  have cR := hid (imgRead_any s w hs)
  go_enter Try.func5, Try.ntmps5
  go_wp2_with fail
  refine cR.out.mono ?_
  rintro e W1 ⟨hr, hg⟩
  have G := hid hg
  clear hg cR
  rcases hr with ⟨q, g, rfl, hi⟩ | ⟨q, rfl⟩
  · have Q := hid q
    have HI := hid hi
    clear q hi
    go_wp2
    go_ret2
    have GA := World.grownBy_alloc W1 (.cells #[.pointer (some ⟨g, 0, none⟩)] 38) none
    exact ⟨.inl ⟨Q.out, W1.heap.size, rfl, g, BlkAt.new _ _ _, HI.out.kept GA⟩, grown_trans G.out GA⟩
  · have Q := hid q
    clear q
    go_wp2
    go_ret2
    exact ⟨.inr ⟨Q.out, rfl⟩, G.out⟩

theorem MachAt.kept {W W' : World} {x : Nat} {m : Im.Img} (h : MachAt W x m) (hg : W.grownBy W' none) : MachAt W' x m := by
  obtain ⟨g, hb, hi⟩ := h
  exact ⟨g, hb.grown hg (by simp), hi.kept hg⟩

end Go.Proofs.Ythlncpgpadcjiaa

namespace Go.Proofs.Ythlncpgpadcjiaa
open Go.RowKit

theorem sets2_grown {w V : World} (h : w.grownBy V none) (r : Nat) (hr : w.heap.size ≤ r) (a b : Value) : w.grownBy ((V.setCell ⟨r, 0, none⟩ a).setCell ⟨r, 1, none⟩ b) none :=
  grown_high (grown_high h (grown_set V r 0 a) (by intro k e; simp at e; omega)) (grown_set _ r 1 b) (by intro k e; simp at e; omega)
theorem sets2_high {V : World} (r : Nat) (a b : Value) : V.grownBy ((V.setCell ⟨r, 0, none⟩ a).setCell ⟨r, 1, none⟩ b) (some r) := grown_trans (grown_set V r 0 a) (grown_set _ r 1 b)

/-- what the law's loaded gives -/
def LoadedRet (s : ByteArray) (e : Ending) : Prop :=
  (Im.IsImg (sl s) ∧ ∃ x g, e = .returned (.tuple #[.agg #[.pointer (some ⟨x, 0, none⟩), .pointer (some ⟨g, 0, none⟩)], .bool true, .bool true])) ∨
  (¬ Im.IsImg (sl s) ∧ e = .returned (.tuple #[.agg #[.pointer none, .pointer none], .bool false, .bool true]))

set_option maxHeartbeats 4000000 in
theorem loaded_any (s : ByteArray) (w : World) (hs : s.size ≤ 1048576) :
    Calls Try.prog 4 #[.string s] w fun e w' => LoadedRet s e ∧ w.grownBy w' none := by
  have GA := hid (World.grownBy_alloc w (.cells #[.pointer none, .pointer none] 25) none)
  have B0 := hid (BlkAt.new w #[.pointer none, .pointer none] 25)
  have cL := hid (fun W => load_any s W hs)
  have cP := hid (fun W => parseImage_any s W hs)
  go_enter Try.func4, Try.ntmps4
  go_wp2_with fail
  refine (cL.out _).mono ?_
  rintro e W1 ⟨hl, g1⟩
  have G1 := hid (grown_trans GA.out g1)
  have B1 := hid (B0.out.grown g1 (by simp))
  clear g1 cL GA B0
  rcases hl with ⟨q, x, rfl, hm⟩ | ⟨q, rfl⟩
  · have Q := hid q
    clear q hm
    go_wp2_with fail
    refine (cP.out _).mono ?_
    rintro e W2 ⟨hp, g2⟩
    have G2 := hid (grown_trans G1.out g2)
    have B2 := hid (B1.out.grown g2 (by simp))
    clear g2 cP G1 B1
    rcases hp with ⟨_, g, rfl, hr⟩ | ⟨q, _⟩
    · clear hr
      have v0 := B2.out.free 0
      have v1 := B2.out.free 1
      have x0 := B2.out.cell 0
      have x1 := B2.out.cell 1
      simp only [List.getElem?_toArray, List.getElem?_cons_succ, List.getElem?_cons_zero] at x0 x1
      go_wp2
      have F := (B2.out.set 0 (.pointer (some ⟨x, 0, none⟩))).set 1 (.pointer (some ⟨g, 0, none⟩))
      have h0 := F.cell 0
      have h1 := F.cell 1
      simp only [List.setIfInBounds_toArray, List.set_cons_succ, List.set_cons_zero, List.getElem?_toArray, List.getElem?_cons_succ, List.getElem?_cons_zero] at h0 h1
      refine bodyPost_ret (v := .tuple #[.agg #[.pointer (some ⟨x, 0, none⟩), .pointer (some ⟨g, 0, none⟩)], .bool true, .bool true]) ?_ rfl ⟨.inl ⟨Q.out, x, g, rfl⟩, sets2_grown G2.out _ (Nat.le_refl _) _ _⟩
      clear F x0 x1 v0 v1
      generalize World.setCell _ _ _ = WF at *
      simp [results, Try.results4, go_sem, h0, h1]
    · exact absurd Q.out q
  · have Q := hid q
    clear q
    go_wp2_with fail
    refine (cP.out _).mono ?_
    rintro e W2 ⟨hp, g2⟩
    have G2 := hid (grown_trans G1.out g2)
    have B2 := hid (B1.out.grown g2 (by simp))
    clear g2 cP G1 B1
    rcases hp with ⟨q, _⟩ | ⟨_, v, rfl⟩
    · exact absurd q Q.out
    · have v0 := B2.out.free 0
      have v1 := B2.out.free 1
      have x0 := B2.out.cell 0
      have x1 := B2.out.cell 1
      simp only [List.getElem?_toArray, List.getElem?_cons_succ, List.getElem?_cons_zero] at x0 x1
      go_wp2
      have F := (B2.out.set 0 (.pointer none)).set 1 (.pointer none)
      have h0 := F.cell 0
      have h1 := F.cell 1
      simp only [List.setIfInBounds_toArray, List.set_cons_succ, List.set_cons_zero, List.getElem?_toArray, List.getElem?_cons_succ, List.getElem?_cons_zero] at h0 h1
      refine bodyPost_ret (v := .tuple #[.agg #[.pointer none, .pointer none], .bool false, .bool true]) ?_ rfl ⟨.inr ⟨Q.out, rfl⟩, sets2_grown G2.out _ (Nat.le_refl _) _ _⟩
      clear F x0 x1 v0 v1
      generalize World.setCell _ _ _ = WF at *
      simp [results, Try.results4, go_sem, h0, h1]

set_option maxHeartbeats 2000000 in
theorem images_any (s : ByteArray) (w : World) :
    Calls Try.prog 3 #[.string s] w fun e w' => e = .returned (.bool true) ∧ w.grownBy w' none := by
  by_cases hl : 1048576 < s.size
  · have d : decide (1048576 < (s.size : Int)) = true := by simp; omega
    go_enter Try.func3, Try.ntmps3
    go_wp2
    go_ret
    exact ⟨rfl, World.grownBy.refl _ _⟩
  · have d : decide (1048576 < (s.size : Int)) = false := by simp; omega
    have cL := hid (loaded_any s w (by omega))
    go_enter Try.func3, Try.ntmps3
    go_wp2_with fail
    refine cL.out.mono ?_
    rintro e W1 ⟨hr, hg⟩
    have G := hid hg
    clear hg cL
    rcases hr with ⟨q, x, g, rfl⟩ | ⟨q, rfl⟩
    · clear q
      go_wp2
      go_ret
      exact ⟨rfl, grown_trans G.out (World.grownBy_alloc _ _ _)⟩
    · clear q
      go_wp2
      go_ret
      exact ⟨rfl, grown_trans G.out (World.grownBy_alloc _ _ _)⟩

end Go.Proofs.Ythlncpgpadcjiaa

namespace Go.Proofs.Ythlncpgpadcjiaa
open Go.ChangeShapes Go.WideShapes Go.ChangeAt Go.RowKit

theorem ownKnobNone : ownKnob Try.prog.godebug = none := by kernel_rfl
theorem kept_of_grown {W W' : World} (h : W.grownBy W' none) (may : MemPlace → Prop) : W.keptBut W' may := by
  refine World.keptBut_mono (fun _ f => f.elim) (?_ : W.keptBut W' (fun _ => False))
  refine ⟨h.os, h.output, fun i hi => ?_⟩
  rw [h.block i hi (by simp)]
  cases hb : W.heap[i]? with
  | none => trivial
  | some o => cases o <;> simp

set_option maxRecDepth 100000 in
theorem images_contract (H : Type) (enc : TypeId × Value → H) (W : World) (base : Nat) (args : Array Value) (ds gs : List (DataW H)) (before : List MemPlace)
    (hval : ∀ (j : Nat) t v, Try.f3.params[j]? = some t → args[j]? = some v → Value.okWide Try.prog W .any base t v)
    (hW : DataW.Whole enc Try.prog Try.f3.params.toList Rows.imagesSpec.vars false W args.toList ds gs before) :
    Calls Try.prog 3 args W fun e W' => ∃ v, e = .returned v ∧ Rows.imagesSpec.post enc Try.prog Try.f3 false true false false W args v W' := by
  have hW' := hW
  obtain ⟨p, q, hA0, hV, rfl, hfz, hnd⟩ := hW
  have hA : DataW.TrodAll enc Try.prog W 0 (fun _ => true) true Try.f3.params.toList args.toList ds p := hA0
  rw [Try.params3] at hA hval
  obtain ⟨v0, vs0, d0, ds0, p0, q0, hargs, rfl, rfl, h0, r0⟩ := trodAll_cons hA
  obtain ⟨rfl, rfl, rfl⟩ := trodAll_nil r0
  obtain rfl : args = #[v0] := by cases args; simp_all
  obtain ⟨rfl, rfl⟩ := trodVars_none hV
  have hv : Value.okWide Try.prog W .any base 9 v0 := hval 0 9 v0 rfl rfl
  obtain ⟨s, rfl, rfl, rfl, hs⟩ := ChangeMaps.open_string (t := 9) Try.underlying9 hv h0
  clear hA0
  simp only [List.append_nil] at hW'
  refine (images_any s W).mono fun e W' ⟨he, hg⟩ => ?_
  subst he
  exact ⟨_, rfl, _, _, _, [], [], [], hW', trodAll_cons_mk (shut_bool Try.underlying4 _) trodAll_mk0, trodAll_cons_mk (ChangeMaps.shut_string Try.underlying9 hs) trodAll_mk0, rfl, kept_of_grown hg _, fun h => by cases h⟩

noncomputable def laidWorld (os : Os) : World := World.holding Try.prog os ⟨#[], #[], []⟩
theorem laid_met (os : Os) : laidMet Try.prog Rows.imagesRow.laid ((laidWorld os).forCall (fun _ _ => 0) ⟨#[], #[.string ⟨#[]⟩], []⟩).memory :=
  laidMet_of_run' 8 (by kernel_rfl) (by kernel_rfl)
theorem witness_reads (os : Os) {H : Type} (enc : TypeId × Value → H) : ∃ places, DataW.whole enc Try.prog ((laidWorld os).forCall (fun _ _ => 0) ⟨#[], #[.string ⟨#[]⟩], []⟩).memory Try.f3.params.toList Rows.imagesSpec.vars false #[Value.string ⟨#[]⟩].toList 8 = some ([.lit (.string [])], [], places) :=
  ⟨[], by kernel_rfl⟩

set_option maxRecDepth 100000 in
theorem images_lifted (os : Os) (started : os.Started) (H : Type) (enc : TypeId × Value → H) (F : Stop.Interp) :
    ReturnsInHanded {} Try.checked os 3 .any ((OpenSpec.ofChange Rows.imagesSpec).preRow enc Try.prog Try.f3 Rows.imagesRow.domain false Rows.imagesRow.laid) (((OpenSpec.ofChange Rows.imagesSpec).at F).post enc Try.prog Try.f3 false true false false) := by
  obtain ⟨places, hx⟩ := witness_reads os enc
  refine returnsInHanded_of_row (C := Try.checked) (s := OpenSpec.ofChange Rows.imagesSpec) ownKnobNone started (by kernel_rfl) Try.func3
    (witness_row_at (enc := enc) (C := Try.checked) false (laidWorld os) #[.string ⟨#[]⟩] rfl (by kernel_rfl) (by kernel_rfl) (by kernel_rfl)
      (OpenSpec.preRow_of_cond 8 hx (by kernel_rfl) (fun k hk => by cases hk) (by kernel_rfl) (laid_met os))) ?_
  intro W base args ds gs before hval hW _ _ _ _ _ _
  exact images_contract H enc W base args ds gs before hval hW

theorem images_said : Rows.ImagesSaid :=
  OpenClaim.holds_of_cond 3 Try.f3 rfl rfl rfl rfl rfl rfl rfl ⟨rfl, rfl, rfl, rfl, rfl⟩ rfl rfl rfl rfl rfl (by kernel_rfl) Try.func3 (by kernel_rfl)
    (of_decide_eq_true (by kernel_rfl)) (by unfold Func.isWrapper; first | (rw [if_pos (by decide +kernel)]; kernel_rfl) | (rw [if_neg (by decide +kernel)]; exact ⟨rfl, rfl⟩))
    (fun os started H enc _ F => by rw [OpenClaim.pre_eq_preRow]; exact images_lifted os started H enc F)

end Go.Proofs.Ythlncpgpadcjiaa
