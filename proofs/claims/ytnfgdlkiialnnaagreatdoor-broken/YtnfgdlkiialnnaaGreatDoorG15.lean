/- Linking: what names mean. -/
/- Linking: where words lie, what is read of a module. -/
/- Linking: addresses. -/
import Derived.Test.YtnfgdlkiialnnaaGreatDoorG11
import Derived.Test.YtnfgdlkiialnnaaGreatDoorG14
namespace Go.Proofs.YtnfgdlkiialnnaaGreatDoor
open Go.RowKit

theorem Tryz.infoSpot : (Tryz.prog.info? 115).map (fun i => (i.zero, i.size, i.bytes)) = some (some (.agg #[.pointer none, .int .i64 0, .int .i64 0]), 3, 24) := by kernel_rfl

/-- a module whose meanings are being appended to -/
structure MeanAt (WB : World) (bi : Nat) (g : Nat) (v2 v3 v4 : Value) (d b : Int) (sl : List Value) (j : Nat) (vme : Value) (wr : World) : Prop where
 gr : WB.grownBy wr (some bi)
 blk : BlkAt wr bi #[ptrV g, vme, v2, v3, v4, .int .i64 d, .int .i64 b] 122
 row : wr.ownsRow WB.heap.size 115 3 vme j sl
 nil : j = 0 → vme = .slice none 0 0
section
variable {WB V wr w3 : World} {bi g j : Nat} {v2 v3 v4 vme v' : Value} {d b : Int} {sl news : List Value}
theorem MeanAt.kept (h : MeanAt WB bi g v2 v3 v4 d b sl j vme wr) (hV : wr.grownBy V none) : MeanAt WB bi g v2 v3 v4 d b sl j vme V :=
 ⟨h.gr.trans (hV.but _), h.blk.grown hV (by simp), h.row.kept hV (Decidable.em _), h.nil⟩
theorem MeanAt.step (h : MeanAt WB bi g v2 v3 v4 d b sl j vme V) (hown : w3.ownsRow WB.heap.size 115 3 v' (j + 1) (sl ++ news)) (hg : V.grownBy w3 vme.ownBlock) : MeanAt WB bi g v2 v3 v4 d b (sl ++ news) (j + 1) v' (w3.setCell ⟨bi, 1, none⟩ v') := by
 have b3 := blk_ty h.blk hg (RowT.own h.row) (by decide)
 have gs := grown_set w3 bi 1 v'
 refine ⟨(h.gr.andThen hg (fun k hk => .inl (h.row.lt k hk).1)).trans gs, ?_, own_ty hown gs (RowT.blk b3) (by decide), fun c => by omega⟩
 simpa using b3.set 1 v'
end

theorem MeanAt.mod {WB wr : World} {bi g : Nat} {v2 v3 v4 vme : Value} {m : Ln.Mod} {bl : List Nat} {l : List Ln.Spot} {cur : Array Value} (hq : BlkAt WB bi cur 122) (ho : ObjAt WB g m.obj) (q3 : WB.ownsRow 0 4 1 v2 m.short.length (m.short.map Value.bool)) (q4 : WB.ownsRow 0 3 1 v3 m.text.length (m.text.map (Value.int .i64))) (q5 : WB.ownsRow 0 3 1 v4 m.far.length (m.far.map (Value.int .i64))) (q7 : m.short = [] → v2 = .slice none 0 0) (h : MeanAt WB bi g v2 v3 v4 m.data m.bss (l.flatMap (spotL bl)) l.length vme wr) : ModAt wr bl bi g { m with means := l } := by
 have R := RowT.blk hq
 exact ⟨_, _, _, _, h.blk, obj_ty ho h.gr R (by decide) (by decide) (by decide) (by decide), own_nought h.row, own_ty q3 h.gr R (by decide), own_ty q4 h.gr R (by decide), own_ty q5 h.gr R (by decide), fun e => h.nil (by simp only at e; rw [e]; rfl), q7⟩

namespace Ln
def startN : List UInt8 := [95, 115, 116, 97, 114, 116]
def resolveFlt (os : List Lk.Obj) : Flt :=
 if (checkTwice os).e ≠ 0 then checkTwice os
 else if (checkWanted os).e ≠ 0 then checkWanted os
 else if (named os startN).sect ≠ 1 ∧ (named os startN).sect ≠ 2 then ⟨35, 0, []⟩
 else checkWanted os
end Ln

theorem ProgAt.flt {W0 W : World} {P : Nat} {bt bf bd : Int} {vm : Value} {bl gl : List Nat} {ms : List Ln.Mod} {st : Ln.Spot} {no : Int} {R : Nat} {cs : Array Value} (h : ProgAt W0 P bt bf bd vm bl gl ms st no W) (hb : BlkAt W R cs 45) (hR : W0.heap.size ≤ R) (a b c : Value) : ProgAt W0 P bt bf bd vm bl gl ms st no (((W.setCell ⟨R, 0, none⟩ a).setCell ⟨R, 1, none⟩ b).setCell ⟨R, 2, none⟩ c) :=
 h.ty (World.grownBy.trans (World.grownBy.trans (grown_set _ R 0 a) (grown_set _ R 1 b)) (grown_set _ R 2 c)) (RowT.blk hb) (fun k e => by simp at e; subst e; exact hR) (by decide) (by decide) (by decide) (by decide) (by decide) (by decide) (by decide) (by decide) (by decide)
theorem ProgF.flt {Wf W0 W : World} {P : Nat} {bt bf bd : Int} {vm : Value} {bl gl : List Nat} {ms : List Ln.Mod} {st : Ln.Spot} {no : Int} {R : Nat} {cs : Array Value} (h : ProgF Wf W0 P bt bf bd vm bl gl ms st no W) (hb : BlkAt W R cs 45) (hR : Wf.heap.size ≤ R) (a b c : Value) : ProgF Wf W0 P bt bf bd vm bl gl ms st no (((W.setCell ⟨R, 0, none⟩ a).setCell ⟨R, 1, none⟩ b).setCell ⟨R, 2, none⟩ c) := by
 have G := World.grownBy.trans (World.grownBy.trans (grown_set W R 0 a) (grown_set _ R 1 b)) (grown_set _ R 2 c)
 exact ⟨h.toProgAt.flt hb (Nat.le_trans h.le hR) a b c, fun k cs q => (h.kf k cs q).grown G (by have := q.lt; simp; omega), h.le, Nat.le_trans h.sz G.size⟩
theorem flt_other {W : World} {R L : Nat} {cs : Array Value} {t : TypeId} (hb : BlkAt W R cs t) (hne : R ≠ L) (a b c : Value) : BlkAt (((W.setCell ⟨L, 0, none⟩ a).setCell ⟨L, 1, none⟩ b).setCell ⟨L, 2, none⟩ c) R cs t :=
 hb.grown (World.grownBy.trans (World.grownBy.trans (grown_set _ L 0 a) (grown_set _ L 1 b)) (grown_set _ L 2 c)) (by simpa using hne)

set_option maxRecDepth 100000 in
set_option maxHeartbeats 8000000 in
theorem resolve_any (Wf W0 : World) (P : Nat) (bt bf bd : Int) (vm : Value) (bl gl : List Nat) (os : List Lk.Obj) (W : World) (h : ProgF Wf W0 P bt bf bd vm bl gl (os.map Ln.bare) Ln.none_ 0 W) :
  Calls Tryz.prog 42 #[ptrV P] W fun e W' => e = .returned (lfA (Ln.resolveFlt os)) ∧ ProgF Wf W0 P bt bf bd vm bl gl (Ln.resAll os (os.map Ln.bare)) (Ln.named os Ln.startN) 0 W' := by
 obtain ⟨i0, hi, hz0, hz1, hz2⟩ := info_parts Tryz.infoSpot
 obtain ⟨am, cm, rfl⟩ := own_form h.row
 have A0 := World.grownBy_alloc W (.cells #[.int .i64 0, .int .i64 0, .string ⟨#[]⟩] 45) none
 have BR := hid (BlkAt.new W #[.int .i64 0, .int .i64 0, .string ⟨#[]⟩] 45)
 have H0 := hid (h.kept A0)
 have c3 : (W.alloc (.cells #[.int .i64 0, .int .i64 0, .string ⟨#[]⟩] 45)).cell? ⟨P, 3, none⟩ = some (.slice am bl.length cm) := H0.out.blk.cell 3
 have hbl := h.few
 have HRW := hid h.sz
 have LO := hid (show os.length = bl.length by have := h.lenO; rwa [List.length_map] at this)
 clear h A0
 unfold ptrV
 go_enter Tryz.func42, Tryz.ntmps42
 go_wp2
 generalize W.alloc (.cells #[.int .i64 0, .int .i64 0, .string ⟨#[]⟩] 45) = W1 at *
 generalize W.heap.size = R at *
 have RL := hid (show (Ln.resAll os (os.map Ln.bare)).length = (os.map Ln.bare).length by simp [Ln.resAll])
 have OB := hid (show ∀ k, k ≤ os.length → ((Ln.resAll os (os.map Ln.bare)).take k ++ (os.map Ln.bare).drop k).map Ln.Mod.obj = os from fun k hk => by
  rw [List.map_append, List.map_take, List.map_drop]
  have e1 : (Ln.resAll os (os.map Ln.bare)).map Ln.Mod.obj = os := by
   apply List.ext_getElem
   ·simp [Ln.resAll]
   ·intro i h1 h2
    simp [Ln.resAll, Ln.resOne, Ln.bare]
  have e2 : (os.map Ln.bare).map Ln.Mod.obj = os := by
   rw [List.map_map]
   exact List.map_id _
  rw [e1, e2, List.take_append_drop])
 go_loopw [14] (fun i wr => ∃ k : Nat, k ≤ bl.length ∧ i = .int .i64 k ∧ ProgF Wf W0 P bt bf bd (.slice am bl.length cm) bl gl ((Ln.resAll os (os.map Ln.bare)).take k ++ (os.map Ln.bare).drop k) Ln.none_ 0 wr ∧ BlkAt wr R #[.int .i64 0, .int .i64 0, .string ⟨#[]⟩] 45) (fun i _ => bl.length - (intOf i).toNat)
 case atStart => exact ⟨0, Nat.zero_le _, rfl, by simpa using H0.out, BR.out⟩
 case round =>
  obtain ⟨k, hk, rfl, hpa, hbr⟩ := hrel
  have HP := hid hpa
  have HB := hid hbr
  clear hpa hbr H0 BR
  by_cases hlt : k < bl.length
  ·have hko : k < os.length := by rw [LO.out]; exact hlt
   obtain ⟨sg, off, hsg, hsc⟩ := HP.out.modsIn.ptrs (by omega)
   have ck := hsc k hlt
   subst hsg
   have hkg : k < gl.length := by rw [HP.out.lenG]; exact hlt
   have HM : ModAt wr bl bl[k] (gl[k]'hkg) _ := HP.out.mods k hlt
   have ecur : ((Ln.resAll os (os.map Ln.bare)).take k ++ (os.map Ln.bare).drop k)[k]'(by rw [HP.out.lenO]; exact hlt) = Ln.bare os[k] := by
    rw [step_at _ _ k (by simpa using hko) (by rw [RL.out, List.length_map]; omega) (by rw [HP.out.lenO]; exact hlt), List.getElem_map]
   rw [ecur] at HM
   obtain ⟨v1, v2, v3, v4, q0, q1, -, q3, q4, q5, q6, q7⟩ := HM
   have e6 := q6 rfl
   subst e6
   obtain ⟨at_, ct, af, cf, ad, cd, aa, ca, as_, cs, ar, cr, hb, -, -, -, -, p5, -⟩ := q1.open
   have S := hid (SymsIn.of_own p5)
   have k5 := hb.cell 5
   simp only [List.getElem?_toArray, List.getElem?_cons_succ, List.getElem?_cons_zero] at k5
   have k0 : wr.cell? ⟨bl[k], 0, none⟩ = some (ptrV (gl[k]'hkg)) := q0.cell 0
   unfold ptrV at k0
   have M0 := hid (show MeanAt wr bl[k] (gl[k]'hkg) v2 v3 v4 0 0 [] 0 (.slice none 0 0) wr from ⟨World.grownBy.refl _ _, q0, World.ownsRow_nil _ _ _ _, fun _ => rfl⟩)
   have PK := hid (fun (l : List Ln.Spot) (vme : Value) (wr2 : World) (hm : MeanAt wr bl[k] (gl[k]'hkg) v2 v3 v4 0 0 (l.flatMap (spotL bl)) l.length vme wr2) => show ProgF Wf W0 P bt bf bd (.slice (some ⟨sg, off, none⟩) bl.length cm) bl gl (((Ln.resAll os (os.map Ln.bare)).take k ++ (os.map Ln.bare).drop k).set k { Ln.bare os[k] with means := l }) Ln.none_ 0 wr2 from
    HP.out.upd hlt (by rw [HP.out.lenO]; exact hlt) hm.gr (MeanAt.mod (m := Ln.bare os[k]) q0 q1 q3 q4 q5 q7 hm) (by rw [ecur]))
   have PI := hid (fun (l : List Ln.Spot) (vme : Value) (wr2 : World) (hm : MeanAt wr bl[k] (gl[k]'hkg) v2 v3 v4 0 0 (l.flatMap (spotL bl)) l.length vme wr2) => show wr2.cell? ⟨P, 3, none⟩ = some (.slice (some ⟨sg, off, none⟩) bl.length cm) ∧ ModsIn wr2 (some ⟨sg, off, none⟩) bl os from by
    have A := PK.out l vme wr2 hm
    refine ⟨A.blk.cell 3, ?_⟩
    have B := A.modsIn
    have e : ((((Ln.resAll os (os.map Ln.bare)).take k ++ (os.map Ln.bare).drop k).set k { Ln.bare os[k] with means := l }).map Ln.Mod.obj) = os := by
     rw [List.map_set, OB.out k (by omega)]
     exact List.set_getElem_self hko
    rw [e] at B
    exact B)
   have PS := hid (fun (wr2 : World) (hg : wr.grownBy wr2 (some bl[k])) => show SymsIn wr2 as_ (Ln.bare os[k]).obj.syms from SymsIn.of_own (own_ty p5 hg (RowT.blk q0) (by decide)))
   have PB := hid (fun (wr2 : World) (hg : wr.grownBy wr2 (some bl[k])) => show BlkAt wr2 R #[.int .i64 0, .int .i64 0, .string ⟨#[]⟩] 45 from blk_ty HB.out hg (RowT.blk q0) (by decide))
   have hys : os[k].syms.length ≤ 65535 := HP.out.modsIn.syms _ (by rw [OB.out k (by omega)]; exact List.getElem_mem hko)
   have FIN := hid (show ((Ln.resAll os (os.map Ln.bare)).take k ++ (os.map Ln.bare).drop k).set k { Ln.bare os[k] with means := os[k].syms.map (Ln.meaning os k) } = (Ln.resAll os (os.map Ln.bare)).take (k + 1) ++ (os.map Ln.bare).drop (k + 1) by
    rw [← step_list _ _ k (by simpa using hko) (by rw [RL.out, List.length_map]; exact hko) RL.out]
    congr 1
    simp [Ln.resAll, Ln.resOne, Ln.bare])
   have hbk : bl[k] < wr.heap.size := q0.lt
   have ESy : (Ln.bare os[k]).obj.syms = os[k].syms := rfl
   rw [ESy] at PS S k5
   generalize hY : os[k].syms = ys at *
   have g1 : (k : Int) < (bl.length : Int) := by omega
   clear hsc q0 q1 q3 q4 q5 q6 q7 hb p5 HP HB ecur hY ESy RL OB
   generalize (gl[k]'hkg) = gk at *
   generalize hbb : bl[k] = bk at *
   have HBB := hid hbb
   clear hbb
   go_wp2
   generalize wr = WB at *
   clear ck k0 k5
   go_loopw [26] (fun i wr2 => ∃ (j : Nat) (vme : Value), j ≤ ys.length ∧ i = .int .i64 j ∧ MeanAt WB bk gk v2 v3 v4 0 0 (((ys.take j).map (Ln.meaning os k)).flatMap (spotL bl)) j vme wr2) (fun i _ => ys.length - (intOf i).toNat)
   case atStart => exact ⟨0, _, Nat.zero_le _, rfl, M0.out⟩
   case round =>
    obtain ⟨j, vme, hj, rfl, hme⟩ := hrel
    have HM := hid hme
    clear hme M0
    obtain ⟨av, cv, rfl⟩ := own_form HM.out.row
    have LJ : ((ys.take j).map (Ln.meaning os k)).length = j := by rw [List.length_map, List.length_take]; omega
    obtain ⟨pc3, pmi⟩ := PI.out ((ys.take j).map (Ln.meaning os k)) _ wr (by rw [LJ]; exact HM.out)
    by_cases hlt2 : j < ys.length
    ·obtain ⟨sg2, hsg2, hgs, hcs⟩ := PS.out wr HM.out.gr (by omega)
     subst hsg2
     obtain ⟨q0, q1, q2, q3⟩ := hcs j hlt2
     clear hcs
     have g2 : (j : Int) < (ys.length : Int) := by omega
     have TK := hid (show (((ys.take (j + 1)).map (Ln.meaning os k)).flatMap (spotL bl)) = (((ys.take j).map (Ln.meaning os k)).flatMap (spotL bl)) ++ spotL bl (Ln.meaning os k ys[j]) by
      rw [List.take_succ_eq_append_getElem hlt2, List.map_append, List.flatMap_append]
      simp)
     generalize ys[j] = y at *
     generalize hsl : ((ys.take j).map (Ln.meaning os k)).flatMap (spotL bl) = sl at *
     have GA := hid (World.grownBy_alloc wr (.cells #[.string (bs y.name), .int .i64 y.bind, .int .i64 y.sect, .int .i64 y.off] 124) none)
     have cM := hid (meaning_any P (some ⟨sg, off, none⟩) cm bl os k hlt y _ (gcell pc3 GA.out) (pmi.kept GA.out))
     rw [HBB.out] at cM
     have HM1 := hid (HM.out.kept GA.out)
     clear pc3 pmi hsl
     unfold symA at cM
     go_wp2_with fail
     refine cM.out.mono ?_
     rintro e W5 ⟨rfl, h5⟩
     have HM5 := hid (HM1.out.kept h5)
     clear h5 cM q0 q1 q2 q3
     unfold spotA
     generalize Ln.meaning os k y = N at *
     obtain ⟨nm, ns, nof⟩ := N
     have TK2 := hid (show (((ys.take (j + 1)).map (Ln.meaning os k)).flatMap (spotL bl)) = sl ++ [.pointer (ptrOf bl nm), .int .i64 ns, .int .i64 nof] from TK.out)
     clear TK
     dsimp only
     generalize hq : ptrOf bl nm = q at *
     clear hq
     have A6 := World.grownBy_alloc W5 (.cells #[.pointer q, .int .i64 ns, .int .i64 nof] 115) none
     have B6 := hid (BlkAt.new W5 #[.pointer q, .int .i64 ns, .int .i64 nof] 115)
     have HM6 := hid (HM5.out.kept A6)
     have OWL := hid (show ∀ b, Value.ownBlock (.slice av j cv) = some b → b ≠ W5.heap.size from fun b e c => by
      have := (HM5.out.row.lt b e).2
      omega)
     clear A6 HM5
     go_wp2
     generalize W5.alloc (.cells #[.pointer q, .int .i64 ns, .int .i64 nof] 115) = W6 at *
     generalize W5.heap.size = L at *
     have s0 : W6.cell? ⟨L, 0, none⟩ = some (.pointer q) := B6.out.cell 0
     have s1 : W6.cell? ⟨L, 1, none⟩ = some (.int .i64 ns) := B6.out.cell 1
     have s2 : W6.cell? ⟨L, 2, none⟩ = some (.int .i64 nof) := B6.out.cell 2
     have m1 : W6.cell? ⟨bk, 1, none⟩ = some (.slice av j cv) := HM6.out.blk.cell 1
     have A7 := grown_drew (World.grownBy_alloc W6 (.cells #[.pointer q, .int .i64 ns, .int .i64 nof] 115) none)
     have B7 := hid (B6.out.grown A7 (by simp))
     have HM7 := hid (HM6.out.kept A7)
     have hA := hid HM7.out.row
     have n1 : (W6.alloc (.cells #[.pointer q, .int .i64 ns, .int .i64 nof] 115)).drew.cell? ⟨bk, 1, none⟩ = some (.slice av j cv) := HM7.out.blk.cell 1
     have hN : Hid (∀ j u, [Value.pointer q, .int .i64 ns, .int .i64 nof][j]? = some u → (W6.alloc (.cells #[.pointer q, .int .i64 ns, .int .i64 nof] 115)).drew.cell? ((⟨W6.heap.size, 0, none⟩ : Addr).add j) = some u) := World.news_of_block (heap_alloc_new W6 (.cells #[.pointer q, .int .i64 ns, .int .i64 nof] 115))
     have hOne : Hid (∀ u ∈ [Value.pointer q, .int .i64 ns, .int .i64 nof], u.oneCell' = true) := by intro u hu; simp at hu; rcases hu with rfl | rfl | rfl <;> rfl
     have h63 : Hid (j + 1 ≤ maxLen) := by show _ ≤ _; unfold maxLen; omega
     have hby : Hid ((j + 1) * 24 ≤ 140737488355328) := by show _ ≤ _; omega
     have hbs : Hid (WB.heap.size ≤ (W6.alloc (.cells #[.pointer q, .int .i64 ns, .int .i64 nof] 115)).drew.heap.size) := HM7.out.gr.size
     have SA : Hid ((W6.alloc (.cells #[.pointer q, .int .i64 ns, .int .i64 nof] 115)).drew.cell? ⟨L, 0, none⟩ = some (.pointer q) ∧ (W6.alloc (.cells #[.pointer q, .int .i64 ns, .int .i64 nof] 115)).drew.cell? ⟨L, 1, none⟩ = some (.int .i64 ns) ∧ (W6.alloc (.cells #[.pointer q, .int .i64 ns, .int .i64 nof] 115)).drew.cell? ⟨L, 2, none⟩ = some (.int .i64 nof)) := ⟨B7.out.cell 0, B7.out.cell 1, B7.out.cell 2⟩
     have STEP := hid (fun (v' : Value) (w3 : World) (hown' : w3.ownsRow WB.heap.size 115 3 v' (j + 1) (sl ++ [.pointer q, .int .i64 ns, .int .i64 nof])) (hg : (W6.alloc (.cells #[.pointer q, .int .i64 ns, .int .i64 nof] 115)).drew.grownBy w3 (Value.ownBlock (.slice av j cv))) => show MeanAt WB bk gk v2 v3 v4 0 0 (sl ++ [.pointer q, .int .i64 ns, .int .i64 nof]) (j + 1) v' (w3.setCell ⟨bk, 1, none⟩ v') ∧ BlkAt w3 L #[.pointer q, .int .i64 ns, .int .i64 nof] 115 ∧ BlkAt (w3.setCell ⟨bk, 1, none⟩ v') L #[.pointer q, .int .i64 ns, .int .i64 nof] 115 ∧ w3.cell? ⟨bk, 1, none⟩ = some (.slice av j cv) ∧ w3.frozen? ⟨bk, 1, none⟩ = false by
      have st := HM7.out.step hown' hg
      have b3 := blk_ty HM7.out.blk hg (RowT.own HM7.out.row) (by decide)
      have l3 := B7.out.grown hg (fun e => OWL.out L e.symm rfl)
      exact ⟨st, l3, blk_ty l3 (grown_set w3 bk 1 v') (RowT.blk b3) (by decide), b3.cell 1, b3.free 1⟩)
     clear A7 B7 HM7 HM6 B6
     refine wp_region_held_drew (S := (fun w' => w'.cell? ⟨L, 0, none⟩ = some (.pointer q) ∧ w'.cell? ⟨L, 1, none⟩ = some (.int .i64 ns) ∧ w'.cell? ⟨L, 2, none⟩ = some (.int .i64 nof))) (by kernel_rfl) ⟨s0, s1, s2⟩ ?_
     intro hS
     refine wpAnyH_take (i := 0) (v := ?_) rfl (by kernel_rfl) (by kernel_rfl) (by kernel_rfl) (fun _ _ _ h => h) (Or.inl ⟨by kernel_rfl, ?_⟩) hS ?_
     rotate_left
     ·intro w' hw'; obtain ⟨x0, x1, x2⟩ := hw'; go_simp; with_reducible rfl
     refine wpAnyH_take (i := 1) (v := ?_) rfl (by kernel_rfl) (by kernel_rfl) (by kernel_rfl) (fun _ _ _ h => h) (Or.inl ⟨by kernel_rfl, ?_⟩) hS ?_
     rotate_left
     ·intro w' hw'; obtain ⟨x0, x1, x2⟩ := hw'; go_simp; with_reducible rfl
     refine wpAnyH_take (i := 2) (v := ?_) rfl (by kernel_rfl) (by kernel_rfl) (by kernel_rfl) (fun _ _ _ h => h) (Or.inl ⟨by kernel_rfl, ?_⟩) hS ?_
     rotate_left
     ·intro w' hw'; obtain ⟨x0, x1, x2⟩ := hw'; go_simp; with_reducible rfl
     refine wpAnyH_take (i := 3) (v := ?_) rfl (by kernel_rfl) (by kernel_rfl) (by kernel_rfl) (fun _ _ _ h => h) (Or.inl ⟨by kernel_rfl, ?_⟩) hS ?_
     rotate_left
     ·intro w' hw'; obtain ⟨x0, x1, x2⟩ := hw'; go_simp; with_reducible rfl
     refine wpAnyH_take (i := 5) (v := ?_) rfl (by kernel_rfl) (by kernel_rfl) (by kernel_rfl) (fun _ _ _ h => h) (Or.inl ⟨by kernel_rfl, ?_⟩) hS ?_
     rotate_left
     ·intro w' hw'; obtain ⟨x0, x1, x2⟩ := hw'; go_simp; with_reducible rfl
     refine wpAnyH_ready (rs := [4, 6]) (by kernel_rfl) (by simp) ?_
     refine AllReadyH.cons rfl (fun K hK => ?_) (AllReadyH.cons rfl (fun K hK => ?_) AllReadyH.nil)
     ·go_simp
      refine hK.out _ _ hS (fun hS2 => ?_)
      clear hK K
      refine wpAnyH_ready (rs := [6]) (by kernel_rfl) (by simp) ?_
      refine AllReadyH.cons rfl (fun K hK => ?_) AllReadyH.nil
      go_simp
      refine hK.out _ _ SA.out (fun hS3 => ?_)
      clear hK K hS2 hS3
      refine wpAnyH_ready (rs := [7]) (by kernel_rfl) (by simp) ?_
      refine AllReadyH.cons rfl (fun K hK => ?_) AllReadyH.nil
      rw [if_pos (by kernel_rfl)]
      refine wp_append_own_at _ (.tmp 38) (.tmp 40) 119 rfl WB.heap.size 115 i0 (.agg #[.pointer none, .int .i64 0, .int .i64 0]) 3 24 Tryz.underlying119 hi hz0 hz1 hz2 rfl (by decide) (.slice av j cv) j sl (by kernel_rfl) hA.out ⟨W6.heap.size, 0, none⟩ 1 1 [.pointer q, .int .i64 ns, .int .i64 nof] (by kernel_rfl) rfl hN.out hOne.out h63.out hby.out hbs.out ?_
      intro v' w3 hown' hgrow _ _
      obtain ⟨av', cv', rfl⟩ := own_form hown'
      obtain ⟨t1, t2, t3, t4, t5⟩ := STEP.out _ _ hown' hgrow
      have T1 := hid t1
      have T3 : Hid ((w3.setCell ⟨bk, 1, none⟩ (.slice av' (j + 1) cv')).cell? ⟨L, 0, none⟩ = some (.pointer q) ∧ (w3.setCell ⟨bk, 1, none⟩ (.slice av' (j + 1) cv')).cell? ⟨L, 1, none⟩ = some (.int .i64 ns) ∧ (w3.setCell ⟨bk, 1, none⟩ (.slice av' (j + 1) cv')).cell? ⟨L, 2, none⟩ = some (.int .i64 nof)) := ⟨t3.cell 0, t3.cell 1, t3.cell 2⟩
      refine hK.out _ _ ⟨t2.cell 0, t2.cell 1, t2.cell 2⟩ (fun hS4 => ?_)
      clear hK K hown' hgrow t1 t2 t3
      refine wpAnyH_take (i := 8) (v := ?_) rfl (by kernel_rfl) (by kernel_rfl) (by kernel_rfl) (fun _ _ _ h => h) (Or.inl ⟨by kernel_rfl, ?_⟩) hS4 ?_
      rotate_left
      ·intro w' hw'; obtain ⟨x0, x1, x2⟩ := hw'; go_simp; with_reducible rfl
      refine wpAnyH_take (i := 9) (v := ?_) rfl (by kernel_rfl) (by kernel_rfl) (by kernel_rfl) (fun _ _ _ h => h) (Or.inl ⟨by kernel_rfl, ?_⟩) hS4 ?_
      rotate_left
      ·intro w' hw'; obtain ⟨x0, x1, x2⟩ := hw'; go_simp; with_reducible rfl
      refine wpAnyH_ready (rs := [10]) (by kernel_rfl) (by simp) ?_
      refine AllReadyH.cons rfl (fun K hK => ?_) AllReadyH.nil
      go_simp
      refine hK.out _ _ T3.out (fun hS5 => ?_)
      clear hK K
      refine wpAnyH_done (by kernel_rfl) ?_ _
      try simp only [put_mk, List.getElem_toArray, List.getElem_cons_succ, List.getElem_cons_zero, List.setIfInBounds_toArray, List.set_cons_succ, List.set_cons_zero]
      clear hA hN hOne h63 hby hbs m1 n1 t4 t5 hS4 hS5 hS STEP SA T3
      go_wp2
      go_roundw
      case rel => exact ⟨j + 1, _, by omega, by go_num, by rw [TK2.out]; exact T1.out⟩
      case measure => simp [intOf]; omega
     ·go_simp
      refine hK.out _ _ SA.out (fun hS2 => ?_)
      clear hK K
      refine wpAnyH_ready (rs := [4]) (by kernel_rfl) (by simp) ?_
      refine AllReadyH.cons rfl (fun K hK => ?_) AllReadyH.nil
      go_simp
      refine hK.out _ _ SA.out (fun hS3 => ?_)
      clear hK K hS2 hS3
      refine wpAnyH_ready (rs := [7]) (by kernel_rfl) (by simp) ?_
      refine AllReadyH.cons rfl (fun K hK => ?_) AllReadyH.nil
      rw [if_pos (by kernel_rfl)]
      refine wp_append_own_at _ (.tmp 38) (.tmp 40) 119 rfl WB.heap.size 115 i0 (.agg #[.pointer none, .int .i64 0, .int .i64 0]) 3 24 Tryz.underlying119 hi hz0 hz1 hz2 rfl (by decide) (.slice av j cv) j sl (by kernel_rfl) hA.out ⟨W6.heap.size, 0, none⟩ 1 1 [.pointer q, .int .i64 ns, .int .i64 nof] (by kernel_rfl) rfl hN.out hOne.out h63.out hby.out hbs.out ?_
      intro v' w3 hown' hgrow _ _
      obtain ⟨av', cv', rfl⟩ := own_form hown'
      obtain ⟨t1, t2, t3, t4, t5⟩ := STEP.out _ _ hown' hgrow
      have T1 := hid t1
      have T3 : Hid ((w3.setCell ⟨bk, 1, none⟩ (.slice av' (j + 1) cv')).cell? ⟨L, 0, none⟩ = some (.pointer q) ∧ (w3.setCell ⟨bk, 1, none⟩ (.slice av' (j + 1) cv')).cell? ⟨L, 1, none⟩ = some (.int .i64 ns) ∧ (w3.setCell ⟨bk, 1, none⟩ (.slice av' (j + 1) cv')).cell? ⟨L, 2, none⟩ = some (.int .i64 nof)) := ⟨t3.cell 0, t3.cell 1, t3.cell 2⟩
      refine hK.out _ _ ⟨t2.cell 0, t2.cell 1, t2.cell 2⟩ (fun hS4 => ?_)
      clear hK K hown' hgrow t1 t2 t3
      refine wpAnyH_take (i := 8) (v := ?_) rfl (by kernel_rfl) (by kernel_rfl) (by kernel_rfl) (fun _ _ _ h => h) (Or.inl ⟨by kernel_rfl, ?_⟩) hS4 ?_
      rotate_left
      ·intro w' hw'; obtain ⟨x0, x1, x2⟩ := hw'; go_simp; with_reducible rfl
      refine wpAnyH_take (i := 9) (v := ?_) rfl (by kernel_rfl) (by kernel_rfl) (by kernel_rfl) (fun _ _ _ h => h) (Or.inl ⟨by kernel_rfl, ?_⟩) hS4 ?_
      rotate_left
      ·intro w' hw'; obtain ⟨x0, x1, x2⟩ := hw'; go_simp; with_reducible rfl
      refine wpAnyH_ready (rs := [10]) (by kernel_rfl) (by simp) ?_
      refine AllReadyH.cons rfl (fun K hK => ?_) AllReadyH.nil
      go_simp
      refine hK.out _ _ T3.out (fun hS5 => ?_)
      clear hK K
      refine wpAnyH_done (by kernel_rfl) ?_ _
      try simp only [put_mk, List.getElem_toArray, List.getElem_cons_succ, List.getElem_cons_zero, List.setIfInBounds_toArray, List.set_cons_succ, List.set_cons_zero]
      clear hA hN hOne h63 hby hbs m1 n1 t4 t5 hS4 hS5 hS STEP SA T3
      go_wp2
      go_roundw
      case rel => exact ⟨j + 1, _, by omega, by go_num, by rw [TK2.out]; exact T1.out⟩
      case measure => simp [intOf]; omega
    ·obtain rfl : j = ys.length := by omega
     have g3 : decide ((ys.length : Int) < (ys.length : Int)) = false := by simp
     have PA := hid (PK.out ((ys.take ys.length).map (Ln.meaning os k)) _ wr (by rw [LJ]; exact HM.out))
     have PBR := hid (PB.out wr HM.out.gr)
     rw [List.take_length, FIN.out] at PA
     clear pc3 pmi LJ
     go_wp2
     go_roundw
     case rel => exact ⟨k + 1, by omega, by go_num, PA.out, PBR.out⟩
     case measure => simp [intOf]; omega
  ·obtain rfl : k = bl.length := by omega
   have g3 : decide ((bl.length : Int) < (bl.length : Int)) = false := by simp
   have hR := HB.out.lt
   have OBR := hid (show (Ln.resAll os (os.map Ln.bare)).map Ln.Mod.obj = os by
    have B := OB.out os.length (Nat.le_refl _)
    rwa [List.drop_of_length_le (by simp), List.append_nil, List.take_of_length_le (by rw [RL.out, List.length_map]; exact Nat.le_refl _)] at B)
   obtain ⟨PM, PM3⟩ : ProgF Wf W0 P bt bf bd (.slice am bl.length cm) bl gl (Ln.resAll os (os.map Ln.bare)) Ln.none_ 0 wr ∧ ModsIn wr am bl os := by
    have A := HP.out
    have B := A.modsIn
    rw [OB.out bl.length (by rw [LO.out]; exact Nat.le_refl _)] at B
    rw [List.drop_of_length_le (by simp [LO.out]), List.append_nil, List.take_of_length_le (by rw [RL.out, List.length_map, LO.out]; exact Nat.le_refl _)] at A
    exact ⟨A, B⟩
   have HPM := hid PM
   have HMI := hid PM3
   have hcap := own_cap PM.row
   clear PM PM3 HP RL OB
   have cN := hid (lNamed_any P am cm bl os Ln.startN wr (HPM.out.blk.cell 3) HMI.out)
   have e0 : bs Ln.startN = ⟨#[95, 115, 116, 97, 114, 116]⟩ := rfl
   rw [e0] at cN
   unfold spotA at cN
   go_wp2_with fail
   refine cN.out.mono ?_
   rintro e W5 ⟨rfl, h5⟩
   have P5 := hid (HPM.out.kept h5)
   have B5 := hid (HB.out.grown h5 (by simp))
   clear h5 cN HPM HB HMI
   have PV := hid (P5.out.spot (st' := Ln.named os Ln.startN))
   have BV := hid (show BlkAt (((W5.setCell ⟨P, 4, none⟩ (.pointer (ptrOf bl (Ln.named os Ln.startN).mod))).setCell ⟨P, 5, none⟩ (.int .i64 (Ln.named os Ln.startN).sect)).setCell ⟨P, 6, none⟩ (.int .i64 (Ln.named os Ln.startN).off)) R #[.int .i64 0, .int .i64 0, .string ⟨#[]⟩] 45 from
    blk_ty B5.out (World.grownBy.trans (World.grownBy.trans (grown_set W5 P 4 _) (grown_set _ P 5 _)) (grown_set _ P 6 _)) (RowT.blk P5.out.blk) (by decide))
   have p4 : W5.cell? ⟨P, 4, none⟩ = some (.pointer (ptrOf bl Ln.none_.mod)) := P5.out.blk.cell 4
   have p5 : W5.cell? ⟨P, 5, none⟩ = some (.int .i64 0) := P5.out.blk.cell 5
   have p6 : W5.cell? ⟨P, 6, none⟩ = some (.int .i64 0) := P5.out.blk.cell 6
   have f4 := P5.out.blk.free 4
   have f5 := P5.out.blk.free 5
   have f6 := P5.out.blk.free 6
   have cT := hid (fun V (hV : ProgF Wf W0 P bt bf bd (.slice am bl.length cm) bl gl (Ln.resAll os (os.map Ln.bare)) (Ln.named os Ln.startN) 0 V) => checkTwice_any P am cm bl os V (hV.blk.cell 3) (by have := hV.modsIn; rwa [OBR.out] at this) hcap.1 hcap.2)
   have cW := hid (fun V (hV : ProgF Wf W0 P bt bf bd (.slice am bl.length cm) bl gl (Ln.resAll os (os.map Ln.bare)) (Ln.named os Ln.startN) 0 V) => checkWanted_any P am cm bl os V (hV.blk.cell 3) (by have := hV.modsIn; rwa [OBR.out] at this))
   generalize ht : Ln.checkTwice os = t at *
   generalize hu : Ln.checkWanted os = u at *
   generalize hNN : Ln.named os Ln.startN = N at *
   have HTE := hid ht
   have HUE := hid hu
   have HNE := hid hNN
   clear ht hu hNN
   obtain ⟨nm, ns, nof⟩ := N
   dsimp only at *
   generalize hq : ptrOf bl nm = q at *
   have HQ := hid hq
   clear hq P5 B5
   unfold lfA at cT cW
   go_wp2_with fail
   refine (cT.out _ (by exact PV.out)).mono ?_
   rintro e V2 ⟨rfl, h2⟩
   have P2 := hid (PV.out.kept h2)
   have B2 := hid (BV.out.grown h2 (by simp))
   clear h2 cT PV BV p4 p5 p6 f4 f5 f6
   have AF := World.grownBy_alloc V2 (.cells #[.int .i64 t.e, .int .i64 t.at_, .string (bs t.name)] 45) none
   have BL := hid (BlkAt.new V2 #[.int .i64 t.e, .int .i64 t.at_, .string (bs t.name)] 45)
   have P3 := hid (P2.out.kept AF)
   have B3 := hid (B2.out.grown AF (by simp))
   have hRL : R ≠ V2.heap.size := by have := B2.out.lt; omega
   clear AF
   have z0 : V2.cell? ⟨R, 0, none⟩ = some (.int .i64 0) := B2.out.cell 0
   have z1 : V2.cell? ⟨R, 1, none⟩ = some (.int .i64 0) := B2.out.cell 1
   have z2 : V2.cell? ⟨R, 2, none⟩ = some (.string ⟨#[]⟩) := B2.out.cell 2
   have f0 := B2.out.free 0
   have f1 := B2.out.free 1
   have f2 := B2.out.free 2
   have hRV := B2.out.lt
   have HFL := hid P2.out.sz
   by_cases he : t.e = 0
   case neg =>
    have d1 : (t.e == 0) = false := by simpa using he
    have E := hid (show Ln.resolveFlt os = t by unfold Ln.resolveFlt; rw [HTE.out, if_pos he])
    go_wp2
    have AX := World.grownBy_alloc (((V2.setCell ⟨R, 0, none⟩ (.int .i64 t.e)).setCell ⟨R, 1, none⟩ (.int .i64 t.at_)).setCell ⟨R, 2, none⟩ (.string (bs t.name))) (.cells #[.int .i64 t.e, .int .i64 t.at_, .string (bs t.name)] 45) none
    have F := (((B2.out.set 0 (.int .i64 t.e)).set 1 (.int .i64 t.at_)).set 2 (.string (bs t.name))).grown AX (by simp)
    have GF := (P2.out.flt B2.out HRW.out (.int .i64 t.e) (.int .i64 t.at_) (.string (bs t.name))).kept AX
    have h0 := F.cell 0
    have h1 := F.cell 1
    have h2 := F.cell 2
    simp only [List.setIfInBounds_toArray, List.set_cons_succ, List.set_cons_zero, List.getElem?_toArray, List.getElem?_cons_succ, List.getElem?_cons_zero] at h0 h1 h2
    refine bodyPost_ret (v := lfA t) ?_ rfl ⟨by rw [E.out], by rw [HNE.out]; exact GF⟩
    clear F GF z0 z1 z2 f0 f1 f2 AX
    generalize World.alloc _ _ = WF at *
    simp [results, Tryz.results42, go_sem, lfA, h0, h1, h2]
   case pos =>
    have d1 : (t.e == 0) = true := by simpa using he
    have HE := hid he
    clear he z0 z1 z2 f0 f1 f2
    go_wp2_with fail
    refine (cW.out _ P3.out).mono ?_
    rintro e V4 ⟨rfl, h4⟩
    have P4 := hid (P3.out.kept h4)
    have B4 := hid (B3.out.grown h4 (by simp))
    have L4 := hid (BL.out.grown h4 (by simp))
    clear h4 cW P3 P2 B3 B2 BL
    generalize V2.heap.size = FL at *
    have z0 : V4.cell? ⟨R, 0, none⟩ = some (.int .i64 0) := B4.out.cell 0
    have z1 : V4.cell? ⟨R, 1, none⟩ = some (.int .i64 0) := B4.out.cell 1
    have z2 : V4.cell? ⟨R, 2, none⟩ = some (.string ⟨#[]⟩) := B4.out.cell 2
    have f0 := B4.out.free 0
    have f1 := B4.out.free 1
    have f2 := B4.out.free 2
    have y0 : V4.cell? ⟨FL, 0, none⟩ = some (.int .i64 t.e) := L4.out.cell 0
    have y1 : V4.cell? ⟨FL, 1, none⟩ = some (.int .i64 t.at_) := L4.out.cell 1
    have y2 : V4.cell? ⟨FL, 2, none⟩ = some (.string (bs t.name)) := L4.out.cell 2
    have e0 := L4.out.free 0
    have e1 := L4.out.free 1
    have e2 := L4.out.free 2
    have p5 : V4.cell? ⟨P, 5, none⟩ = some (.int .i64 ns) := P4.out.blk.cell 5
    have hPF : P ≠ FL := fun c => by
     have := L4.out
     rw [← c] at this
     have := this.symm.trans P4.out.blk
     simp at this
    have p7 := (P4.out).flt (L4.out) HFL.out (.int .i64 u.e) (.int .i64 u.at_) (.string (bs u.name))
    have b7 := flt_other (B4.out) hRL (.int .i64 u.e) (.int .i64 u.at_) (.string (bs u.name))
    have l7 : BlkAt (((V4.setCell ⟨FL, 0, none⟩ (.int .i64 u.e)).setCell ⟨FL, 1, none⟩ (.int .i64 u.at_)).setCell ⟨FL, 2, none⟩ (.string (bs u.name))) FL #[.int .i64 u.e, .int .i64 u.at_, .string (bs u.name)] 45 := by simpa using ((L4.out.set 0 (.int .i64 u.e)).set 1 (.int .i64 u.at_)).set 2 (.string (bs u.name))
    have P7 := hid p7
    have B7 := hid b7
    have L7 := hid l7
    clear p7 b7 l7 P4 B4 L4
    go_upto_region 15 with fail
    clear p5 y0 y1 y2 z0 z1 z2 e0 e1 e2 f0 f1 f2
    generalize ((V4.setCell ⟨FL, 0, none⟩ (.int .i64 u.e)).setCell ⟨FL, 1, none⟩ (.int .i64 u.at_)).setCell ⟨FL, 2, none⟩ (.string (bs u.name)) = V5 at *
    have z0 : V5.cell? ⟨R, 0, none⟩ = some (.int .i64 0) := B7.out.cell 0
    have z1 : V5.cell? ⟨R, 1, none⟩ = some (.int .i64 0) := B7.out.cell 1
    have z2 : V5.cell? ⟨R, 2, none⟩ = some (.string ⟨#[]⟩) := B7.out.cell 2
    have f0 := B7.out.free 0
    have f1 := B7.out.free 1
    have f2 := B7.out.free 2
    have y0 : V5.cell? ⟨FL, 0, none⟩ = some (.int .i64 u.e) := L7.out.cell 0
    have y1 : V5.cell? ⟨FL, 1, none⟩ = some (.int .i64 u.at_) := L7.out.cell 1
    have y2 : V5.cell? ⟨FL, 2, none⟩ = some (.string (bs u.name)) := L7.out.cell 2
    have p5 : V5.cell? ⟨P, 5, none⟩ = some (.int .i64 ns) := P7.out.blk.cell 5
    by_cases hue : u.e = 0
    case neg =>
     have d2 : (u.e == 0) = false := by simpa using hue
     have E := hid (show Ln.resolveFlt os = u by unfold Ln.resolveFlt; rw [HTE.out, HUE.out, if_neg (by simpa using HE.out), if_pos hue])
     clear hue
     go_wp2
     have GF := P7.out.flt B7.out HRW.out (.int .i64 u.e) (.int .i64 u.at_) (.string (bs u.name))
     have F := ((B7.out.set 0 (.int .i64 u.e)).set 1 (.int .i64 u.at_)).set 2 (.string (bs u.name))
     have h0 := F.cell 0
     have h1 := F.cell 1
     have h2 := F.cell 2
     simp only [List.setIfInBounds_toArray, List.set_cons_succ, List.set_cons_zero, List.getElem?_toArray, List.getElem?_cons_succ, List.getElem?_cons_zero] at h0 h1 h2
     refine bodyPost_ret (v := lfA u) ?_ rfl ⟨by rw [E.out], by rw [HNE.out]; exact GF⟩
     clear F GF z0 z1 z2 f0 f1 f2 y0 y1 y2
     generalize World.setCell _ _ _ = WF at *
     simp [results, Tryz.results42, go_sem, lfA, h0, h1, h2]
    case pos =>
     have d2 : (u.e == 0) = true := by simpa using hue
     have HU := hid hue
     clear hue
     by_cases n1 : ns = 1
     ·subst n1
      have E := hid (show Ln.resolveFlt os = u by unfold Ln.resolveFlt; rw [HTE.out, HUE.out, HNE.out, if_neg (by simpa using HE.out), if_neg (by simpa using HU.out), if_neg (by simp)])
      go_wp2
      have GF := P7.out.flt B7.out HRW.out (.int .i64 u.e) (.int .i64 u.at_) (.string (bs u.name))
      have F := ((B7.out.set 0 (.int .i64 u.e)).set 1 (.int .i64 u.at_)).set 2 (.string (bs u.name))
      have h0 := F.cell 0
      have h1 := F.cell 1
      have h2 := F.cell 2
      simp only [List.setIfInBounds_toArray, List.set_cons_succ, List.set_cons_zero, List.getElem?_toArray, List.getElem?_cons_succ, List.getElem?_cons_zero] at h0 h1 h2
      refine bodyPost_ret (v := lfA u) ?_ rfl ⟨by rw [E.out], by rw [HNE.out]; exact GF⟩
      clear F GF z0 z1 z2 f0 f1 f2 y0 y1 y2
      generalize World.setCell _ _ _ = WF at *
      simp [results, Tryz.results42, go_sem, lfA, h0, h1, h2]
     by_cases n2 : ns = 2
     ·subst n2
      have E := hid (show Ln.resolveFlt os = u by unfold Ln.resolveFlt; rw [HTE.out, HUE.out, HNE.out, if_neg (by simpa using HE.out), if_neg (by simpa using HU.out), if_neg (by simp)])
      go_wp2
      have GF := P7.out.flt B7.out HRW.out (.int .i64 u.e) (.int .i64 u.at_) (.string (bs u.name))
      have F := ((B7.out.set 0 (.int .i64 u.e)).set 1 (.int .i64 u.at_)).set 2 (.string (bs u.name))
      have h0 := F.cell 0
      have h1 := F.cell 1
      have h2 := F.cell 2
      simp only [List.setIfInBounds_toArray, List.set_cons_succ, List.set_cons_zero, List.getElem?_toArray, List.getElem?_cons_succ, List.getElem?_cons_zero] at h0 h1 h2
      refine bodyPost_ret (v := lfA u) ?_ rfl ⟨by rw [E.out], by rw [HNE.out]; exact GF⟩
      clear F GF z0 z1 z2 f0 f1 f2 y0 y1 y2
      generalize World.setCell _ _ _ = WF at *
      simp [results, Tryz.results42, go_sem, lfA, h0, h1, h2]
     have d3 : (ns == 1) = false := by simpa using n1
     have d4 : (ns == 2) = false := by simpa using n2
     have d5 : (ns != 1) = true := by simpa using n1
     have d6 : (ns != 2) = true := by simpa using n2
     have E := hid (show Ln.resolveFlt os = ⟨35, 0, []⟩ by unfold Ln.resolveFlt; rw [HTE.out, HUE.out, HNE.out, if_neg (by simpa using HE.out), if_neg (by simpa using HU.out), if_pos ⟨n1, n2⟩])
     have p8 := P7.out.flt L7.out HFL.out (.int .i64 35) (.int .i64 0) (.string ⟨#[]⟩)
     have b8 := flt_other B7.out hRL (.int .i64 35) (.int .i64 0) (.string ⟨#[]⟩)
     have l8 : BlkAt (((V5.setCell ⟨FL, 0, none⟩ (.int .i64 35)).setCell ⟨FL, 1, none⟩ (.int .i64 0)).setCell ⟨FL, 2, none⟩ (.string ⟨#[]⟩)) FL #[.int .i64 35, .int .i64 0, .string ⟨#[]⟩] 45 := by simpa using ((L7.out.set 0 (.int .i64 35)).set 1 (.int .i64 0)).set 2 (.string ⟨#[]⟩)
     have e0 := L7.out.free 0
     have e1 := L7.out.free 1
     have e2 := L7.out.free 2
     have P8 := hid p8
     have B8 := hid b8
     have L8 := hid l8
     clear n1 n2 p8 b8 l8
     go_upto_region 17 with fail
     clear p5 y0 y1 y2 z0 z1 z2 e0 e1 e2 f0 f1 f2
     generalize ((V5.setCell ⟨FL, 0, none⟩ (.int .i64 35)).setCell ⟨FL, 1, none⟩ (.int .i64 0)).setCell ⟨FL, 2, none⟩ (.string ⟨#[]⟩) = V6 at *
     have z0 : V6.cell? ⟨R, 0, none⟩ = some (.int .i64 0) := B8.out.cell 0
     have z1 : V6.cell? ⟨R, 1, none⟩ = some (.int .i64 0) := B8.out.cell 1
     have z2 : V6.cell? ⟨R, 2, none⟩ = some (.string ⟨#[]⟩) := B8.out.cell 2
     have f0 := B8.out.free 0
     have f1 := B8.out.free 1
     have f2 := B8.out.free 2
     have y0 : V6.cell? ⟨FL, 0, none⟩ = some (.int .i64 35) := L8.out.cell 0
     have y1 : V6.cell? ⟨FL, 1, none⟩ = some (.int .i64 0) := L8.out.cell 1
     have y2 : V6.cell? ⟨FL, 2, none⟩ = some (.string ⟨#[]⟩) := L8.out.cell 2
     go_wp2
     have GF := P8.out.flt B8.out HRW.out (.int .i64 35) (.int .i64 0) (.string ⟨#[]⟩)
     have F := ((B8.out.set 0 (.int .i64 35)).set 1 (.int .i64 0)).set 2 (.string ⟨#[]⟩)
     have h0 := F.cell 0
     have h1 := F.cell 1
     have h2 := F.cell 2
     simp only [List.setIfInBounds_toArray, List.set_cons_succ, List.set_cons_zero, List.getElem?_toArray, List.getElem?_cons_succ, List.getElem?_cons_zero] at h0 h1 h2
     refine bodyPost_ret (v := lfA ⟨35, 0, []⟩) ?_ rfl ⟨by rw [E.out], by rw [HNE.out]; exact GF⟩
     clear F GF z0 z1 z2 f0 f1 f2 y0 y1 y2
     generalize World.setCell _ _ _ = WF at *
     simp [results, Tryz.results42, go_sem, lfA, bs, h0, h1, h2]

end Go.Proofs.YtnfgdlkiialnnaaGreatDoor

namespace Go.Proofs.YtnfgdlkiialnnaaGreatDoor
open Go.RowKit

set_option maxRecDepth 100000 in
set_option maxHeartbeats 2000000 in
theorem roundUp_any (a b : Int) (w : World) (h0 : 0 ≤ a) (h1 : a ≤ 1125899906842624) (h2 : 1 ≤ b) (h3 : b ≤ 16) :
  Calls Tryz.prog 94 #[.int .i64 a, .int .i64 b] w fun e w' => e = .returned (.int .i64 (Ln.rup a b)) ∧ w' = w := by
 go_enter Tryz.func94, Tryz.ntmps94
 go_wp2
 go_ret
 exact ⟨rfl, rfl⟩

set_option maxRecDepth 100000 in
set_option maxHeartbeats 2000000 in
theorem placeOf_any (ao : Option Addr) (cap : Nat) (ps : List Int) (off : Int) (w : World) (h : IntsIn w ao ps) (hl : ps.length ≤ 65536) (h0 : 0 ≤ off) (h1 : off ≤ 1125899906842624) :
  Calls Tryz.prog 136 #[.slice ao ps.length cap, .int .i64 off] w fun e w' => e = .returned (.int .i64 (Ln.placeOf ps off)) ∧ w' = w := by
 obtain ⟨k, hk⟩ : ∃ k : Nat, Int.tdiv off 4 = (k : Int) := ⟨(Int.tdiv off 4).toNat, by rw [Int.tdiv_eq_ediv_of_nonneg h0]; omega⟩
 have hkb : (k : Int) ≤ 1125899906842624 := by rw [← hk, Int.tdiv_eq_ediv_of_nonneg h0]; omega
 have R := hid (show Ln.placeOf ps off = ps.getD k 0 by unfold Ln.placeOf; rw [hk, if_neg (by omega)]; rfl)
 have d1 : decide ((k : Int) < 0) = false := by simp
 by_cases hlt : k < ps.length
 ·obtain ⟨sg, o2, rfl, hc⟩ := h (by omega)
  have ck := hc k hlt
  have d2 : decide ((ps.length : Int) ≤ (k : Int)) = false := by simp; omega
  have E := hid (show Ln.placeOf ps off = ps[k] by rw [R.out, List.getD_eq_getElem?_getD, List.getElem?_eq_getElem hlt]; rfl)
  generalize ps[k] = x at *
  clear hc
  go_enter Tryz.func136, Tryz.ntmps136
  go_wp2
  go_ret
  exact ⟨by rw [E.out]; rfl, rfl⟩
 ·have d2 : decide ((ps.length : Int) ≤ (k : Int)) = true := by simp; omega
  have E := hid (show Ln.placeOf ps off = 0 by rw [R.out, List.getD_eq_getElem?_getD, List.getElem?_eq_none (by omega)]; rfl)
  clear h
  go_enter Tryz.func136, Tryz.ntmps136
  go_wp2
  go_ret
  exact ⟨by rw [E.out]; rfl, rfl⟩

set_option maxRecDepth 100000 in
set_option maxHeartbeats 2000000 in
theorem isShort_any (bl : List Nat) (b g : Nat) (m : Ln.Mod) (i : Int) (w : World) (h : ModAt w bl b g m) (h0 : 0 ≤ i) (h1 : i ≤ 65535) (hl : m.short.length ≤ 65535) :
  Calls Tryz.prog 139 #[ptrV b, .int .i64 i] w fun e w' => e = .returned (.bool (Ln.isShort m.short i)) ∧ w' = w := by
 obtain ⟨v1, v2, v3, v4, q0, q1, q2, q3, q4, q5, q6, q7⟩ := h
 obtain ⟨as_, cs, rfl⟩ := own_form q3
 have k2 : w.cell? ⟨b, 2, none⟩ = some (.slice as_ m.short.length cs) := q0.cell 2
 unfold ptrV
 obtain ⟨k, rfl⟩ : ∃ k : Nat, i = (k : Int) := ⟨i.toNat, by omega⟩
 have R := hid (show Ln.isShort m.short k = m.short.getD k false by unfold Ln.isShort; simp)
 have d1 : decide ((0 : Int) ≤ (k : Int)) = true := by simp
 by_cases hlt : k < m.short.length
 ·obtain ⟨sg, rfl, -, -, -, hc⟩ := own_some q3 (by omega)
  have ck := hc k hlt
  rw [List.getElem?_map, List.getElem?_eq_getElem hlt] at ck
  have E := hid (show Ln.isShort m.short k = m.short[k] by rw [R.out, List.getD_eq_getElem?_getD, List.getElem?_eq_getElem hlt]; rfl)
  dsimp only [Option.map] at ck
  generalize m.short[k] = x at *
  have d2 : decide ((k : Int) < (m.short.length : Int)) = true := by simp; omega
  clear hc q0 q1 q2 q3 q4 q5 q6 q7
  go_enter Tryz.func139, Tryz.ntmps139
  go_wp2
  go_ret
  exact ⟨by rw [E.out]; rfl, rfl⟩
 ·have d2 : decide ((k : Int) < (m.short.length : Int)) = false := by simp; omega
  have E := hid (show Ln.isShort m.short k = false by rw [R.out, List.getD_eq_getElem?_getD, List.getElem?_eq_none (by omega)]; rfl)
  clear q0 q1 q2 q3 q4 q5 q6 q7
  go_enter Tryz.func139, Tryz.ntmps139
  go_wp2
  go_ret
  exact ⟨by rw [E.out]; rfl, rfl⟩

theorem relocAt_drop (sect off : Int) (rs : List Lk.Rel) (k : Nat) (h : k < rs.length) : Ln.relocAt sect off k (rs.drop k) = if rs[k].sect = sect ∧ rs[k].off ≤ off ∧ off < rs[k].off + 4 * spanI rs[k] then ((k : Int), rs[k]) else Ln.relocAt sect off (k + 1) (rs.drop (k + 1)) := by
 rw [List.drop_eq_getElem_cons h]
 rfl

theorem sets5_grown {w V : World} (h : w.grownBy V none) (r : Nat) (hr : w.heap.size ≤ r) (a b c d e : Value) : w.grownBy (((((V.setCell ⟨r, 0, none⟩ a).setCell ⟨r, 1, none⟩ b).setCell ⟨r, 2, none⟩ c).setCell ⟨r, 3, none⟩ d).setCell ⟨r, 4, none⟩ e) none :=
 grown_hi (grown_hi (sets3_grown h r hr a b c) (grown_set _ r 3 d) (by intro k q; simp at q; omega)) (grown_set _ r 4 e) (by intro k q; simp at q; omega)

/-- what relocations are such that nothing wraps -/
def RelTame (r : Lk.Rel) : Prop := AddendOk r ∧ -1125899906842624 ≤ r.off ∧ r.off ≤ 1125899906842624

set_option maxRecDepth 100000 in
set_option maxHeartbeats 4000000 in
theorem relocAt_any (bl : List Nat) (b g : Nat) (m : Ln.Mod) (sect off : Int) (w : World) (h : ModAt w bl b g m) (hr : ∀ r ∈ m.obj.rels, RelTame r) (hl : m.obj.rels.length ≤ 65535) :
  Calls Tryz.prog 137 #[ptrV b, .int .i64 sect, .int .i64 off] w fun e w' => e = .returned (.tuple #[.int .i64 (Ln.relocAt sect off 0 m.obj.rels).1, relA (Ln.relocAt sect off 0 m.obj.rels).2]) ∧ w.grownBy w' none := by
 have A0 := World.grownBy_alloc w (.cells #[.int .i64 0, .int .i64 0, .int .i64 0, .int .i64 0, .int .i64 0] 139) none
 have BR := hid (BlkAt.new w #[.int .i64 0, .int .i64 0, .int .i64 0, .int .i64 0, .int .i64 0] 139)
 have G0 := hid A0
 obtain ⟨v1, v2, v3, v4, q0, q1, -⟩ := h.kept A0
 obtain ⟨at_, ct, af, cf, ad, cd, aa, ca, as_, cs, ar, cr, hb, -, -, -, -, -, p6⟩ := q1.open
 have k6 := hb.cell 6
 simp only [List.getElem?_toArray, List.getElem?_cons_succ, List.getElem?_cons_zero] at k6
 have k0 := q0.cell 0
 simp only [List.getElem?_toArray, List.getElem?_cons_zero, ptrV] at k0
 have S := hid (RelsIn.of_own p6)
 have cS := hid (fun r W (h : RelTame r) => span_any r W h.1.six)
 unfold relA at cS
 clear q0 q1 hb p6 A0 h
 have HR := hid hr
 have FD := hid (show Ln.relocAt sect off 0 m.obj.rels = Ln.relocAt sect off 0 (m.obj.rels.drop 0) from rfl)
 generalize hN : Ln.relocAt sect off 0 m.obj.rels = N at *
 have HN := hid hN
 clear hN hr
 generalize m.obj.rels = rs at *
 unfold ptrV
 go_enter Tryz.func137, Tryz.ntmps137
 go_wp2
 generalize w.alloc (.cells #[.int .i64 0, .int .i64 0, .int .i64 0, .int .i64 0, .int .i64 0] 139) = W1 at *
 clear k0 k6
 go_loopw [18] (fun i wr => ∃ k : Nat, k ≤ rs.length ∧ i = .int .i64 k ∧ N = Ln.relocAt sect off k (rs.drop k) ∧ W1.grownBy wr none) (fun i _ => rs.length - (intOf i).toNat)
 case atStart => exact ⟨0, Nat.zero_le _, rfl, FD.out, World.grownBy.refl _ _⟩
 case round =>
  obtain ⟨k, hk, rfl, hfd, hgr⟩ := hrel
  have HF := hid hfd
  have HG := hid hgr
  clear hfd hgr FD
  by_cases hlt : k < rs.length
  ·obtain ⟨sg, hsg, hgs, hcs⟩ := S.out.grown HG.out (by omega)
   subst hsg
   obtain ⟨q0, q1, q2, q3, q4⟩ := hcs k hlt
   clear hcs
   have g1 : (k : Int) < (rs.length : Int) := by omega
   have TM := HR.out _ (List.getElem_mem hlt)
   have FI := hid (HF.out.trans (relocAt_drop sect off rs k hlt))
   have cY := hid (fun W => cS.out rs[k] W TM)
   have hof := TM.2
   have hsp := span_range TM.1
   generalize spanI rs[k] = sp at *
   generalize rs[k] = r at *
   clear TM
   have A2 := World.grownBy_alloc wr (.cells #[.int .i64 r.sect, .int .i64 r.off, .int .i64 r.kind, .int .i64 r.sym, .int .i64 r.addend] 139) none
   have G2 := hid (grown_trans HG.out A2)
   have BL := hid (BlkAt.new wr #[.int .i64 r.sect, .int .i64 r.off, .int .i64 r.kind, .int .i64 r.sym, .int .i64 r.addend] 139)
   have BR2 := hid (BR.out.grown G2.out (by simp))
   clear A2
   go_upto_region 4 with fail
   clear q0 q1 q2 q3 q4
   generalize wr.alloc (.cells #[.int .i64 r.sect, .int .i64 r.off, .int .i64 r.kind, .int .i64 r.sym, .int .i64 r.addend] 139) = W2 at *
   have HRL : w.heap.size ≠ wr.heap.size := by have := BR.out.lt; have := HG.out.size; omega
   generalize wr.heap.size = L at *
   have c0 : W2.cell? ⟨L, 0, none⟩ = some (.int .i64 r.sect) := BL.out.cell 0
   have c1 : W2.cell? ⟨L, 1, none⟩ = some (.int .i64 r.off) := BL.out.cell 1
   have c2 : W2.cell? ⟨L, 2, none⟩ = some (.int .i64 r.kind) := BL.out.cell 2
   have c3 : W2.cell? ⟨L, 3, none⟩ = some (.int .i64 r.sym) := BL.out.cell 3
   have c4 : W2.cell? ⟨L, 4, none⟩ = some (.int .i64 r.addend) := BL.out.cell 4
   have BD := hid (fun W (hq : W2.drew.grownBy W none) => show BlkAt W L #[.int .i64 r.sect, .int .i64 r.off, .int .i64 r.kind, .int .i64 r.sym, .int .i64 r.addend] 139 from (blk_drew BL.out).grown hq (by simp))
   by_cases e1 : r.sect = sect
   ·have d1 : (r.sect == sect) = true := by simpa using e1
    by_cases e2 : r.off ≤ off
    ·have d2 : decide (r.off ≤ off) = true := by simpa using e2
     have E12 := hid (And.intro e1 e2)
     have w1 : IntKind.i64.wrap (4 * sp) = 4 * sp := IntWalk.i64_in _ ⟨by omega, by omega⟩
     have w2 : IntKind.i64.wrap (r.off + 4 * sp) = r.off + 4 * sp := IntWalk.i64_in _ ⟨by omega, by omega⟩
     clear e1 e2
     go_region_held3 (fun w' => w'.cell? ⟨L, 0, none⟩ = some (.int .i64 r.sect) ∧ w'.cell? ⟨L, 1, none⟩ = some (.int .i64 r.off) ∧ w'.cell? ⟨L, 2, none⟩ = some (.int .i64 r.kind) ∧ w'.cell? ⟨L, 3, none⟩ = some (.int .i64 r.sym) ∧ w'.cell? ⟨L, 4, none⟩ = some (.int .i64 r.addend))
      (go_keep)
      (first | (go_at_call 193; refine (cY.out _).mono ?_; rintro e w' ⟨rfl, hq⟩; have bq := BD.out _ hq; have s0 := bq.cell 0; have s1 := bq.cell 1; have s2 := bq.cell 2; have s3 := bq.cell 3; have s4 := bq.cell 4; simp only [List.getElem?_toArray, List.getElem?_cons_succ, List.getElem?_cons_zero] at s0 s1 s2 s3 s4))
     have GQ := hid (grown_trans (grown_drew G2.out) hq)
     have BQ := hid ((blk_drew BR2.out).grown hq (by simp))
     have LQ := hid bq
     clear hq bq c0 c1 c2 c3 c4
     by_cases e3 : off < r.off + 4 * sp
     ·have d3 : decide (off < r.off + 4 * sp) = true := by simpa using e3
      have E := hid (show N = ((k : Int), r) by rw [FI.out, if_pos ⟨E12.out.1, E12.out.2, e3⟩])
      have z0 : w'.cell? ⟨w.heap.size, 0, none⟩ = some (.int .i64 0) := BQ.out.cell 0
      have z1 : w'.cell? ⟨w.heap.size, 1, none⟩ = some (.int .i64 0) := BQ.out.cell 1
      have z2 : w'.cell? ⟨w.heap.size, 2, none⟩ = some (.int .i64 0) := BQ.out.cell 2
      have z3 : w'.cell? ⟨w.heap.size, 3, none⟩ = some (.int .i64 0) := BQ.out.cell 3
      have z4 : w'.cell? ⟨w.heap.size, 4, none⟩ = some (.int .i64 0) := BQ.out.cell 4
      have f0 := BQ.out.free 0
      have f1 := BQ.out.free 1
      have f2 := BQ.out.free 2
      have f3 := BQ.out.free 3
      have f4 := BQ.out.free 4
      go_wp2
      go_region_held3 (fun w' => w'.cell? ⟨L, 0, none⟩ = some (.int .i64 r.sect) ∧ w'.cell? ⟨L, 1, none⟩ = some (.int .i64 r.off) ∧ w'.cell? ⟨L, 2, none⟩ = some (.int .i64 r.kind) ∧ w'.cell? ⟨L, 3, none⟩ = some (.int .i64 r.sym) ∧ w'.cell? ⟨L, 4, none⟩ = some (.int .i64 r.addend))
       (go_keep)
       (fail)
      go_wp2
      have F := blk_drew (((((BQ.out.set 0 (.int .i64 r.sect)).set 1 (.int .i64 r.off)).set 2 (.int .i64 r.kind)).set 3 (.int .i64 r.sym)).set 4 (.int .i64 r.addend))
      have h0 := F.cell 0
      have h1 := F.cell 1
      have h2 := F.cell 2
      have h3 := F.cell 3
      have h4 := F.cell 4
      simp only [List.setIfInBounds_toArray, List.set_cons_succ, List.set_cons_zero, List.getElem?_toArray, List.getElem?_cons_succ, List.getElem?_cons_zero] at h0 h1 h2 h3 h4
      refine bodyPost_ret (v := .tuple #[.int .i64 k, relA r]) ?_ rfl ⟨by rw [E.out], grown_drew (sets5_grown (grown_trans G0.out GQ.out) _ (Nat.le_refl _) _ _ _ _ _)⟩
      clear F z0 z1 z2 z3 z4 f0 f1 f2 f3 f4 s0 s1 s2 s3 s4
      generalize World.drew _ = WF at *
      simp [results, Tryz.results137, go_sem, relA, h0, h1, h2, h3, h4]
     ·have d3 : decide (off < r.off + 4 * sp) = false := by simpa using e3
      have E := hid (show N = Ln.relocAt sect off (k + 1) (rs.drop (k + 1)) by rw [FI.out, if_neg (fun c => e3 c.2.2)])
      go_wp2
      go_roundw
      case rel => exact ⟨k + 1, by omega, by go_num, E.out, GQ.out⟩
      case measure => simp [intOf]; omega
    ·have d2 : decide (r.off ≤ off) = false := by simpa using e2
     have E := hid (show N = Ln.relocAt sect off (k + 1) (rs.drop (k + 1)) by rw [FI.out, if_neg (fun c => e2 c.2.1)])
     clear e2 e1
     go_quiet (fail)
     go_wp2
     go_roundw
     case rel => exact ⟨k + 1, by omega, by go_num, E.out, grown_drewN G2.out _⟩
     case measure => simp [intOf]; omega
   ·have d1 : (r.sect == sect) = false := by simpa using e1
    have E := hid (show N = Ln.relocAt sect off (k + 1) (rs.drop (k + 1)) by rw [FI.out, if_neg (fun c => e1 c.1)])
    clear e1
    go_quiet (fail)
    go_wp2
    go_roundw
    case rel => exact ⟨k + 1, by omega, by go_num, E.out, grown_drewN G2.out _⟩
    case measure => simp [intOf]; omega
  ·obtain rfl : k = rs.length := by omega
   have g3 : decide ((rs.length : Int) < (rs.length : Int)) = false := by simp
   have E := hid (show N = (0, ⟨0, 0, 0, 0, 0⟩) by rw [HF.out, List.drop_length]; rfl)
   have BR3 := hid (BR.out.grown HG.out (by simp))
   have G3 := hid (grown_trans G0.out HG.out)
   have z0 : wr.cell? ⟨w.heap.size, 0, none⟩ = some (.int .i64 0) := BR3.out.cell 0
   have z1 : wr.cell? ⟨w.heap.size, 1, none⟩ = some (.int .i64 0) := BR3.out.cell 1
   have z2 : wr.cell? ⟨w.heap.size, 2, none⟩ = some (.int .i64 0) := BR3.out.cell 2
   have z3 : wr.cell? ⟨w.heap.size, 3, none⟩ = some (.int .i64 0) := BR3.out.cell 3
   have z4 : wr.cell? ⟨w.heap.size, 4, none⟩ = some (.int .i64 0) := BR3.out.cell 4
   have f0 := BR3.out.free 0
   have f1 := BR3.out.free 1
   have f2 := BR3.out.free 2
   have f3 := BR3.out.free 3
   have f4 := BR3.out.free 4
   go_wp2
   have F := ((((BR3.out.set 0 (.int .i64 0)).set 1 (.int .i64 0)).set 2 (.int .i64 0)).set 3 (.int .i64 0)).set 4 (.int .i64 0)
   have h0 := F.cell 0
   have h1 := F.cell 1
   have h2 := F.cell 2
   have h3 := F.cell 3
   have h4 := F.cell 4
   simp only [List.setIfInBounds_toArray, List.set_cons_succ, List.set_cons_zero, List.getElem?_toArray, List.getElem?_cons_succ, List.getElem?_cons_zero] at h0 h1 h2 h3 h4
   refine bodyPost_ret (v := .tuple #[.int .i64 0, relA ⟨0, 0, 0, 0, 0⟩]) ?_ rfl ⟨by rw [E.out], sets5_grown G3.out _ (Nat.le_refl _) _ _ _ _ _⟩
   clear F z0 z1 z2 z3 z4 f0 f1 f2 f3 f4
   generalize World.setCell _ _ _ = WF at *
   simp [results, Tryz.results137, go_sem, relA, h0, h1, h2, h3, h4]

end Go.Proofs.YtnfgdlkiialnnaaGreatDoor

namespace Go.Proofs.YtnfgdlkiialnnaaGreatDoor
open Go.RowKit

/-- numbers such that nothing wraps -/
structure MNice (n : Nat) (m : Ln.Mod) : Prop where
 text : m.text.length ≤ 65536 ∧ ∀ p ∈ m.text, 0 ≤ p ∧ p ≤ 1125899906842624
 far : m.far.length ≤ 65536 ∧ ∀ p ∈ m.far, 0 ≤ p ∧ p ≤ 1125899906842624
 data : 0 ≤ m.data ∧ m.data ≤ 1125899906842624
 bss : 0 ≤ m.bss ∧ m.bss ≤ 1125899906842624
 means : m.means.length ≤ 65535 ∧ ∀ s ∈ m.means, (0 ≤ s.off ∧ s.off ≤ 1125899906842624) ∧ ∀ i, s.mod = some i → i < n
 short : m.short.length ≤ 65535
 rels : m.obj.rels.length ≤ 65535 ∧ ∀ r ∈ m.obj.rels, AddendOk r ∧ 0 ≤ r.off ∧ r.off ≤ 1125899906842624

theorem placeOf_range (ps : List Int) (off : Int) (h : ∀ p ∈ ps, 0 ≤ p ∧ p ≤ 1125899906842624) : 0 ≤ Ln.placeOf ps off ∧ Ln.placeOf ps off ≤ 1125899906842624 := by
 unfold Ln.placeOf
 split
 ·omega
 ·rw [List.getD_eq_getElem?_getD]
  cases e : ps[(off.tdiv 4).toNat]? with
  | none => simp
  | some p => exact h p (List.mem_of_getElem? e)
theorem address_range {n : Nat} {m : Ln.Mod} (h : MNice n m) (sect off : Int) (h0 : 0 ≤ off) (h1 : off ≤ 1125899906842624) : 0 ≤ Ln.address m sect off ∧ Ln.address m sect off ≤ 2251799813685248 := by
 have a := placeOf_range m.text off h.text.2
 have b := placeOf_range m.far off h.far.2
 have c := h.data
 have d := h.bss
 unfold Ln.address
 repeat' split
 all_goals omega

set_option maxRecDepth 100000 in
set_option maxHeartbeats 4000000 in
theorem address_any (bl : List Nat) (b g n : Nat) (m : Ln.Mod) (sect off : Int) (w : World) (h : ModAt w bl b g m) (hm : MNice n m) (h0 : 0 ≤ off) (h1 : off ≤ 1125899906842624) :
  Calls Tryz.prog 98 #[ptrV b, .int .i64 sect, .int .i64 off] w fun e w' => e = .returned (.int .i64 (Ln.address m sect off)) ∧ w' = w := by
 obtain ⟨v1, v2, v3, v4, q0, -, -, -, q4, q5, -⟩ := h
 obtain ⟨at_, ct, rfl⟩ := own_form q4
 obtain ⟨af, cf, rfl⟩ := own_form q5
 have k3 : w.cell? ⟨b, 3, none⟩ = some (.slice at_ m.text.length ct) := q0.cell 3
 have k4 : w.cell? ⟨b, 4, none⟩ = some (.slice af m.far.length cf) := q0.cell 4
 have k5 : w.cell? ⟨b, 5, none⟩ = some (.int .i64 m.data) := q0.cell 5
 have k6 : w.cell? ⟨b, 6, none⟩ = some (.int .i64 m.bss) := q0.cell 6
 have cT := hid (placeOf_any at_ ct m.text off w (IntsIn.of_own q4) hm.text.1 h0 h1)
 have cF := hid (placeOf_any af cf m.far off w (IntsIn.of_own q5) hm.far.1 h0 h1)
 have hd := hm.data
 have hb := hm.bss
 clear q0 q4 q5 hm
 have R := hid (show Ln.address m sect off = if sect = 1 then Ln.placeOf m.text off else if sect = 2 then Ln.placeOf m.far off else if sect = 3 then m.data + off else if sect = 4 then m.bss + off else 0 from rfl)
 generalize Ln.placeOf m.text off = pt at *
 generalize Ln.placeOf m.far off = pf at *
 generalize m.data = d at *
 generalize m.bss = z at *
 unfold ptrV
 by_cases e1 : sect = 1
 ·subst e1
  have E := hid (show Ln.address m 1 off = pt by rw [R.out]; rfl)
  clear R
  go_enter Tryz.func98, Tryz.ntmps98
  go_wp2_with fail
  refine cT.out.mono ?_
  rintro e w2 ⟨rfl, rfl⟩
  go_wp2
  go_ret
  exact ⟨by rw [E.out]; rfl, rfl⟩
 by_cases e2 : sect = 2
 ·subst e2
  have E := hid (show Ln.address m 2 off = pf by rw [R.out]; rfl)
  clear R
  go_enter Tryz.func98, Tryz.ntmps98
  go_wp2_with fail
  refine cF.out.mono ?_
  rintro e w2 ⟨rfl, rfl⟩
  go_wp2
  go_ret
  exact ⟨by rw [E.out]; rfl, rfl⟩
 by_cases e3 : sect = 3
 ·subst e3
  have E := hid (show Ln.address m 3 off = d + off by rw [R.out]; rfl)
  have w1 : IntKind.i64.wrap (d + off) = d + off := IntWalk.i64_in _ ⟨by omega, by omega⟩
  clear R
  go_enter Tryz.func98, Tryz.ntmps98
  go_wp2
  go_ret
  exact ⟨by rw [E.out]; rfl, rfl⟩
 by_cases e4 : sect = 4
 ·subst e4
  have E := hid (show Ln.address m 4 off = z + off by rw [R.out]; rfl)
  have w1 : IntKind.i64.wrap (z + off) = z + off := IntWalk.i64_in _ ⟨by omega, by omega⟩
  clear R
  go_enter Tryz.func98, Tryz.ntmps98
  go_wp2
  go_ret
  exact ⟨by rw [E.out]; rfl, rfl⟩
 have E := hid (show Ln.address m sect off = 0 by rw [R.out, if_neg e1, if_neg e2, if_neg e3, if_neg e4])
 have d1 : (sect == 1) = false := by simpa using e1
 have d2 : (sect == 2) = false := by simpa using e2
 have d3 : (sect == 3) = false := by simpa using e3
 have d4 : (sect == 4) = false := by simpa using e4
 clear R e1 e2 e3 e4
 go_enter Tryz.func98, Tryz.ntmps98
 go_wp2
 go_ret
 exact ⟨by rw [E.out]; rfl, rfl⟩

end Go.Proofs.YtnfgdlkiialnnaaGreatDoor
