/- Linking: words with other numbers. -/
/- Linking: a short call's word. -/
/- Linking: what a word becomes. -/
/- Linking: where all lies, as numbers. -/
/- Linking: a region's words. -/
/- The assembler: sections, bindings, words, room. -/
import Derived.Test.YtnfgdlkiialnnaaGreatDoorG19
import Derived.Test.YtnfgdlkiialnnaaGreatDoorG16
import Derived.Test.YtnfgdlkiialnnaaGreatDoorG17
namespace Go.Proofs.YtnfgdlkiialnnaaGreatDoor
open Go.RowKit

theorem opOf_le (n:Int):Mc.opOf n≤25:=by
 unfold Mc.opOf
 cases e:(List.range 26).find? (fun k=>decide (1≤k) && decide (Is k n)) with
 | none=>simp
 | some k =>
  have:=List.mem_of_find?_eq_some e
  have:=List.mem_range.1 this
  simp only [Option.getD_some]
  omega

namespace Ln
/-- the word of an instruction, none if it is none -/
def encZ (op rd rs1 rs2:Nat) (n:Int):Int:=if op=0 then 0 else (As.enc op rd rs1 rs2 n:Nat)
def withNumber (w n:Int):Int:=encZ (Mc.opOf w) (rdF (Mc.formOf w) w).toNat (rs1F (Mc.formOf w) w).toNat (rs2F (Mc.formOf w) w).toNat n
def withPart (w:Int) (first:Bool) (v:Int):Int:=withNumber w (if first then As.partHigh v else As.partLow v)
end Ln

set_option maxRecDepth 100000 in
set_option maxHeartbeats 4000000 in
theorem encodeZ_any (op rd rs1 rs2:Nat) (n:Int) (w:World) (ht:Tabs w) (h2:op≤25) :
  Calls Tryz.prog 194 #[insN op rd rs1 rs2 n] w fun e w'=>e = .returned (.int .i64 (Ln.encZ op rd rs1 rs2 n))∧w.grownBy w' none:=by
 by_cases h:op=0
 ·subst h
  have A0:=hid (World.grownBy_alloc w (.cells #[.int .i64 0,.int .i64 rd,.int .i64 rs1,.int .i64 rs2,.int .i64 n] 147) none)
  unfold insN
  go_enter Tryz.func194,Tryz.ntmps194
  go_wp2
  go_ret
  exact ⟨rfl,A0.out⟩
 ·have:=encode_any op rd rs1 rs2 n w ht (by omega) h2
  unfold Ln.encZ
  rw [if_neg h]
  exact this

set_option maxRecDepth 100000 in
set_option maxHeartbeats 4000000 in
theorem withNumber_any (x n:Int) (w:World) (ht:Tabs w) (h0:0≤x) (h1:x≤4294967295) :
  Calls Tryz.prog 138 #[.int .i64 x,.int .i64 n] w fun e w'=>e = .returned (.int .i64 (Ln.withNumber x n))∧w.grownBy w' none:=by
 have cD:=hid (decode_exact x w ht h0 h1)
 have r1:=rng_rdF (Mc.formOf x) x h0 h1
 have r2:=rng_rs1F (Mc.formOf x) x h0 h1
 have r3:=rng_rs2F (Mc.formOf x) x h0 h1
 have E:=hid (show Ln.withNumber x n=Ln.encZ (Mc.opOf x) (rdF (Mc.formOf x) x).toNat (rs1F (Mc.formOf x) x).toNat (rs2F (Mc.formOf x) x).toNat n from rfl)
 have ho:=opOf_le x
 have HT:=hid ht
 generalize Mc.opOf x=op at *
 generalize Mc.numF (Mc.formOf x) x=nf at *
 generalize rdF (Mc.formOf x) x=rd at *
 generalize rs1F (Mc.formOf x) x=rs1 at *
 generalize rs2F (Mc.formOf x) x=rs2 at *
 obtain ⟨a,rfl⟩:∃ a:Nat,rd=(a:Int):=⟨rd.toNat,by omega⟩
 obtain ⟨b,rfl⟩:∃ b:Nat,rs1=(b:Int):=⟨rs1.toNat,by omega⟩
 obtain ⟨c,rfl⟩:∃ c:Nat,rs2=(c:Int):=⟨rs2.toNat,by omega⟩
 rw [Int.toNat_natCast,Int.toNat_natCast,Int.toNat_natCast] at E
 have cE:=hid (fun W hW=>encodeZ_any op a b c n W hW ho)
 clear ht r1 r2 r3
 unfold insV at cD
 unfold insN at cE
 go_enter Tryz.func138,Tryz.ntmps138
 go_wp2_with fail
 refine cD.out.mono ?_
 rintro e W2 ⟨rfl,h2⟩
 have A2:=hid (grown_trans h2 (World.grownBy_alloc W2 (.cells #[.int .i64 op,.int .i64 a,.int .i64 b,.int .i64 c,.int .i64 n] 147) none))
 clear h2
 go_wp2_with fail
 refine (cE.out _ (HT.out.grown A2.out)).mono ?_
 rintro e W3 ⟨rfl,h3⟩
 have G3:=hid (grown_trans A2.out h3)
 clear h3 cE cD
 go_wp2
 go_ret
 exact ⟨by rw [E.out]; rfl,G3.out⟩

set_option maxRecDepth 100000 in
set_option maxHeartbeats 4000000 in
theorem withPart_any (x:Int) (f:Bool) (v:Int) (w:World) (ht:Tabs w) (h0:0≤x) (h1:x≤4294967295) (h2:-2147483648≤v) (h3:v≤2147483647) :
  Calls Tryz.prog 141 #[.int .i64 x,.bool f,.int .i64 v] w fun e w'=>e = .returned (.int .i64 (Ln.withPart x f v))∧w.grownBy w' none:=by
 have cP:=hid (parts_any v w h2 h3)
 have cN:=hid (fun n=>withNumber_any x n w ht h0 h1)
 cases f
 ·have E:=hid (show Ln.withPart x false v=Ln.withNumber x (As.partLow v) from rfl)
  clear ht
  go_enter Tryz.func141,Tryz.ntmps141
  go_wp2_with fail
  refine cP.out.mono ?_
  rintro e w' ⟨rfl,hw⟩
  rw [hw]
  clear hw w' cP
  go_wp2_with fail
  refine (cN.out _).mono ?_
  rintro e W2 ⟨rfl,h5⟩
  have G:=hid h5
  clear h5 cN
  go_wp2
  go_ret
  exact ⟨by rw [E.out]; rfl,G.out⟩
 ·have E:=hid (show Ln.withPart x true v=Ln.withNumber x (As.partHigh v) from rfl)
  clear ht
  go_enter Tryz.func141,Tryz.ntmps141
  go_wp2_with fail
  refine cP.out.mono ?_
  rintro e w' ⟨rfl,hw⟩
  rw [hw]
  clear hw w' cP
  go_wp2_with fail
  refine (cN.out _).mono ?_
  rintro e W2 ⟨rfl,h5⟩
  have G:=hid h5
  clear h5 cN
  go_wp2
  go_ret
  exact ⟨by rw [E.out]; rfl,G.out⟩

end Go.Proofs.YtnfgdlkiialnnaaGreatDoor

namespace Go.Proofs.YtnfgdlkiialnnaaGreatDoor
open Go.RowKit

namespace Ln
def shortCall (ms:List Mod) (m:Mod) (r:Lk.Rel):Int:=encZ 3 (rdF (Mc.formOf ((about m.obj r).getD 1 0)) ((about m.obj r).getD 1 0)).toNat 0 0 (distance ms m r)
end Ln

set_option maxRecDepth 100000 in
set_option maxHeartbeats 4000000 in
theorem shortCall_any (bl:List Nat) (ms:List Ln.Mod) (b g:Nat) (m:Ln.Mod) (r:Lk.Rel) (w:World) (ht:Tabs w) (h:ModsAt w bl ms) (hm:ModAt w bl b g m) (hn:MNice bl.length m) (hv:Valid m.obj) (hr:r∈m.obj.rels) (hk:r.kind=4) :
  Calls Tryz.prog 140 #[ptrV b,relA r] w fun e w'=>e = .returned (.int .i64 (Ln.shortCall ms m r))∧w.grownBy w' none:=by
 obtain ⟨i,hi,hri⟩:=List.getElem_of_mem hr
 have RO:RelOk m.obj r:=by rw [← hri]; exact (hv.2.2.2.2 i hi).1
 have ha:=RO.2.1
 have hab:=RO.2.2.2.2.1
 have hrs:Words (wordsOf m.obj r.sect):=by
  unfold wordsOf
  repeat' split
  ·exact hv.2.2.1.1
  ·exact hv.2.2.1.2.1
  ·exact hv.2.2.1.2.2
  ·intro i h; simp at h
 obtain ⟨f1,f2,-,-⟩:=about_facts ha hab hrs
 have sp:(spanI r).toNat=2:=by unfold spanI; rw [if_pos (.inl hk)]; rfl
 rw [sp] at f1
 have HM:=hid hm
 have HH:=hid h
 have HT:=hid ht
 obtain ⟨v1,v2,v3,v4,q0,q1,-⟩:=hm
 have k0:w.cell? ⟨b,0,none⟩=some (.pointer (some ⟨g,0,none⟩)):=q0.cell 0
 have cA:=hid (fun W (hg:w.grownBy W none)=>aboutWords_yes g m.obj r W (q1.kept hg) (valid_small hv) ha hab)
 rw [sp] at cA
 have cD:=hid (fun W (hg:w.grownBy W none)=>distance_any bl ms b g m r W (HH.out.kept hg) (HM.out.kept hg) hn (hn.rels.2 r hr).2.1 (hn.rels.2 r hr).2.2)
 have hx:1 < (about m.obj r).length:=by omega
 have E:=hid (show Ln.shortCall ms m r=Ln.encZ 3 (rdF (Mc.formOf (about m.obj r)[1]) (about m.obj r)[1]).toNat 0 0 (Ln.distance ms m r) by unfold Ln.shortCall; rw [List.getD_eq_getElem?_getD,List.getElem?_eq_getElem hx]; rfl)
 have xr:=f2 1 hx
 have rr:=rng_rdF (Mc.formOf (about m.obj r)[1]) (about m.obj r)[1] xr.1 xr.2
 have cC:=hid (fun W (hg:w.grownBy W none)=>decode_exact (about m.obj r)[1] W (HT.out.grown hg) xr.1 xr.2)
 have IX:=hid (fun W ao (hI:IntsIn W ao (about m.obj r))=>show ∃ sg off,ao=some ⟨sg,off,none⟩∧W.cell? ⟨sg,off+1,none⟩=some (.int .i64 (about m.obj r)[1]) from by
  obtain ⟨sg,off,e,hc⟩:=hI (by omega)
  exact ⟨sg,off,e,hc 1 hx⟩)
 generalize Mc.opOf (about m.obj r)[1]=op at *
 generalize Mc.numF (Mc.formOf (about m.obj r)[1]) (about m.obj r)[1]=nf at *
 generalize rs1F (Mc.formOf (about m.obj r)[1]) (about m.obj r)[1]=rs1 at *
 generalize rs2F (Mc.formOf (about m.obj r)[1]) (about m.obj r)[1]=rs2 at *
 generalize rdF (Mc.formOf (about m.obj r)[1]) (about m.obj r)[1]=rd at *
 obtain ⟨a,rfl⟩:∃ a:Nat,rd=(a:Int):=⟨rd.toNat,by omega⟩
 rw [Int.toNat_natCast] at E
 generalize (about m.obj r)[1]=x at *
 have cE:=hid (fun W (hg:w.grownBy W none)=>encodeZ_any 3 a 0 0 (Ln.distance ms m r) W (HT.out.grown hg) (by omega))
 generalize Ln.distance ms m r=ds at *
 have hbl:b < w.heap.size:=q0.lt
 clear q0 q1 h ht hn hv hr RO ha hab hrs f1 f2 sp hx xr rr hri hi hk
 unfold ptrV relA insV insN at *
 obtain ⟨rs,ro,rk,ry,ra⟩:=r
 dsimp only at *
 have A0:=hid (World.grownBy_alloc w (.cells #[.int .i64 rs,.int .i64 ro,.int .i64 rk,.int .i64 ry,.int .i64 ra] 139) none)
 have B0:=hid (BlkAt.new w #[.int .i64 rs,.int .i64 ro,.int .i64 rk,.int .i64 ry,.int .i64 ra] 139)
 have hbn:b≠w.heap.size:=by omega
 go_enter Tryz.func140,Tryz.ntmps140
 go_wp2
 have kb:=gcell k0 A0.out
 clear k0
 generalize w.alloc (.cells #[.int .i64 rs,.int .i64 ro,.int .i64 rk,.int .i64 ry,.int .i64 ra] 139)=W1 at *
 generalize w.heap.size=L at *
 have c0:W1.cell? ⟨L,0,none⟩=some (.int .i64 rs):=B0.out.cell 0
 have c1:W1.cell? ⟨L,1,none⟩=some (.int .i64 ro):=B0.out.cell 1
 have c2:W1.cell? ⟨L,2,none⟩=some (.int .i64 rk):=B0.out.cell 2
 have c3:W1.cell? ⟨L,3,none⟩=some (.int .i64 ry):=B0.out.cell 3
 have c4:W1.cell? ⟨L,4,none⟩=some (.int .i64 ra):=B0.out.cell 4
 have KB:=hid (show W1.drew.cell? ⟨b,0,none⟩=some (.pointer (some ⟨g,0,none⟩)) from kb)
 have BD:=hid (fun W (hq:W1.drew.grownBy W none)=>show BlkAt W L #[.int .i64 rs,.int .i64 ro,.int .i64 rk,.int .i64 ry,.int .i64 ra] 139 from (blk_drew B0.out).grown hq (by simp))
 go_region_held3 (fun w'=>w'.cell? ⟨b,0,none⟩=some (.pointer (some ⟨g,0,none⟩))∧w'.cell? ⟨L,0,none⟩=some (.int .i64 rs)∧w'.cell? ⟨L,1,none⟩=some (.int .i64 ro)∧w'.cell? ⟨L,2,none⟩=some (.int .i64 rk)∧w'.cell? ⟨L,3,none⟩=some (.int .i64 ry)∧w'.cell? ⟨L,4,none⟩=some (.int .i64 ra))
  (go_keep)
  (first | (go_at_call 195; refine (cA.out _ (grown_drew A0.out)).mono ?_; rintro e w' ⟨ao,cap,rfl,hI,hq⟩; have bq:=BD.out _ hq; have kq:=gcell KB.out hq; have s0:=bq.cell 0; have s1:=bq.cell 1; have s2:=bq.cell 2; have s3:=bq.cell 3; have s4:=bq.cell 4; simp only [List.getElem?_toArray,List.getElem?_cons_succ,List.getElem?_cons_zero] at s0 s1 s2 s3 s4))
 obtain ⟨sg,off,rfl,cx⟩:=IX.out _ _ hI
 have GQ:=hid (grown_trans (grown_drew A0.out) hq)
 have BQ:=hid bq
 clear hq hI bq kq s0 s1 s2 s3 s4 c0 c1 c2 c3 c4 kb KB BD
 go_wp2_with fail
 refine (cC.out _ GQ.out).mono ?_
 rintro e W4 ⟨rfl,h4⟩
 have A4:=World.grownBy_alloc W4 (.cells #[.int .i64 op,.int .i64 a,.int .i64 rs1,.int .i64 rs2,.int .i64 nf] 147) none
 have G4:=hid (grown_trans (grown_trans GQ.out h4) A4)
 have B4:=hid (BQ.out.grown (grown_trans h4 A4) (by simp))
 have J4:=hid (BlkAt.new W4 #[.int .i64 op,.int .i64 a,.int .i64 rs1,.int .i64 rs2,.int .i64 nf] 147)
 clear h4 A4 cC cx BQ GQ
 go_wp2
 generalize W4.alloc (.cells #[.int .i64 op,.int .i64 a,.int .i64 rs1,.int .i64 rs2,.int .i64 nf] 147)=W5 at *
 generalize W4.heap.size=J at *
 have c0:W5.cell? ⟨L,0,none⟩=some (.int .i64 rs):=B4.out.cell 0
 have c1:W5.cell? ⟨L,1,none⟩=some (.int .i64 ro):=B4.out.cell 1
 have c2:W5.cell? ⟨L,2,none⟩=some (.int .i64 rk):=B4.out.cell 2
 have c3:W5.cell? ⟨L,3,none⟩=some (.int .i64 ry):=B4.out.cell 3
 have c4:W5.cell? ⟨L,4,none⟩=some (.int .i64 ra):=B4.out.cell 4
 have cj:W5.cell? ⟨J,1,none⟩=some (.int .i64 a):=J4.out.cell 1
 have KD:=hid (fun W (hq:W5.drew.grownBy W none)=>And.intro (gcell (show W5.drew.cell? ⟨J,1,none⟩=some (.int .i64 a) from cj) hq) (And.intro (gcell (show W5.drew.cell? ⟨L,0,none⟩=some (.int .i64 rs) from c0) hq) (And.intro (gcell (show W5.drew.cell? ⟨L,1,none⟩=some (.int .i64 ro) from c1) hq) (And.intro (gcell (show W5.drew.cell? ⟨L,2,none⟩=some (.int .i64 rk) from c2) hq) (And.intro (gcell (show W5.drew.cell? ⟨L,3,none⟩=some (.int .i64 ry) from c3) hq) (gcell (show W5.drew.cell? ⟨L,4,none⟩=some (.int .i64 ra) from c4) hq))))))
 go_region_held3 (fun w'=>w'.cell? ⟨J,1,none⟩=some (.int .i64 a)∧w'.cell? ⟨L,0,none⟩=some (.int .i64 rs)∧w'.cell? ⟨L,1,none⟩=some (.int .i64 ro)∧w'.cell? ⟨L,2,none⟩=some (.int .i64 rk)∧w'.cell? ⟨L,3,none⟩=some (.int .i64 ry)∧w'.cell? ⟨L,4,none⟩=some (.int .i64 ra))
  (go_keep)
  (first | (go_at_call 97; refine (cD.out _ (grown_drew G4.out)).mono ?_; rintro e w' ⟨rfl,hq⟩; obtain ⟨s0,s1,s2,s3,s4,s5⟩:=KD.out _ hq) | (go_at_call 194; refine (cE.out _ (grown_trans (grown_drew G4.out) hq)).mono ?_; rintro e w2 ⟨rfl,hq2⟩; obtain ⟨r0,r1,r2,r3,r4,r5⟩:=KD.out _ (grown_trans hq hq2)))
 go_wp2
 go_ret
 exact ⟨by rw [E.out]; rfl,grown_trans (grown_trans (grown_drew G4.out) hq) hq2⟩

end Go.Proofs.YtnfgdlkiialnnaaGreatDoor

namespace Go.Proofs.YtnfgdlkiialnnaaGreatDoor
open Go.RowKit

namespace Ln
def linkedR (ms:List Mod) (m:Mod) (i:Int) (r:Lk.Rel) (off w:Int):Int :=
 if r.kind=1 then bits .and .i64 (target ms m r+r.addend) 4294967295
 else if r.kind=2∨r.kind=3 then withNumber w (distance ms m r)
 else if r.kind=4 then (if isShort m.short i then shortCall ms m r else withPart w (decide (off=r.off)) (distance ms m r))
 else if r.kind=5 then withPart w (decide (off=r.off)) (target ms m r+r.addend)
 else w
def linked (ms:List Mod) (m:Mod) (sect off w:Int):Int:=linkedR ms m (relocAt sect off 0 m.obj.rels).1 (relocAt sect off 0 m.obj.rels).2 off w
end Ln

/-- the relocations of a module, laid -/
def RelsNear (ms:List Ln.Mod) (m:Ln.Mod):Prop:=∀ r∈m.obj.rels,(-2147483648≤Ln.distance ms m r∧Ln.distance ms m r≤2147483647)∧(0≤Ln.target ms m r∧Ln.target ms m r≤2147480000)

set_option maxRecDepth 100000 in
set_option maxHeartbeats 8000000 in
theorem linked_any (bl:List Nat) (ms:List Ln.Mod) (b g:Nat) (m:Ln.Mod) (sect off x:Int) (w:World) (ht:Tabs w) (h:ModsAt w bl ms) (hm:ModAt w bl b g m) (hn:MNice bl.length m) (hv:Valid m.obj) (hd:RelsNear ms m) (h0:0≤x) (h1:x≤4294967295) :
  Calls Tryz.prog 100 #[ptrV b,.int .i64 sect,.int .i64 off,.int .i64 x] w fun e w'=>e = .returned (.int .i64 (Ln.linked ms m sect off x))∧w.grownBy w' none:=by
 have HT:=hid ht
 have HH:=hid h
 have HM:=hid hm
 have cR:=hid (relocAt_any bl b g m sect off w hm (fun r hr=>⟨(hn.rels.2 r hr).1,by have:=(hn.rels.2 r hr).2; omega,(hn.rels.2 r hr).2.2⟩) hn.rels.1)
 have R:=hid (show Ln.linked ms m sect off x=Ln.linkedR ms m (Ln.relocAt sect off 0 m.obj.rels).1 (Ln.relocAt sect off 0 m.obj.rels).2 off x from rfl)
 have RM:=hid (show (Ln.relocAt sect off 0 m.obj.rels).2.kind≠0→(Ln.relocAt sect off 0 m.obj.rels).2∈m.obj.rels by
  rcases relocAt_in sect off m.obj.rels 0 with e | ⟨i,hi,e⟩
  ·rw [e]; intro c; simp at c
  ·rw [e]; intro _; exact List.getElem_mem hi)
 have IX:0≤(Ln.relocAt sect off 0 m.obj.rels).1∧(Ln.relocAt sect off 0 m.obj.rels).1≤65535:=by
  rcases relocAt_in sect off m.obj.rels 0 with e | ⟨i,hi,e⟩
  ·rw [e]; simp
  ·rw [e]; have:=hn.rels.1; simp; omega
 have cS:=hid (fun W (hg:w.grownBy W none)=>isShort_any bl b g m (Ln.relocAt sect off 0 m.obj.rels).1 W (HM.out.kept hg) IX.1 IX.2 hn.short)
 generalize Ln.relocAt sect off 0 m.obj.rels=p at *
 obtain ⟨i,r⟩:=p
 dsimp only at *
 have cD:=hid (fun W (hg:w.grownBy W none) (hr:r∈m.obj.rels)=>distance_any bl ms b g m r W (HH.out.kept hg) (HM.out.kept hg) hn (hn.rels.2 r hr).2.1 (hn.rels.2 r hr).2.2)
 have cT:=hid (fun W (hg:w.grownBy W none)=>lTarget_any bl ms b g m r W (HH.out.kept hg) (HM.out.kept hg) hn)
 have cC:=hid (fun W (hg:w.grownBy W none) (hr:r∈m.obj.rels) (hk:r.kind=4)=>shortCall_any bl ms b g m r W (HT.out.grown hg) (HH.out.kept hg) (HM.out.kept hg) hn hv hr hk)
 have cN:=hid (fun n W (hg:w.grownBy W none)=>withNumber_any x n W (HT.out.grown hg) h0 h1)
 have cP:=hid (fun f v W (hg:w.grownBy W none) a1 a2=>withPart_any x f v W (HT.out.grown hg) h0 h1 a1 a2)
 have AD:=hid (show r∈m.obj.rels→(r.kind=1∨r.kind=5)→-2048≤r.addend∧r.addend≤2047 from fun hr hk=>by
  have:=(hn.rels.2 r hr).1
  unfold AddendOk at this
  rw [if_pos hk] at this
  exact this)
 have HD:=hid hd
 clear ht h hm hn hv hd IX
 obtain ⟨rs,ro,rk,ry,ra⟩:=r
 unfold ptrV relA at *
 dsimp only at *
 go_enter Tryz.func100,Tryz.ntmps100
 go_wp2_with fail
 refine cR.out.mono ?_
 rintro e W2 ⟨rfl,h2⟩
 dsimp only
 have A2:=hid (grown_trans h2 (World.grownBy_alloc W2 (.cells #[.int .i64 rs,.int .i64 ro,.int .i64 rk,.int .i64 ry,.int .i64 ra] 139) none))
 have B2:=hid (BlkAt.new W2 #[.int .i64 rs,.int .i64 ro,.int .i64 rk,.int .i64 ry,.int .i64 ra] 139)
 clear h2 cR
 by_cases e1:rk=1
 ·subst e1
  have hr:=RM.out (by decide)
  have E:=hid (show Ln.linked ms m sect off x=bits .and .i64 (Ln.target ms m ⟨rs,ro,1,ry,ra⟩+ra) 4294967295 by rw [R.out]; rfl)
  have tn:=(HD.out _ hr).2
  have an:=AD.out hr (.inl rfl)
  generalize Ln.target ms m ⟨rs,ro,1,ry,ra⟩=t at *
  have w1:IntKind.i64.wrap (t+ra)=t+ra:=IntWalk.i64_in _ ⟨by omega,by omega⟩
  clear hr
  go_wp2
  generalize W2.alloc (.cells #[.int .i64 rs,.int .i64 ro,.int .i64 1,.int .i64 ry,.int .i64 ra] 139)=W3 at *
  generalize W2.heap.size=L at *
  have c0:W3.cell? ⟨L,0,none⟩=some (.int .i64 rs):=B2.out.cell 0
  have c1:W3.cell? ⟨L,1,none⟩=some (.int .i64 ro):=B2.out.cell 1
  have c2:W3.cell? ⟨L,2,none⟩=some (.int .i64 1):=B2.out.cell 2
  have c3:W3.cell? ⟨L,3,none⟩=some (.int .i64 ry):=B2.out.cell 3
  have c4:W3.cell? ⟨L,4,none⟩=some (.int .i64 ra):=B2.out.cell 4
  have BD:=hid (fun W (hq:W3.drew.grownBy W none)=>show BlkAt W L #[.int .i64 rs,.int .i64 ro,.int .i64 1,.int .i64 ry,.int .i64 ra] 139 from (blk_drew B2.out).grown hq (by simp))
  go_region_held3 (fun w'=>w'.cell? ⟨L,0,none⟩=some (.int .i64 rs)∧w'.cell? ⟨L,1,none⟩=some (.int .i64 ro)∧w'.cell? ⟨L,2,none⟩=some (.int .i64 1)∧w'.cell? ⟨L,3,none⟩=some (.int .i64 ry)∧w'.cell? ⟨L,4,none⟩=some (.int .i64 ra))
   (go_keep)
   (first | (go_at_call 135; refine (cT.out _ (grown_drew A2.out)).mono ?_; rintro e w' ⟨rfl,hq⟩; have bq:=BD.out _ hq; have s0:=bq.cell 0; have s1:=bq.cell 1; have s2:=bq.cell 2; have s3:=bq.cell 3; have s4:=bq.cell 4; simp only [List.getElem?_toArray,List.getElem?_cons_succ,List.getElem?_cons_zero] at s0 s1 s2 s3 s4))
  go_wp2
  go_ret
  exact ⟨by rw [E.out]; rfl,grown_trans (grown_drew A2.out) hq⟩
 by_cases e2:rk=2
 ·subst e2
  have hr:=RM.out (by decide)
  have E:=hid (show Ln.linked ms m sect off x=Ln.withNumber x (Ln.distance ms m ⟨rs,ro,2,ry,ra⟩) by rw [R.out]; rfl)
  have cE:=hid (cD.out _ A2.out hr)
  generalize Ln.distance ms m ⟨rs,ro,2,ry,ra⟩=t at *
  clear hr
  go_wp2_with fail
  refine cE.out.mono ?_
  rintro e W5 ⟨rfl,h5⟩
  have G5:=hid (grown_trans A2.out h5)
  clear h5 cE
  go_wp2_with fail
  refine (cN.out t _ G5.out).mono ?_
  rintro e W6 ⟨rfl,h6⟩
  have G6:=hid (grown_trans G5.out h6)
  clear h6
  go_wp2
  go_ret
  exact ⟨by rw [E.out]; rfl,G6.out⟩
 by_cases e3:rk=3
 ·subst e3
  have hr:=RM.out (by decide)
  have E:=hid (show Ln.linked ms m sect off x=Ln.withNumber x (Ln.distance ms m ⟨rs,ro,3,ry,ra⟩) by rw [R.out]; rfl)
  have cE:=hid (cD.out _ A2.out hr)
  generalize Ln.distance ms m ⟨rs,ro,3,ry,ra⟩=t at *
  clear hr
  go_wp2_with fail
  refine cE.out.mono ?_
  rintro e W5 ⟨rfl,h5⟩
  have G5:=hid (grown_trans A2.out h5)
  clear h5 cE
  go_wp2_with fail
  refine (cN.out t _ G5.out).mono ?_
  rintro e W6 ⟨rfl,h6⟩
  have G6:=hid (grown_trans G5.out h6)
  clear h6
  go_wp2
  go_ret
  exact ⟨by rw [E.out]; rfl,G6.out⟩
 by_cases e4:rk=4
 ·subst e4
  have hr:=RM.out (by decide)
  have RR:=hid (show Ln.linked ms m sect off x=if Ln.isShort m.short i then Ln.shortCall ms m ⟨rs,ro,4,ry,ra⟩ else Ln.withPart x (decide (off=ro)) (Ln.distance ms m ⟨rs,ro,4,ry,ra⟩) by rw [R.out]; rfl)
  have cC2:=hid (cC.out _ A2.out hr rfl)
  have cD2:=hid (fun W hg=>cD.out W hg hr)
  have dn:=(HD.out _ hr).1
  have cS2:=hid (cS.out _ A2.out)
  clear hr cC cD cS
  generalize Ln.distance ms m ⟨rs,ro,4,ry,ra⟩=t at *
  go_wp2_with fail
  refine cS2.out.mono ?_
  rintro e w' ⟨rfl,hw⟩
  rw [hw]
  clear hw w' cS2
  cases es:Ln.isShort m.short i
  ·have E:=hid (show Ln.linked ms m sect off x=Ln.withPart x (decide (off=ro)) t by rw [RR.out,es]; rfl)
   clear es RR
   have cP2:=hid (fun f W hg=>cP.out f t W hg dn.1 dn.2)
   go_wp2
   generalize W2.alloc (.cells #[.int .i64 rs,.int .i64 ro,.int .i64 4,.int .i64 ry,.int .i64 ra] 139)=W3 at *
   generalize W2.heap.size=L at *
   have c0:W3.cell? ⟨L,0,none⟩=some (.int .i64 rs):=B2.out.cell 0
   have c1:W3.cell? ⟨L,1,none⟩=some (.int .i64 ro):=B2.out.cell 1
   have c2:W3.cell? ⟨L,2,none⟩=some (.int .i64 4):=B2.out.cell 2
   have c3:W3.cell? ⟨L,3,none⟩=some (.int .i64 ry):=B2.out.cell 3
   have c4:W3.cell? ⟨L,4,none⟩=some (.int .i64 ra):=B2.out.cell 4
   have BD:=hid (fun W (hq:W3.drew.grownBy W none)=>show BlkAt W L #[.int .i64 rs,.int .i64 ro,.int .i64 4,.int .i64 ry,.int .i64 ra] 139 from (blk_drew B2.out).grown hq (by simp))
   have EQ:decide (off=ro)=(off == ro):=rfl
   go_region_held3 (fun w'=>w'.cell? ⟨L,0,none⟩=some (.int .i64 rs)∧w'.cell? ⟨L,1,none⟩=some (.int .i64 ro)∧w'.cell? ⟨L,2,none⟩=some (.int .i64 4)∧w'.cell? ⟨L,3,none⟩=some (.int .i64 ry)∧w'.cell? ⟨L,4,none⟩=some (.int .i64 ra))
    (go_keep)
    (first | (go_at_call 97; refine (cD2.out _ (grown_drew A2.out)).mono ?_; rintro e w' ⟨rfl,hq⟩; have bq:=BD.out _ hq; have s0:=bq.cell 0; have s1:=bq.cell 1; have s2:=bq.cell 2; have s3:=bq.cell 3; have s4:=bq.cell 4; simp only [List.getElem?_toArray,List.getElem?_cons_succ,List.getElem?_cons_zero] at s0 s1 s2 s3 s4) | (go_at_call 141; refine (cP2.out _ _ (grown_trans (grown_drew A2.out) hq)).mono ?_; rintro e w2 ⟨rfl,hq2⟩; have bq2:=BD.out _ (grown_trans hq hq2); have r0:=bq2.cell 0; have r1:=bq2.cell 1; have r2:=bq2.cell 2; have r3:=bq2.cell 3; have r4:=bq2.cell 4; simp only [List.getElem?_toArray,List.getElem?_cons_succ,List.getElem?_cons_zero] at r0 r1 r2 r3 r4))
   go_wp2
   go_ret
   exact ⟨by rw [E.out]; rfl,grown_trans (grown_trans (grown_drew A2.out) hq) hq2⟩
  ·have E:=hid (show Ln.linked ms m sect off x=Ln.shortCall ms m ⟨rs,ro,4,ry,ra⟩ by rw [RR.out,es]; rfl)
   clear es RR
   go_wp2_with fail
   refine cC2.out.mono ?_
   rintro e W5 ⟨rfl,h5⟩
   have G5:=hid (grown_trans A2.out h5)
   clear h5 cC2
   go_wp2
   go_ret
   exact ⟨by rw [E.out]; rfl,G5.out⟩
 by_cases e5:rk=5
 ·subst e5
  have hr:=RM.out (by decide)
  have E:=hid (show Ln.linked ms m sect off x=Ln.withPart x (decide (off=ro)) (Ln.target ms m ⟨rs,ro,5,ry,ra⟩+ra) by rw [R.out]; rfl)
  have tn:=(HD.out _ hr).2
  have an:=AD.out hr (.inr rfl)
  generalize Ln.target ms m ⟨rs,ro,5,ry,ra⟩=t at *
  have w1:IntKind.i64.wrap (t+ra)=t+ra:=IntWalk.i64_in _ ⟨by omega,by omega⟩
  have cP2:=hid (fun f W hg=>cP.out f (t+ra) W hg (by omega) (by omega))
  clear hr
  go_wp2
  generalize W2.alloc (.cells #[.int .i64 rs,.int .i64 ro,.int .i64 5,.int .i64 ry,.int .i64 ra] 139)=W3 at *
  generalize W2.heap.size=L at *
  have c0:W3.cell? ⟨L,0,none⟩=some (.int .i64 rs):=B2.out.cell 0
  have c1:W3.cell? ⟨L,1,none⟩=some (.int .i64 ro):=B2.out.cell 1
  have c2:W3.cell? ⟨L,2,none⟩=some (.int .i64 5):=B2.out.cell 2
  have c3:W3.cell? ⟨L,3,none⟩=some (.int .i64 ry):=B2.out.cell 3
  have c4:W3.cell? ⟨L,4,none⟩=some (.int .i64 ra):=B2.out.cell 4
  have BD:=hid (fun W (hq:W3.drew.grownBy W none)=>show BlkAt W L #[.int .i64 rs,.int .i64 ro,.int .i64 5,.int .i64 ry,.int .i64 ra] 139 from (blk_drew B2.out).grown hq (by simp))
  go_region_held3 (fun w'=>w'.cell? ⟨L,0,none⟩=some (.int .i64 rs)∧w'.cell? ⟨L,1,none⟩=some (.int .i64 ro)∧w'.cell? ⟨L,2,none⟩=some (.int .i64 5)∧w'.cell? ⟨L,3,none⟩=some (.int .i64 ry)∧w'.cell? ⟨L,4,none⟩=some (.int .i64 ra))
   (go_keep)
   (first | (go_at_call 135; refine (cT.out _ (grown_drew A2.out)).mono ?_; rintro e w' ⟨rfl,hq⟩; have bq:=BD.out _ hq; have s0:=bq.cell 0; have s1:=bq.cell 1; have s2:=bq.cell 2; have s3:=bq.cell 3; have s4:=bq.cell 4; simp only [List.getElem?_toArray,List.getElem?_cons_succ,List.getElem?_cons_zero] at s0 s1 s2 s3 s4) | (go_at_call 141; refine (cP2.out _ _ (grown_trans (grown_drew A2.out) hq)).mono ?_; rintro e w2 ⟨rfl,hq2⟩; have bq2:=BD.out _ (grown_trans hq hq2); have r0:=bq2.cell 0; have r1:=bq2.cell 1; have r2:=bq2.cell 2; have r3:=bq2.cell 3; have r4:=bq2.cell 4; simp only [List.getElem?_toArray,List.getElem?_cons_succ,List.getElem?_cons_zero] at r0 r1 r2 r3 r4))
  go_wp2
  go_ret
  exact ⟨by rw [E.out]; rfl,grown_trans (grown_trans (grown_drew A2.out) hq) hq2⟩
 have E:=hid (show Ln.linked ms m sect off x=x by rw [R.out]; unfold Ln.linkedR; rw [if_neg e1,if_neg (by dsimp only; omega),if_neg e4,if_neg e5])
 have d1:(rk == 1)=false:=by simpa using e1
 have d2:(rk == 2)=false:=by simpa using e2
 have d3:(rk == 3)=false:=by simpa using e3
 have d4:(rk == 4)=false:=by simpa using e4
 have d5:(rk == 5)=false:=by simpa using e5
 clear e1 e2 e3 e4 e5
 go_wp2
 go_ret
 exact ⟨by rw [E.out]; rfl,A2.out⟩

end Go.Proofs.YtnfgdlkiialnnaaGreatDoor

namespace Go.Proofs.YtnfgdlkiialnnaaGreatDoor
open Go.RowKit

/-- all lies low -/
structure MLow (m:Ln.Mod):Prop where
 text:∀ p∈m.text,0≤p∧p≤1200000000
 far:∀ p∈m.far,0≤p∧p≤1200000000
 data:0≤m.data∧m.data≤1200000000
 bss:0≤m.bss∧m.bss≤1200000000

theorem layMods_low:∀ (ms:List Ln.Mod) (t f d:Int),(∀ m∈ms,Valid m.obj)→0≤t→t+5000 * ms.length≤1200000000→0≤f→f+5000 * ms.length≤1200000000→0≤d→d+5000 * ms.length≤1200000000 →
  ∀ m∈Ln.layMods ms t f d,(∀ p∈m.text,0≤p∧p≤1200000000)∧(∀ p∈m.far,0≤p∧p≤1200000000)∧(0≤m.data∧m.data≤1200000000):=by
 intro ms
 induction ms with
 | nil=>intro t f d _ _ _ _ _ _ _ m hm; simp [Ln.layMods] at hm
 | cons x ms ih =>
  intro t f d hv a0 a1 b0 b1 c0 c1 m hm
  simp only [List.length_cons] at a1 b1 c1
  have vx:=hv x (by simp)
  have r1:=lay_range vx 1 (.inl rfl) t a0 (by omega)
  have r2:=lay_range vx 2 (.inr rfl) f b0 (by omega)
  have r3:=rup_range d (Ln.border x.obj 3) c0 (by omega) (borderI_vals _)
  have hl:x.obj.data.length≤64:=vx.1.1.2.2
  unfold Ln.layMods at hm
  rcases List.mem_cons.1 hm with rfl | hm
  ·refine ⟨fun p hp=>?_,fun p hp=>?_,?_⟩
   ·have:=r1.2.2 p hp; omega
   ·have:=r2.2.2 p hp; omega
   ·show 0≤Ln.rup d (Ln.border x.obj 3)∧Ln.rup d (Ln.border x.obj 3)≤1200000000
    omega
  ·exact ih _ _ _ (fun y hy=>hv y (by simp [hy])) (by omega) (by omega) (by omega) (by omega) (by omega) (by omega) m hm
theorem layBss_low:∀ (ms:List Ln.Mod) (b:Int),(∀ m∈ms,Valid m.obj)→0≤b→b+5000 * ms.length≤1200000000→(∀ m∈ms,(∀ p∈m.text,0≤p∧p≤1200000000)∧(∀ p∈m.far,0≤p∧p≤1200000000)∧(0≤m.data∧m.data≤1200000000))→∀ m∈Ln.layBss ms b,MLow m:=by
 intro ms
 induction ms with
 | nil=>intro b _ _ _ _ m hm; simp [Ln.layBss] at hm
 | cons x ms ih =>
  intro b hv a0 a1 hl m hm
  simp only [List.length_cons] at a1
  have vx:=hv x (by simp)
  have r3:=rup_range b (Ln.border x.obj 4) a0 (by omega) (borderI_vals _)
  have hb:=vx.1.2.1
  unfold Ln.layBss at hm
  rcases List.mem_cons.1 hm with rfl | hm
  ·have q:=hl x (by simp)
   exact ⟨q.1,q.2.1,q.2.2,by dsimp only; omega⟩
  ·exact ih _ (fun y hy=>hv y (by simp [hy])) (by omega) (by omega) (fun y hy=>hl y (by simp [hy])) m hm
theorem lay_low {ms:List Ln.Mod} {t f d:Int} (hv:∀ m∈ms,Valid m.obj) (hl:ms.length≤4096) (ht:0≤t∧t≤1073741824) (hf:0≤f∧f≤1073741824) (hd:0≤d∧d≤1073741824):∀ m∈Ln.lay t f d ms,MLow m:=by
 have r:=dataEnd_range ms d hv hd.1 (by omega)
 exact layBss_low _ _ (valid_same (layMods_obj ms t f d) hv) (by omega) (by rw [layMods_len]; omega) (layMods_low ms t f d hv ht.1 (by omega) hf.1 (by omega) hd.1 (by omega))

theorem placeOf_low (ps:List Int) (off:Int) (h:∀ p∈ps,0≤p∧p≤1200000000):0≤Ln.placeOf ps off∧Ln.placeOf ps off≤1200000000:=by
 unfold Ln.placeOf
 split
 ·omega
 ·rw [List.getD_eq_getElem?_getD]
  cases e:ps[(off.tdiv 4).toNat]? with
  | none=>simp
  | some p=>exact h p (List.mem_of_getElem? e)
theorem address_low {m:Ln.Mod} (h:MLow m) (sect off:Int) (h0:0≤off) (h1:off≤100000):0≤Ln.address m sect off∧Ln.address m sect off≤1200100000:=by
 have a:=placeOf_low m.text off h.text
 have b:=placeOf_low m.far off h.far
 have c:=h.data
 have d:=h.bss
 unfold Ln.address
 repeat' split
 all_goals omega

/-- a spot not far within its section -/
def SLow (s:Ln.Spot):Prop:=0≤s.off∧s.off≤100000
theorem spotAddr_low {ms:List Ln.Mod} (hl:∀ m∈ms,MLow m) (s:Ln.Spot) (hs:SLow s):0≤Ln.spotAddr ms s∧Ln.spotAddr ms s≤1200100000:=by
 unfold Ln.spotAddr
 cases s.mod with
 | none=>simp
 | some i =>
  dsimp only
  cases e:ms[i]? with
  | none=>simp
  | some m=>exact address_low (hl m (List.mem_of_getElem? e)) _ _ hs.1 hs.2
theorem target_low {ms:List Ln.Mod} (hl:∀ m∈ms,MLow m) (m:Ln.Mod) (hm:∀ s∈m.means,SLow s) (r:Lk.Rel):0≤Ln.target ms m r∧Ln.target ms m r≤1200100000:=by
 unfold Ln.target
 split
 ·omega
 ·rename_i h
  have hlt:r.sym.toNat < m.means.length:=by omega
  rw [List.getD_eq_getElem?_getD,List.getElem?_eq_getElem hlt]
  exact spotAddr_low hl _ (hm _ (List.getElem_mem hlt))
theorem wordsOf_few {o:Lk.Obj} (hv:Valid o) (sect:Int):(wordsOf o sect).length≤1200:=by
 have:=hv.1.1
 unfold wordsOf
 repeat' split
 ·exact this.1
 ·exact this.2.1
 ·have:=this.2.2; omega
 ·simp
theorem rel_off {o:Lk.Obj} (hv:Valid o) {r:Lk.Rel} (hr:r∈o.rels):AddendOk r∧0≤r.off∧r.off≤4800:=by
 obtain ⟨i,hi,hri⟩:=List.getElem_of_mem hr
 have RO:RelOk o r:=by rw [← hri]; exact (hv.2.2.2.2 i hi).1
 have hab:=RO.2.2.2.2.1
 have sp:=span_range RO.2.1
 have hw:=wordsOf_few hv r.sect
 obtain ⟨b1,b2,b3⟩:=hab
 exact ⟨RO.2.1,b1,by omega⟩
theorem relsNear_low {ms:List Ln.Mod} (hl:∀ m∈ms,MLow m) (m:Ln.Mod) (hm:∀ s∈m.means,SLow s) (hlow:MLow m) (hv:Valid m.obj):RelsNear ms m:=by
 intro r hr
 have t:=target_low hl m hm r
 have o:=rel_off hv hr
 have a:=address_low hlow r.sect r.off o.2.1 (by omega)
 unfold Ln.distance
 omega

/-! what names mean is kept while all is laid -/
theorem layMods_means:∀ (ms:List Ln.Mod) (t f d:Int),(Ln.layMods ms t f d).map Ln.Mod.means=ms.map Ln.Mod.means:=by
 intro ms
 induction ms with
 | nil=>intro t f d; rfl
 | cons m ms ih=>intro t f d; unfold Ln.layMods; rw [List.map_cons,ih,List.map_cons]; rfl
theorem layBss_means:∀ (ms:List Ln.Mod) (b:Int),(Ln.layBss ms b).map Ln.Mod.means=ms.map Ln.Mod.means:=by
 intro ms
 induction ms with
 | nil=>intro b; rfl
 | cons m ms ih=>intro b; unfold Ln.layBss; rw [List.map_cons,ih,List.map_cons]
theorem lay_means (ms:List Ln.Mod) (t f d:Int):(Ln.lay t f d ms).map Ln.Mod.means=ms.map Ln.Mod.means:=by unfold Ln.lay; rw [layBss_means,layMods_means]
theorem shorten_means (ms:List Ln.Mod):(Ln.shorten ms).map Ln.Mod.means=ms.map Ln.Mod.means:=by unfold Ln.shorten; rw [List.map_map]; rfl
theorem layout_means (ms:List Ln.Mod) (t f d:Int):(Ln.layout t f d ms).map Ln.Mod.means=ms.map Ln.Mod.means:=by unfold Ln.layout; rw [lay_means,shorten_means,lay_means]
theorem layout_obj (ms:List Ln.Mod) (t f d:Int):(Ln.layout t f d ms).map Ln.Mod.obj=ms.map Ln.Mod.obj:=by unfold Ln.layout; rw [lay_obj,shorten_obj,lay_obj]
theorem lay_len (ms:List Ln.Mod) (t f d:Int):(Ln.lay t f d ms).length=ms.length:=by unfold Ln.lay; rw [layBss_len,layMods_len]
theorem mem_same {α β:Type} (g:α→β) {ms ms':List α} (h:ms'.map g=ms.map g) {P:β→Prop} (hp:∀ m∈ms,P (g m)):∀ m∈ms',P (g m):=by
 intro m hm
 have:g m∈ms.map g:=by rw [← h]; exact List.mem_map_of_mem hm
 obtain ⟨x,hx,e⟩:=List.mem_map.1 this
 rw [← e]
 exact hp x hx
theorem layout_nice {n:Nat} {ms:List Ln.Mod} {t f d:Int} (hn:∀ m∈ms,MNice n m) (hv:∀ m∈ms,Valid m.obj) (hl:ms.length≤4096) (ht:0≤t∧t≤1073741824) (hf:0≤f∧f≤1073741824) (hd:0≤d∧d≤1073741824):∀ m∈Ln.layout t f d ms,MNice n m:=by
 have n1:=lay_nice hn hv hl (t:=t) (f:=f) (d:=d) (by omega) (by omega) (by omega)
 have v1:=valid_same (lay_obj ms t f d) hv
 exact lay_nice (shorten_nice n1) (valid_same (shorten_obj _) v1) (by unfold Ln.shorten; rw [List.length_map,lay_len]; exact hl) (by omega) (by omega) (by omega)
theorem layout_low {ms:List Ln.Mod} {t f d:Int} (hv:∀ m∈ms,Valid m.obj) (hl:ms.length≤4096) (ht:0≤t∧t≤1073741824) (hf:0≤f∧f≤1073741824) (hd:0≤d∧d≤1073741824):∀ m∈Ln.layout t f d ms,MLow m:=by
 have v1:=valid_same (lay_obj ms t f d) hv
 exact lay_low (valid_same (shorten_obj _) v1) (by unfold Ln.shorten; rw [List.length_map,lay_len]; exact hl) ht hf hd

/-! what a name means -/
theorem seclen_few {o:Lk.Obj} (hv:Valid o) (sect:Int):seclen o sect≤1200:=by
 unfold seclen
 split
 ·have:=hv.1.2.1; omega
 ·have:=wordsOf_few hv sect; omega
theorem sym_off {o:Lk.Obj} (hv:Valid o) {y:Lk.Sym} (hy:y∈o.syms):0≤y.off∧y.off≤4800:=by
 obtain ⟨i,hi,e⟩:=List.getElem_of_mem hy
 have:=(hv.2.2.2.1 i hi).1
 rw [e] at this
 have s:=seclen_few hv y.sect
 obtain ⟨-,-,-,-,a,-,c⟩:=this
 omega
theorem findIn_off (n:List UInt8) (bind:Int):∀ (ys:List Lk.Sym) (s f:Int),Ln.findIn n bind ys=some (s,f)→∃ y∈ys,y.sect=s∧y.off=f:=by
 intro ys
 induction ys with
 | nil=>intro s f h; simp [Ln.findIn] at h
 | cons y ys ih =>
  intro s f h
  unfold Ln.findIn at h
  split at h
  ·simp at h; exact ⟨y,by simp,h.1,h.2⟩
  ·obtain ⟨z,hz,e⟩:=ih s f h
   exact ⟨z,by simp [hz],e⟩
theorem findAt_low (n:List UInt8) (bind:Int):∀ (os:List Lk.Obj) (i:Nat),(∀ o∈os,Valid o)→SLow (Ln.findAt n bind i os):=by
 intro os
 induction os with
 | nil=>intro i _; unfold Ln.findAt SLow; simp [Ln.none_]
 | cons o os ih =>
  intro i hv
  unfold Ln.findAt
  cases e:Ln.findIn n bind o.syms with
  | none=>exact ih _ (fun x hx=>hv x (by simp [hx]))
  | some p =>
   obtain ⟨s,f⟩:=p
   obtain ⟨y,hy,-,rfl⟩:=findIn_off n bind o.syms s f e
   have:=sym_off (hv o (by simp)) hy
   unfold SLow
   dsimp only
   omega
theorem named_low (os:List Lk.Obj) (n:List UInt8) (hv:∀ o∈os,Valid o):SLow (Ln.named os n):=by
 unfold Ln.named Ln.find
 split
 ·exact findAt_low n 1 os 0 hv
 ·exact findAt_low n 2 os 0 hv
theorem meaning_low (os:List Lk.Obj) (i:Nat) (o:Lk.Obj) (ho:Valid o) (y:Lk.Sym) (hy:y∈o.syms) (hv:∀ o∈os,Valid o):SLow (Ln.meaning os i y):=by
 unfold Ln.meaning
 split
 ·have:=sym_off ho hy; unfold SLow; dsimp only; omega
 ·exact named_low os _ hv
theorem meaning_lt (os:List Lk.Obj) (i:Nat) (hi:i < os.length) (y:Lk.Sym) (j:Nat) (h:(Ln.meaning os i y).mod=some j):j < os.length:=by
 unfold Ln.meaning at h
 split at h
 ·simp at h; omega
 ·exact named_lt os _ j h

/-- what modules are once their names are resolved -/
structure ResAt (os:List Lk.Obj) (m:Ln.Mod):Prop where
 obj:Valid m.obj
 nice:MNice os.length m
 low:∀ s∈m.means,SLow s
 short:m.short=[]
theorem resAll_at (os:List Lk.Obj) (hv:∀ o∈os,Valid o):∀ m∈Ln.resAll os (os.map Ln.bare),ResAt os m:=by
 intro m hm
 unfold Ln.resAll at hm
 obtain ⟨i,hi,rfl⟩:=List.getElem_of_mem hm
 rw [List.length_mapIdx,List.length_map] at hi
 rw [List.getElem_mapIdx,List.getElem_map]
 have ho:=hv _ (List.getElem_mem hi)
 generalize os[i]=o at *
 have hs:=(valid_small ho)
 have L:∀ s∈(o.syms.map (Ln.meaning os i)),SLow s∧∀ j,s.mod=some j→j < os.length:=by
  intro s hs
  obtain ⟨y,hy,rfl⟩:=List.mem_map.1 hs
  exact ⟨meaning_low os i o ho y hy hv,fun j hj=>meaning_lt os i hi y j hj⟩
 refine ⟨ho,⟨⟨by simp [Ln.resOne,Ln.bare],by simp [Ln.resOne,Ln.bare]⟩,⟨by simp [Ln.resOne,Ln.bare],by simp [Ln.resOne,Ln.bare]⟩,by simp [Ln.resOne,Ln.bare],by simp [Ln.resOne,Ln.bare],⟨?_,fun s hs=>?_⟩,by simp [Ln.resOne,Ln.bare],⟨hs.2.2.2.2.2,fun r hr=>?_⟩⟩,fun s hs=>(L s hs).1,rfl⟩
 ·show (o.syms.map (Ln.meaning os i)).length≤65535
  rw [List.length_map]; exact hs.2.2.2.2.1
 ·have q:=L s hs
  have:=q.1
  unfold SLow at this
  exact ⟨by omega,q.2⟩
 ·have:=rel_off ho hr
  exact ⟨this.1,by omega,by omega⟩

end Go.Proofs.YtnfgdlkiialnnaaGreatDoor

namespace Go.Proofs.YtnfgdlkiialnnaaGreatDoor
open Go.RowKit

namespace Ln
/-- the gap up to an address is filled -/
def gapTo (base fl begin_:Int) (ws:List Int):List Int:=ws ++ List.replicate (((begin_ - base+3) / 4).toNat - ws.length) fl
/-- the words of a module's section that are not left out -/
def addWords (ms:List Mod) (m:Mod) (sect:Int):Nat→List Int→List Int
 | _,[]=>[]
 | i,w :: ws=>if address m sect (4 * i) < address m sect (4 * i+4) then linked ms m sect (4 * i) w :: addWords ms m sect (i+1) ws else addWords ms m sect (i+1) ws
def addTo (ms:List Mod) (m:Mod) (sect base fl:Int) (ws:List Int):List Int:=gapTo base fl (address m sect 0) ws ++ addWords ms m sect 0 (wordsOf m.obj sect)
/-- a region: the words of all modules -/
def region (ms:List Mod) (sect base fl:Int):List Mod→List Int→List Int
 | [],ws=>ws
 | m :: r,ws=>region ms sect base fl r (addTo ms m sect base fl ws)
end Ln

theorem gap_more {base fl b:Int} {ws:List Int} (h:base+4 * (ws.length:Int) < b):Ln.gapTo base fl b ws=Ln.gapTo base fl b (ws ++ [fl]):=by
 unfold Ln.gapTo
 have e:((b - base+3) / 4).toNat - ws.length=((b - base+3) / 4).toNat - (ws ++ [fl]).length+1:=by rw [List.length_append,List.length_singleton]; omega
 rw [e,List.replicate_succ,List.append_assoc,List.singleton_append]
theorem gap_done {base fl b:Int} {ws:List Int} (h:¬ base+4 * (ws.length:Int) < b):Ln.gapTo base fl b ws=ws:=by
 unfold Ln.gapTo
 have e:((b - base+3) / 4).toNat - ws.length=0:=by omega
 rw [e,List.replicate_zero,List.append_nil]
theorem gap_len (base fl b:Int) (ws:List Int):(Ln.gapTo base fl b ws).length=max ws.length ((b - base+3) / 4).toNat:=by
 unfold Ln.gapTo
 rw [List.length_append,List.length_replicate]
 omega
theorem addWords_drop (ms:List Ln.Mod) (m:Ln.Mod) (sect:Int) (ws:List Int) (k:Nat) (h:k < ws.length):Ln.addWords ms m sect k (ws.drop k)=if Ln.address m sect (4 * k) < Ln.address m sect (4 * k+4) then Ln.linked ms m sect (4 * k) ws[k] :: Ln.addWords ms m sect (k+1) (ws.drop (k+1)) else Ln.addWords ms m sect (k+1) (ws.drop (k+1)):=by
 rw [List.drop_eq_getElem_cons h]
 rfl
theorem addWords_len (ms:List Ln.Mod) (m:Ln.Mod) (sect:Int):∀ (ws:List Int) (k:Nat),(Ln.addWords ms m sect k ws).length≤ws.length:=by
 intro ws
 induction ws with
 | nil=>intro k; simp [Ln.addWords]
 | cons w ws ih =>
  intro k
  have:=ih (k+1)
  unfold Ln.addWords
  split
  ·simp only [List.length_cons]; omega
  ·simp only [List.length_cons]; omega

/-- a region in memory that is being filled -/
structure RegAt (W0:World) (R:Nat) (base fl:Int) (ws:List Int) (v:Value) (W:World):Prop where
 gr:W0.grownBy W none
 lo:W0.heap.size≤R
 blk:BlkAt W R #[.int .i64 base,.int .i64 fl,v] 128
 row:W.ownsRow W0.heap.size 3 1 v ws.length (ws.map (Value.int .i64))
/-- only the region and its row are written -/
structure RegTo (V W':World) (R:Nat) (v v':Value):Prop where
 keep:∀ k,k < V.heap.size→some k≠v.ownBlock→k≠R→W'.heap[k]?=V.heap[k]?
 blk:∀ k,v'.ownBlock=some k→v.ownBlock=some k∨V.heap.size≤k
 size:V.heap.size≤W'.heap.size
section
variable {W0 V W W' w3:World} {R R':Nat} {base fl base' fl' x:Int} {ws ws':List Int} {v v' v1 v2:Value}
theorem RegTo.refl (V:World) (R:Nat) (v:Value):RegTo V V R v v:=⟨fun _ _ _ _=>rfl,fun _ h=>.inl h,Nat.le_refl _⟩
theorem RegTo.grown (h:RegTo V W R v v1) (hg:W.grownBy W' none):RegTo V W' R v v1 :=
 ⟨fun k h1 h2 h3=>(hg.block k (Nat.lt_of_lt_of_le h1 h.size) (by simp)).trans (h.keep k h1 h2 h3),h.blk,Nat.le_trans h.size hg.size⟩
theorem RegTo.trans (h:RegTo V W R v v1) (q:RegTo W W' R v1 v2):RegTo V W' R v v2 :=
 ⟨fun k h1 h2 h3=>(q.keep k (Nat.lt_of_lt_of_le h1 h.size) (fun c=>by
   rcases h.blk k c.symm with e | e
   ·exact h2 e.symm
   ·omega) h3).trans (h.keep k h1 h2 h3),
  fun k e=>by
   rcases q.blk k e with e1 | e1
   ·exact h.blk k e1
   ·exact .inr (Nat.le_trans h.size e1),
  Nat.le_trans h.size q.size⟩
theorem RegAt.kept (h:RegAt W0 R base fl ws v W) (hg:W.grownBy W' none):RegAt W0 R base fl ws v W' :=
 ⟨grown_trans h.gr hg,h.lo,h.blk.grown hg (by simp),h.row.kept hg (Decidable.em _)⟩
theorem RegAt.step (h:RegAt W0 R base fl ws v V) (hown:w3.ownsRow W0.heap.size 3 1 v' (ws.length+1) (ws.map (Value.int .i64) ++ [.int .i64 x])) (hg:V.grownBy w3 v.ownBlock) (hat:v'.ownBlock=v.ownBlock∨v'.ownBlock=some V.heap.size) :
  RegAt W0 R base fl (ws ++ [x]) v' (w3.setCell ⟨R,2,none⟩ v')∧RegTo V (w3.setCell ⟨R,2,none⟩ v') R v v':=by
 have b3:=blk_ty h.blk hg (RowT.own h.row) (by decide)
 have gs:=grown_set w3 R 2 v'
 refine ⟨⟨?_,h.lo,?_,?_⟩,⟨fun k h1 h2 h3=>?_,fun k e=>?_,Nat.le_trans hg.size gs.size⟩⟩
 ·exact grown_hi (grown_hi h.gr hg (fun k e=>(h.row.lt k e).1)) gs (by intro k e; simp at e; have:=h.lo; omega)
 ·simpa using b3.set 2 v'
 ·have:=own_ty hown gs (RowT.blk b3) (by decide)
  rw [List.length_append,List.length_singleton,List.map_append]
  exact this
 ·rw [gs.block k (Nat.lt_of_lt_of_le h1 hg.size) (by simp; omega)]
  exact hg.block k h1 h2
 ·rcases hat with q | q
  ·exact .inl (q ▸ e)
  ·rw [q] at e
   simp at e
   exact .inr (by omega)
/-- another region is left alone -/
theorem RegAt.other (h:RegAt W0 R' base' fl' ws' v2 V) (g:RegAt W0 R base fl ws v V) (t:RegTo V W' R v v') (hW:W0.grownBy W' none) (hne:R'≠R) (ha:∀ k,v2.ownBlock=some k→v.ownBlock≠some k) :
  RegAt W0 R' base' fl' ws' v2 W'∧∀ k,v2.ownBlock=some k→v'.ownBlock≠some k:=by
 have nR:some R'≠v.ownBlock:=fun c=>by
  obtain ⟨cur,hc⟩:=RowT.own g.row R' c.symm
  have:=hc.symm.trans h.blk
  simp at this
 refine ⟨⟨hW,h.lo,?_,?_⟩,fun k e c=>?_⟩
 ·have:=t.keep R' h.blk.lt nR hne
  exact this.trans h.blk
 ·refine ⟨h.row.1,?_⟩
  rcases h.row.2 with q | ⟨g0,cap,cur,hv,hb,hg,r⟩
  ·exact .inl q
  ·refine .inr ⟨g0,cap,cur,hv,hb,?_,r⟩
   have e2:v2.ownBlock=some g0:=by rw [hv]; rfl
   rw [t.keep g0 (h.row.lt g0 e2).2 (fun c=>ha g0 e2 c.symm) (fun c=>by
    have:=hg.symm.trans (c ▸ g.blk)
    simp at this)]
   exact hg
 ·rcases t.blk k c with q | q
  ·exact ha k e q
  ·have:=(h.row.lt k e).2
   omega
end

end Go.Proofs.YtnfgdlkiialnnaaGreatDoor

namespace Go.Proofs.YtnfgdlkiialnnaaGreatDoor
open Go.RowKit

theorem and_n32 (n:Int):bits .and .i64 n 4294967295=n % 4294967296:=by
 have h1:(BitVec.ofInt 64 4294967295).toNat=2 ^ 32 - 1:=by decide
 have key:(BitVec.ofInt 64 n &&& BitVec.ofInt 64 4294967295).toNat=(n % ((2 ^ 64:Nat):Int)).toNat % 2 ^ 32:=by
  rw [BitVec.toNat_and,BitVec.toNat_ofInt,h1,Nat.and_two_pow_sub_one_eq_mod]
 show IntKind.i64.wrap ((BitVec.ofInt 64 n &&& BitVec.ofInt 64 4294967295).toNat:Nat)=_
 rw [key,IntKind.wrap_i64]
 omega

theorem StOk.sect' {s:ByteArray} {st:As.St} (h:StOk s st) (k:Nat) (hk:1≤k∧k≤4):StOk s { st with sect:=k } :=
 ⟨h.size,h.p,h.tok,h.fe,h.fa,h.op,hk,h.text,h.far,h.data,h.bss,h.align,h.syms,h.rels⟩

set_option maxRecDepth 100000 in
set_option maxHeartbeats 4000000 in
theorem section_any (B:Nat) (s:ByteArray) (b g:Nat) (st0:As.St) (W:World) (h:AsmAt B s b g st0 W) :
  Calls Tryz.prog 167 #[.pointer (some ⟨b,0,none⟩)] W fun en W'=>en = .returned (.tuple #[])∧DoesB B s b g W (As.section' st0) W':=by
 have D0:=hid h.doesB
 have c11:=cell_optext h
 have c13:=cell_sect h
 have f13:=h.blk.free 13
 have OK:=hid h.ok
 clear h
 have RS:=hid (show As.section' st0=if st0.op.text=[46,116,101,120,116] then { st0 with sect:=1 } else if st0.op.text=[46,102,97,114] then { st0 with sect:=2 } else if st0.op.text=[46,100,97,116,97] then { st0 with sect:=3 } else if st0.op.text=[46,98,115,115] then { st0 with sect:=4 } else st0 from rfl)
 generalize As.section' st0=X at *
 have e:∀ l:List UInt8,((bs st0.op.text).toList == l)=decide (st0.op.text=l):=fun l=>by rw [toList_bs,Bool.eq_iff_iff,beq_iff_eq,decide_eq_true_iff]
 have d1:=e [46,116,101,120,116]
 have d2:=e [46,102,97,114]
 have d3:=e [46,100,97,116,97]
 have d4:=e [46,98,115,115]
 clear e
 by_cases h1:st0.op.text=[46,116,101,120,116]
 ·rw [if_pos h1] at RS
  rw [decide_eq_true h1] at d1
  clear h1 d2 d3 d4
  go_enter Tryz.func167,Tryz.ntmps167
  go_wp2
  go_end0
  rw [RS.out]
  exact ⟨rfl,D0.out.sets [(13,.int .i64 1)] { st0 with sect:=1 } (by simp only [setsA,asmCells,List.foldl_cons,List.foldl_nil,List.setIfInBounds_toArray,List.set_cons_succ,List.set_cons_zero]; rfl) rfl (OK.out.sect' 1 (by omega))⟩
 rw [if_neg h1] at RS
 rw [decide_eq_false h1] at d1
 clear h1
 by_cases h2:st0.op.text=[46,102,97,114]
 ·rw [if_pos h2] at RS
  rw [decide_eq_true h2] at d2
  clear h2 d3 d4
  go_enter Tryz.func167,Tryz.ntmps167
  go_wp2
  go_end0
  rw [RS.out]
  exact ⟨rfl,D0.out.sets [(13,.int .i64 2)] { st0 with sect:=2 } (by simp only [setsA,asmCells,List.foldl_cons,List.foldl_nil,List.setIfInBounds_toArray,List.set_cons_succ,List.set_cons_zero]; rfl) rfl (OK.out.sect' 2 (by omega))⟩
 rw [if_neg h2] at RS
 rw [decide_eq_false h2] at d2
 clear h2
 by_cases h3:st0.op.text=[46,100,97,116,97]
 ·rw [if_pos h3] at RS
  rw [decide_eq_true h3] at d3
  clear h3 d4
  go_enter Tryz.func167,Tryz.ntmps167
  go_wp2
  go_end0
  rw [RS.out]
  exact ⟨rfl,D0.out.sets [(13,.int .i64 3)] { st0 with sect:=3 } (by simp only [setsA,asmCells,List.foldl_cons,List.foldl_nil,List.setIfInBounds_toArray,List.set_cons_succ,List.set_cons_zero]; rfl) rfl (OK.out.sect' 3 (by omega))⟩
 rw [if_neg h3] at RS
 rw [decide_eq_false h3] at d3
 clear h3
 by_cases h4:st0.op.text=[46,98,115,115]
 ·rw [if_pos h4] at RS
  rw [decide_eq_true h4] at d4
  clear h4 
  go_enter Tryz.func167,Tryz.ntmps167
  go_wp2
  go_end0
  rw [RS.out]
  exact ⟨rfl,D0.out.sets [(13,.int .i64 4)] { st0 with sect:=4 } (by simp only [setsA,asmCells,List.foldl_cons,List.foldl_nil,List.setIfInBounds_toArray,List.set_cons_succ,List.set_cons_zero]; rfl) rfl (OK.out.sect' 4 (by omega))⟩
 rw [if_neg h4] at RS
 rw [decide_eq_false h4] at d4
 clear h4
 go_enter Tryz.func167,Tryz.ntmps167
 go_wp2
 go_end0
 rw [RS.out]
 exact ⟨rfl,D0.out⟩

set_option maxRecDepth 100000 in
set_option maxHeartbeats 4000000 in
theorem binding_any (B:Nat) (s:ByteArray) (b g:Nat) (st0:As.St) (W:World) (h:AsmAt B s b g st0 W) :
  Calls Tryz.prog 171 #[.pointer (some ⟨b,0,none⟩)] W fun en W'=>en = .returned (.tuple #[])∧Does B s b g W (As.binding (sl s) st0) W':=by
 have c11:=cell_optext h
 have c1:=hid (bind_any B s b g st0 1 W h)
 have c2:=hid (bind_any B s b g st0 2 W h)
 clear h
 have RS:=hid (show As.binding (sl s) st0=As.bind (sl s) (if st0.op.text=[46,103,108,111,98,108] then 1 else 2) st0 from rfl)
 generalize As.binding (sl s) st0=X at *
 have d1:((bs st0.op.text).toList == [46,103,108,111,98,108])=decide (st0.op.text=[46,103,108,111,98,108]):=by rw [toList_bs,Bool.eq_iff_iff,beq_iff_eq,decide_eq_true_iff]
 by_cases h1:st0.op.text=[46,103,108,111,98,108]
 ·rw [if_pos h1] at RS
  rw [decide_eq_true h1] at d1
  clear h1
  go_enter Tryz.func171,Tryz.ntmps171
  go_wp2_with fail
  refine c1.out.mono ?_
  rintro e VF ⟨rfl,hh⟩
  have DF:=hid hh
  clear hh
  go_wp2
  (try simp only [Exit.inBlock,Exit.then]); refine bodyPost_ret (results_none rfl _ _ _) rfl ?_
  rw [RS.out]
  exact ⟨rfl,DF.out⟩
 ·rw [if_neg h1] at RS
  rw [decide_eq_false h1] at d1
  clear h1
  go_enter Tryz.func171,Tryz.ntmps171
  go_wp2_with fail
  refine c2.out.mono ?_
  rintro e VF ⟨rfl,hh⟩
  have DF:=hid hh
  clear hh
  go_wp2
  go_end0
  rw [RS.out]
  exact ⟨rfl,DF.out⟩

set_option maxRecDepth 100000 in
set_option maxHeartbeats 4000000 in
theorem word_any (B:Nat) (s:ByteArray) (b g:Nat) (st0:As.St) (W:World) (h:AsmAt B s b g st0 W) :
  Calls Tryz.prog 168 #[.pointer (some ⟨b,0,none⟩)] W fun en W'=>en = .returned (.tuple #[])∧Does B s b g W (As.word (sl s) st0) W':=by
 have D0:=hid h.does
 clear h
 obtain ⟨X,hX⟩:∃ X,X=As.word (sl s) st0:=⟨_,rfl⟩
 rw [← hX]
 unfold As.word at hX
 dsimp only at hX
 have RS:=hid hX
 clear hX
 go_enter Tryz.func168,Tryz.ntmps168
 obtain ⟨c2,c3,c4,c5⟩:=cell_b D0.out.1
 cases hk:(st0.tok.kind == 1)
 ·have d:((st0.tok.kind:Int) == 1)=false:=by simp at hk ⊢; omega
  have d':((st0.tok.kind:Int) != 1)=true:=by simp at hk ⊢; omega
  rw [hk] at RS
  rw [if_neg (by simp)] at RS
  clear hk
  go_wp2_with fail
  refine (aNumber_any B s b g st0 (-2147483648) 4294967295 _ D0.out.1).mono ?_
  rintro e V1 ⟨rfl,hh⟩
  have D1:=hid (D0.out.afterB hh)
  clear hh D0 c2 c3 c4 c5
  generalize As.number (sl s) (-2147483648) 4294967295 st0=R1 at *
  obtain ⟨n,st1⟩:=R1
  dsimp only at RS D1 ⊢
  have AN:=and_n32 n
  generalize n % 4294967296=m at *
  go_wp2_with fail
  refine (lay_any B s b g st1 _ 1 [m] _ (D1.out.alloc _).1 (words1 V1 m) (by simp)).mono ?_
  rintro e VF ⟨rfl,hh⟩
  have DF:=hid ((D1.out.alloc _).after hh)
  clear hh
  go_wp2
  first | go_end0 | ((try simp only [Exit.inBlock,Exit.then]); refine bodyPost_ret (results_none rfl _ _ _) rfl ?_)
  rw [RS.out]
  exact ⟨rfl,DF.out⟩
 ·have d:((st0.tok.kind:Int) == 1)=true:=by simp at hk ⊢; omega
  have d':((st0.tok.kind:Int) != 1)=false:=by simp at hk ⊢; omega
  rw [hk] at RS
  rw [if_pos rfl] at RS
  clear hk
  go_wp2_with fail
  refine (target_any B s b g st0 _ D0.out.1).mono ?_
  rintro e V1 ⟨rfl,hh⟩
  have D1:=hid (D0.out.after hh)
  clear hh D0 c2 c3 c4 c5
  generalize As.target (sl s) st0=R1 at *
  obtain ⟨⟨sym,add⟩,st1⟩:=R1
  dsimp only at RS D1 ⊢
  go_wp2_with fail
  refine (layWith_any B s b g st1 1 sym add _ 1 [0] _ (D1.out.alloc _).1 (words1 V1 0) (by simp)).mono ?_
  rintro e VF ⟨rfl,hh⟩
  have DF:=hid ((D1.out.alloc _).after hh)
  clear hh
  go_wp2
  first | go_end0 | ((try simp only [Exit.inBlock,Exit.then]); refine bodyPost_ret (results_none rfl _ _ _) rfl ?_)
  rw [RS.out]
  exact ⟨rfl,DF.out⟩

set_option maxRecDepth 100000 in
set_option maxHeartbeats 4000000 in
theorem space_any (B:Nat) (s:ByteArray) (b g:Nat) (st0:As.St) (W:World) (h:AsmAt B s b g st0 W) :
  Calls Tryz.prog 169 #[.pointer (some ⟨b,0,none⟩)] W fun en W'=>en = .returned (.tuple #[])∧Does B s b g W (As.space (sl s) st0) W':=by
 have D0:=hid h.does
 clear h
 obtain ⟨X,hX⟩:∃ X,X=As.space (sl s) st0:=⟨_,rfl⟩
 rw [← hX]
 unfold As.space at hX
 dsimp only at hX
 have RS:=hid hX
 clear hX
 go_enter Tryz.func169,Tryz.ntmps169
 have NB:=number_bnd (sl s) 0 4800 st0 (by omega) (by omega)
 go_wp2_with fail
 refine (aNumber_any B s b g st0 0 4800 _ D0.out.1).mono ?_
 rintro e V1 ⟨rfl,hh⟩
 have D1:=hid (D0.out.afterB hh)
 clear hh D0
 generalize As.number (sl s) 0 4800 st0=R1 at *
 obtain ⟨n,st1⟩:=R1
 dsimp only at RS D1 NB ⊢
 have c10:=cell_op D1.out.1
 have hpos:=D1.out.1.ok.op.pos
 obtain ⟨m,hm⟩:=Int.eq_ofNat_of_zero_le NB.1
 subst hm
 have hm0:(m:Int)≤4800:=NB.2
 by_cases c:(m:Int) % 4=0
 ·rw [if_pos c] at RS
  have d:((m:Int) % 4 == 0)=true:=by simp [c]
  have d':((m:Int) % 4 != 0)=false:=by simp [c]
  have em:((m:Int) / 4).toNat=m / 4:=by omega
  rw [em] at RS
  have hm4:=hid (show ((m:Int) / 4)=((m / 4:Nat):Int) by omega)
  have hm5:=hid (show m / 4≤4096 by omega)
  clear c em
  go_wp2_with fail
  refine (repeated_lit 0 (m / 4) _ hm4.out _ hm5.out).mono ?_
  rintro e V2 ⟨⟨ao,cap,rfl,hw⟩,hg⟩
  have D2:=hid (D1.out.grown hg)
  have HWD:=hid hw
  clear hg hw
  go_wp2_with fail
  refine (lay_rep B s b g st1 0 (m / 4) ao cap V2 D2.out.1 HWD.out hm5.out).mono ?_
  rintro e V3 ⟨rfl,h3⟩
  have D3:=hid (D2.out.after h3)
  clear h3
  go_wp2
  go_end0
  rw [RS.out]
  exact ⟨rfl,D3.out⟩
 ·rw [if_neg c] at RS
  have d:((m:Int) % 4 == 0)=false:=by simp [c]
  have d':((m:Int) % 4 != 0)=true:=by simp [c]
  clear c
  go_wp2_with fail
  refine (refuse_any B s b g st1 8 st1.op.pos V1 D1.out.1 (by omega) hpos).mono ?_
  rintro e V3 ⟨rfl,h3⟩
  have D3:=hid (D1.out.afterB h3)
  clear h3
  go_wp2
  (try simp only [Exit.inBlock,Exit.then]); refine bodyPost_ret (results_none rfl _ _ _) rfl ?_
  rw [RS.out]
  exact ⟨rfl,D3.out⟩

end Go.Proofs.YtnfgdlkiialnnaaGreatDoor
