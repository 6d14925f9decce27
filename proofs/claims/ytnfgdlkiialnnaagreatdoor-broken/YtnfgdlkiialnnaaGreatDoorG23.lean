/- Walks over package object: Write. -/
/- An image's bytes. -/
/- Linking. -/
/- Operations by their names, lines, texts, as functions. -/
/- The assembler: borders. -/
/- The assembler: align. -/
import Derived.Test.YtnfgdlkiialnnaaGreatDoorG22
import Derived.Test.YtnfgdlkiialnnaaGreatDoorG06
import Derived.Test.YtnfgdlkiialnnaaGreatDoorG04
import Derived.Test.YtnfgdlkiialnnaaGreatDoorG14
import Derived.Test.YtnfgdlkiialnnaaGreatDoorG20
namespace Go.Proofs.YtnfgdlkiialnnaaGreatDoor
open Go.RowKit

/-- an object whose memory is none of a Writer's in block b -/
structure ObjB (W:World) (b g:Nat) (o:Lk.Obj) (at_:Option Addr) (ct:Nat) (af:Option Addr) (cf:Nat) (ad:Option Addr) (cd:Nat) (aa:Option Addr) (ca:Nat) (as_:Option Addr) (cs:Nat) (ar:Option Addr) (cr:Nat):Prop where
 blk:BlkAt W g #[.slice at_ o.text.length ct,.slice af o.far.length cf,.slice ad o.data.length cd,.int .i64 o.bss,.slice aa o.align.length ca,.slice as_ o.syms.length cs,.slice ar o.rels.length cr] 90
 ne:g≠b
 text:IntsB W b at_ o.text
 far:IntsB W b af o.far
 data:IntsB W b ad o.data
 align:IntsB W b aa o.align
 syms:SymsB W b as_ o.syms
 rels:RelsB W b ar o.rels

section
variable {W W':World} {b g:Nat} {o:Lk.Obj} {at_ af ad aa as_ ar:Option Addr} {ct cf cd ca cs cr:Nat}
theorem ObjB.kept (h:ObjB W b g o at_ ct af cf ad cd aa ca as_ cs ar cr) (hk:Wk b W W'):ObjB W' b g o at_ ct af cf ad cd aa ca as_ cs ar cr :=
 ⟨hk.2 g _ _ h.ne (by decide) h.blk,h.ne,h.text.kept hk,h.far.kept hk,h.data.kept hk,h.align.kept hk,h.syms.kept hk,h.rels.kept hk⟩
end

theorem ObjAt.toB {W:World} {g:Nat} {o:Lk.Obj} (h:ObjAt W g o) (ob:Obj):∃ at_ ct af cf ad cd aa ca as_ cs ar cr,ObjB (W.alloc ob) W.heap.size g o at_ ct af cf ad cd aa ca as_ cs ar cr:=by
 obtain ⟨at_,ct,af,cf,ad,cd,aa,ca,as_,cs,ar,cr,hb,h1,h2,h3,h4,h5,h6⟩:=h.open
 have ne:∀ {e:TypeId} {size:Nat} {ao:Option Addr} {n cap:Nat} {xs:List Value},W.ownsRow 0 e size (.slice ao n cap) n xs→∀ k,Value.ownBlock (.slice ao n cap)=some k→k≠W.heap.size:=fun h k hk=>by have:=(h.lt k hk).2; omega
 refine ⟨at_,ct,af,cf,ad,cd,aa,ca,as_,cs,ar,cr,hb.grown (World.grownBy_alloc _ _ none) (by simp),by have:=hb.lt; omega,?_,?_,?_,?_,?_,?_⟩
 ·exact IntsB.of_own (h1.alloc _) (ne h1)
 ·exact IntsB.of_own (h2.alloc _) (ne h2)
 ·exact IntsB.of_own (h3.alloc _) (ne h3)
 ·exact IntsB.of_own (h4.alloc _) (ne h4)
 ·exact SymsB.of_own (h5.alloc _) (ne h5)
 ·exact RelsB.of_own (h6.alloc _) (ne h6)

/-- while an object is written -/
structure St4 (w:World) (b g:Nat) (o:Lk.Obj) (at_:Option Addr) (ct:Nat) (af:Option Addr) (cf:Nat) (ad:Option Addr) (cd:Nat) (aa:Option Addr) (ca:Nat) (as_:Option Addr) (cs:Nat) (ar:Option Addr) (cr:Nat) (l:List UInt8) (W:World):Prop where
 wr:WrAt W b l
 ob:ObjB W b g o at_ ct af cf ad cd aa ca as_ cs ar cr
 be:Below b w W

section
variable {w W W':World} {b g:Nat} {o:Lk.Obj} {at_ af ad aa as_ ar:Option Addr} {ct cf cd ca cs cr:Nat} {l l':List UInt8}
theorem St4.step (h:St4 w b g o at_ ct af cf ad cd aa ca as_ cs ar cr l W) (hw:WrAt W' b l') (hk:Wk b W W'):St4 w b g o at_ ct af cf ad cd aa ca as_ cs ar cr l' W' :=
 ⟨hw,h.ob.kept hk,h.be.trans hk.1⟩
end

theorem syms_snoc {α:Type} (f:α→List UInt8) (ys:List α) (k:Nat) (h:k < ys.length):(ys.take (k+1)).flatMap f=(ys.take k).flatMap f ++ f ys[k]:=by
 rw [List.take_succ_eq_append_getElem h,List.flatMap_append]
 simp
theorem flat_le {α:Type} (f:α→List UInt8) (c:Nat) (ys:List α) (hf:∀ y∈ys,(f y).length≤c):(ys.flatMap f).length≤ys.length * c:=by
 induction ys with
 | nil=>simp
 | cons y t ih =>
  have h1:=hf y (by simp)
  have h2:=ih (fun z hz=>hf z (by simp [hz]))
  rw [List.flatMap_cons,List.length_append,List.length_cons,Nat.succ_mul]
  omega
theorem flat_take_le {α:Type} (f:α→List UInt8) (c k:Nat) (ys:List α) (hf:∀ y∈ys,(f y).length≤c):((ys.take k).flatMap f).length≤ys.length * c:=by
 have h1:=flat_le f c (ys.take k) (fun y hy=>hf y (List.mem_of_mem_take hy))
 have h2:(ys.take k).length * c≤ys.length * c:=Nat.mul_le_mul_right c (by simp; omega)
 omega
theorem symB_le (y:Lk.Sym) (h:Lk.goodSym y):(Lk.symB y).length≤260:=by
 have:=h.1
 simp only [Lk.symB,List.length_append,Lk.le_length]
 omega
theorem relB_le (r:Lk.Rel):(Lk.relB r).length≤7:=by
 simp only [Lk.relB,List.length_append,Lk.le_length]
 omega

set_option maxHeartbeats 8000000 in
theorem write_yes (g:Nat) (o:Lk.Obj) (w:World) (ht:Tabs w) (h:ObjAt w g o) (hgood:Lk.goodObj o) (hv:Valid o) :
  Calls Tryz.prog 52 #[.pointer (some ⟨g,0,none⟩)] w fun e w'=>e = .returned (.tuple #[.string (bs (Lk.objB o)),.int .i64 0])∧w.grownBy w' none:=by
 have cV:=hid (valid_any g o w ht h (good_tame hgood))
 have HV:=hid hv
 have HO:=hid h
 have HGO:=hid hgood
 obtain ⟨z1,z2,z3,z4,z5,z6,z7,z8,z9,z10,z11,z12,z13⟩:=hgood
 obtain ⟨⟨s1,s2,s3⟩,s4,s5,s6⟩:=hv.1
 have HS:=hid z9
 have HRL:=hid z10
 have HW1:=hid z6
 have HWt:=hid z11
 have HWf:=hid z12
 have HWd:=hid z13
 have z5a:o.align.length≤4:=by omega
 clear ht h hv z9 z10 z6 z11 z12 z13 z5
 go_enter Tryz.func52,Tryz.ntmps52
 go_wp2_with fail
 refine cV.out.mono ?_
 rintro e W1 ⟨tv,q1⟩
 obtain rfl:=tells_yes tv HV.out
 have Q1:=hid q1
 have HO1:=hid (HO.out.kept q1)
 clear tv q1 cV
 go_wp2_with fail
 obtain ⟨at_,ct,af,cf,ad,cd,aa,ca,as_,cs,ar,cr,hob⟩:=HO1.out.toB (.cells #[.slice none 0 0] 57)
 have S0:Hid (St4 W1 W1.heap.size g o at_ ct af cf ad cd aa ca as_ cs ar cr [] (W1.alloc (.cells #[.slice none 0 0] 57))):=⟨wrAt_new W1,hob,(Below.refl _ _).alloc (Nat.le_refl _) _⟩
 clear hob
 generalize hbb:W1.heap.size=b at *
 have HBB:=hid hbb
 clear hbb
 refine Calls.at_world (St4 W1 b g o at_ ct af cf ad cd aa ca as_ cs ar cr []) S0.out ?_
 clear S0
 intro V0 h0
 have S0:=hid h0
 clear h0
 refine (wText_any b ⟨#[76,75]⟩ [] V0 S0.out.wr (by simp) (by decide)).mono ?_
 rintro e V1 ⟨rfl,hw,hk⟩
 have S1:=hid (S0.out.step hw hk)
 clear S0
 generalize hE1:[] ++ sl ⟨#[76,75]⟩=l1 at *
 have n1:l1.length≤2:=by rw [← hE1]; decide
 have E1:=hid hE1
 clear hE1 hw hk
 have k0:=S1.out.ob.blk.cell 0
 go_wp2_with fail
 refine (wNumber_lit b (o.text.length:Int) 2 2 rfl l1 V1 S1.out.wr (by omega) (by omega) (by omega) (by omega)).mono ?_
 rintro e V2 ⟨rfl,hw,hk⟩
 have S2:=hid (S1.out.step hw hk)
 clear S1 k0
 generalize hE2:l1 ++ Lk.le (o.text.length:Int) 2=l2 at *
 have n2:l2.length≤4:=by rw [← hE2,List.length_append,Lk.le_length]; omega
 have E2:=hid hE2
 clear hE2 hw hk
 have k0:=S2.out.ob.blk.cell 1
 go_wp2_with fail
 refine (wNumber_lit b (o.far.length:Int) 2 2 rfl l2 V2 S2.out.wr (by omega) (by omega) (by omega) (by omega)).mono ?_
 rintro e V3 ⟨rfl,hw,hk⟩
 have S3:=hid (S2.out.step hw hk)
 clear S2 k0
 generalize hE3:l2 ++ Lk.le (o.far.length:Int) 2=l3 at *
 have n3:l3.length≤6:=by rw [← hE3,List.length_append,Lk.le_length]; omega
 have E3:=hid hE3
 clear hE3 hw hk
 have k0:=S3.out.ob.blk.cell 2
 go_wp2_with fail
 refine (wNumber_lit b (o.data.length:Int) 2 2 rfl l3 V3 S3.out.wr (by omega) (by omega) (by omega) (by omega)).mono ?_
 rintro e V4 ⟨rfl,hw,hk⟩
 have S4:=hid (S3.out.step hw hk)
 clear S3 k0
 generalize hE4:l3 ++ Lk.le (o.data.length:Int) 2=l4 at *
 have n4:l4.length≤8:=by rw [← hE4,List.length_append,Lk.le_length]; omega
 have E4:=hid hE4
 clear hE4 hw hk
 have k0:=S4.out.ob.blk.cell 3
 go_wp2_with fail
 refine (wNumber_lit b o.bss 2 2 rfl l4 V4 S4.out.wr (by omega) (by omega) (by omega) (by omega)).mono ?_
 rintro e V5 ⟨rfl,hw,hk⟩
 have S5:=hid (S4.out.step hw hk)
 clear S4 k0
 generalize hE5:l4 ++ Lk.le o.bss 2=l5 at *
 have n5:l5.length≤10:=by rw [← hE5,List.length_append,Lk.le_length]; omega
 have E5:=hid hE5
 clear hE5 hw hk
 have k0:=S5.out.ob.blk.cell 4
 go_wp2_with fail
 refine (writeNumbers_any b aa ca 1 1 rfl o.align l5 V5 S5.out.wr S5.out.ob.align (by omega) (by omega) (by omega) (fun i hi=>by have:=HW1.out _ (List.getElem_mem hi); simp only [Int.reducePow] at this; omega)).mono ?_
 rintro e V6 ⟨rfl,hw,hk⟩
 have S6:=hid (S5.out.step hw hk)
 clear S5 k0
 generalize hE6:l5 ++ Lk.nums o.align 1=l6 at *
 have n6:l6.length≤14:=by rw [← hE6,List.length_append,nums_length]; omega
 have E6:=hid hE6
 clear hE6 hw hk
 have k0:=S6.out.ob.blk.cell 5
 go_wp2_with fail
 refine (wNumber_lit b (o.syms.length:Int) 1 1 rfl l6 V6 S6.out.wr (by omega) (by omega) (by omega) (by omega)).mono ?_
 rintro e V7 ⟨rfl,hw,hk⟩
 have S7:=hid (S6.out.step hw hk)
 clear S6 k0
 generalize hE7:l6 ++ Lk.le (o.syms.length:Int) 1=l7 at *
 have n7:l7.length≤15:=by rw [← hE7,List.length_append,Lk.le_length]; omega
 have E7:=hid hE7
 clear hE7 hw hk
 have k0:=S7.out.ob.blk.cell 6
 go_wp2_with fail
 refine (wNumber_lit b (o.rels.length:Int) 1 1 rfl l7 V7 S7.out.wr (by omega) (by omega) (by omega) (by omega)).mono ?_
 rintro e V8 ⟨rfl,hw,hk⟩
 have S8:=hid (S7.out.step hw hk)
 clear S7 k0
 generalize hE8:l7 ++ Lk.le (o.rels.length:Int) 1=l8 at *
 have n8:l8.length≤16:=by rw [← hE8,List.length_append,Lk.le_length]; omega
 have E8:=hid hE8
 clear hE8 hw hk
 have k0:=S8.out.ob.blk.cell 5
 go_wp2
 go_loopw [63] (fun i wr=>∃ n:Nat,n≤o.syms.length∧i = .int .i64 n∧St4 W1 b g o at_ ct af cf ad cd aa ca as_ cs ar cr (l8 ++ (o.syms.take n).flatMap Lk.symB) wr) (fun i _=>o.syms.length - (intOf i).toNat)
 case atStart=>exact ⟨0,Nat.zero_le _,rfl,by simpa using S8.out⟩
 case round =>
  obtain ⟨n,hn,rfl,hst⟩:=hrel
  have ST:=hid hst
  clear hst
  by_cases hlt:n < o.syms.length
  ·obtain ⟨sg,bs0,hao,hne,hbk,hc⟩:=ST.out.ob.syms (by omega)
   subst hao
   obtain ⟨q0,q1,q2,q3⟩:=hc n hlt
   have m0:=(hbk.cell (n * 4)).trans q0
   have m1:=(hbk.cell (n * 4+1)).trans q1
   have m2:=(hbk.cell (n * 4+2)).trans q2
   have m3:=(hbk.cell (n * 4+3)).trans q3
   have hgl:=hbk.lt
   have hwb:b < wr.heap.size:=by obtain ⟨_,_,x1,_⟩:=ST.out.wr; exact x1.lt
   have hgd:=HS.out _ (List.getElem_mem hlt)
   have hlen:(l8 ++ (o.syms.take n).flatMap Lk.symB).length≤1048576:=by
    have:=flat_take_le Lk.symB 260 n o.syms (fun y hy=>symB_le y (HS.out y hy))
    rw [List.length_append]
    omega
   have STA:=hid (St3.begin ST.out.wr #[.string (bs o.syms[n].name),.int .i64 o.syms[n].bind,.int .i64 o.syms[n].sect,.int .i64 o.syms[n].off] 124)
   have cW:=hid (fun W hW=>writeSymbol_any b o.syms[n] (l8 ++ (o.syms.take n).flatMap Lk.symB) W hW hlen hgd)
   clear hbk hc q0 q1 q2 q3 hgd hlen k0
   go_wp2_with fail
   refine (cW.out _ STA.out.wr).mono ?_
   rintro e W2 ⟨rfl,hw,hk⟩
   have S2:=hid (ST.out.step hw (STA.out.wk.trans hk))
   clear hw hk
   go_wp2
   go_roundw
   case rel=>exact ⟨n+1,by omega,by go_num,by rw [syms_snoc Lk.symB o.syms n hlt,← List.append_assoc]; exact S2.out⟩
   case measure=>simp [intOf]; omega
  ·have S9':=ST.out
   rw [List.take_of_length_le (show o.syms.length≤n by omega)] at S9'
   have S9:=hid S9'
   clear S9' ST k0 S8
   generalize hE9:l8 ++ o.syms.flatMap Lk.symB=l9 at *
   have n9:l9.length≤4176:=by
    have:=flat_le Lk.symB 260 o.syms (fun y hy=>symB_le y (HS.out y hy))
    rw [← hE9,List.length_append]
    omega
   have E9:=hid hE9
   clear hE9
   have k0:=S9.out.ob.blk.cell 6
   go_wp2
   go_loopw [75] (fun i wr=>∃ n:Nat,n≤o.rels.length∧i = .int .i64 n∧St4 W1 b g o at_ ct af cf ad cd aa ca as_ cs ar cr (l9 ++ (o.rels.take n).flatMap Lk.relB) wr) (fun i _=>o.rels.length - (intOf i).toNat)
   case atStart=>exact ⟨0,Nat.zero_le _,rfl,by simpa using S9.out⟩
   case round =>
    obtain ⟨n,hn,rfl,hst⟩:=hrel
    have ST:=hid hst
    clear hst
    by_cases hlt:n < o.rels.length
    ·obtain ⟨sg,bs0,hao,hne,hbk,hc⟩:=ST.out.ob.rels (by omega)
     subst hao
     obtain ⟨q0,q1,q2,q3,q4⟩:=hc n hlt
     have m0:=(hbk.cell (n * 5)).trans q0
     have m1:=(hbk.cell (n * 5+1)).trans q1
     have m2:=(hbk.cell (n * 5+2)).trans q2
     have m3:=(hbk.cell (n * 5+3)).trans q3
     have m4:=(hbk.cell (n * 5+4)).trans q4
     have hgl:=hbk.lt
     have hwb:b < wr.heap.size:=by obtain ⟨_,_,x1,_⟩:=ST.out.wr; exact x1.lt
     have hgd:=HRL.out _ (List.getElem_mem hlt)
     have hlen:(l9 ++ (o.rels.take n).flatMap Lk.relB).length≤1048576:=by
      have:=flat_take_le Lk.relB 7 n o.rels (fun y hy=>relB_le y)
      rw [List.length_append]
      omega
     have STA:=hid (St3.begin ST.out.wr #[.int .i64 o.rels[n].sect,.int .i64 o.rels[n].off,.int .i64 o.rels[n].kind,.int .i64 o.rels[n].sym,.int .i64 o.rels[n].addend] 139)
     have cW:=hid (fun W hW=>writeReloc_any b o.rels[n] (l9 ++ (o.rels.take n).flatMap Lk.relB) W hW hlen hgd)
     clear hbk hc q0 q1 q2 q3 q4 hgd hlen k0
     go_wp2_with fail
     refine (cW.out _ STA.out.wr).mono ?_
     rintro e W2 ⟨rfl,hw,hk⟩
     have S2:=hid (ST.out.step hw (STA.out.wk.trans hk))
     clear hw hk
     go_wp2
     go_roundw
     case rel=>exact ⟨n+1,by omega,by go_num,by rw [syms_snoc Lk.relB o.rels n hlt,← List.append_assoc]; exact S2.out⟩
     case measure=>simp [intOf]; omega
    ·have S10':=ST.out
     rw [List.take_of_length_le (show o.rels.length≤n by omega)] at S10'
     have S10:=hid S10'
     clear S10' ST k0 S9
     generalize hE10:l9 ++ o.rels.flatMap Lk.relB=l10 at *
     have n10:l10.length≤4400:=by
      have:=flat_le Lk.relB 7 o.rels (fun y hy=>relB_le y)
      rw [← hE10,List.length_append]
      omega
     have E10:=hid hE10
     clear hE10
     have k0:=S10.out.ob.blk.cell 0
     go_wp2_with fail
     refine (writeNumbers_any b at_ ct 4 4 rfl o.text l10 wr S10.out.wr S10.out.ob.text (by omega) (by omega) (by omega) (fun i hi=>by have:=HWt.out _ (List.getElem_mem hi); simp only [Int.reducePow] at this; omega)).mono ?_
     rintro e V11 ⟨rfl,hw,hk⟩
     have S11:=hid (S10.out.step hw hk)
     clear S10 k0
     generalize hE11:l10 ++ Lk.nums o.text 4=l11 at *
     have n11:l11.length≤9200:=by rw [← hE11,List.length_append,nums_length]; omega
     have E11:=hid hE11
     clear hE11 hw hk
     have k0:=S11.out.ob.blk.cell 1
     go_wp2_with fail
     refine (writeNumbers_any b af cf 4 4 rfl o.far l11 V11 S11.out.wr S11.out.ob.far (by omega) (by omega) (by omega) (fun i hi=>by have:=HWf.out _ (List.getElem_mem hi); simp only [Int.reducePow] at this; omega)).mono ?_
     rintro e V12 ⟨rfl,hw,hk⟩
     have S12:=hid (S11.out.step hw hk)
     clear S11 k0
     generalize hE12:l11 ++ Lk.nums o.far 4=l12 at *
     have n12:l12.length≤14000:=by rw [← hE12,List.length_append,nums_length]; omega
     have E12:=hid hE12
     clear hE12 hw hk
     have k0:=S12.out.ob.blk.cell 2
     go_wp2_with fail
     refine (writeNumbers_any b ad cd 4 4 rfl o.data l12 V12 S12.out.wr S12.out.ob.data (by omega) (by omega) (by omega) (fun i hi=>by have:=HWd.out _ (List.getElem_mem hi); simp only [Int.reducePow] at this; omega)).mono ?_
     rintro e V13 ⟨rfl,hw,hk⟩
     have S13:=hid (S12.out.step hw hk)
     clear S12 k0
     generalize hE13:l12 ++ Lk.nums o.data 4=l13 at *
     have n13:l13.length≤14256:=by rw [← hE13,List.length_append,nums_length]; omega
     have E13:=hid hE13
     clear hE13 hw hk
     go_wp2_with fail
     refine (wBytes_any b l13 V13 S13.out.wr).mono ?_
     rintro e V14 ⟨rfl,hv14⟩
     subst hv14
     go_wp2
     go_ret2
     have hfin:l13=Lk.objB o:=by
      rw [← E13.out,← E12.out,← E11.out,← E10.out,← E9.out,← E8.out,← E7.out,← E6.out,← E5.out,← E4.out,← E3.out,← E2.out,← E1.out]
      simp [Lk.objB,sl]
     refine ⟨by rw [hfin]; rfl,?_⟩
     have hb:=S13.out.be
     exact ⟨hb.os.trans Q1.out.os,hb.tape.trans Q1.out.tape,hb.output.trans Q1.out.output,Nat.le_trans Q1.out.size hb.size,fun i hi _=>(hb.block i (by have:=Q1.out.size; have:=HBB.out; omega)).trans (Q1.out.block i hi (by simp))⟩

end Go.Proofs.YtnfgdlkiialnnaaGreatDoor

namespace Go.Proofs.YtnfgdlkiialnnaaGreatDoor
open Go.RowKit

namespace Im
/-- an image's bytes -/
def bytes (m:Img):List UInt8:=[73,77] ++ Lk.le m.start 4 ++ Lk.le m.text 4 ++ Lk.le m.far 4 ++ Lk.le m.data 4 ++ Lk.le (m.T.length:Int) 2 ++ Lk.le (m.F.length:Int) 2 ++ Lk.le (m.D.length:Int) 2 ++ Lk.le m.noughts 2 ++ Lk.nums m.T 4 ++ Lk.nums m.F 4 ++ Lk.nums m.D 4
end Im

/-- an image whose memory is none of a Writer's in block b -/
structure ImgB (W:World) (b g:Nat) (m:Im.Img) (at_:Option Addr) (ct:Nat) (af:Option Addr) (cf:Nat) (ad:Option Addr) (cd:Nat):Prop where
 blk:BlkAt W g #[.int .i64 m.start,.int .i64 m.text,.int .i64 m.far,.int .i64 m.data,.slice at_ m.T.length ct,.slice af m.F.length cf,.slice ad m.D.length cd,.int .i64 m.noughts] 101
 ne:g≠b
 text:IntsB W b at_ m.T
 far:IntsB W b af m.F
 data:IntsB W b ad m.D
/-- while an image is written -/
structure StI (w:World) (b g:Nat) (m:Im.Img) (at_:Option Addr) (ct:Nat) (af:Option Addr) (cf:Nat) (ad:Option Addr) (cd:Nat) (l:List UInt8) (W:World):Prop where
 wr:WrAt W b l
 ob:ImgB W b g m at_ ct af cf ad cd
 be:Below b w W
section
variable {w W W':World} {b g:Nat} {m:Im.Img} {at_ af ad:Option Addr} {ct cf cd:Nat} {l l':List UInt8}
theorem ImgB.kept (h:ImgB W b g m at_ ct af cf ad cd) (hk:Wk b W W'):ImgB W' b g m at_ ct af cf ad cd :=
 ⟨hk.2 g _ _ h.ne (by decide) h.blk,h.ne,h.text.kept hk,h.far.kept hk,h.data.kept hk⟩
theorem StI.step (h:StI w b g m at_ ct af cf ad cd l W) (hw:WrAt W' b l') (hk:Wk b W W'):StI w b g m at_ ct af cf ad cd l' W' :=
 ⟨hw,h.ob.kept hk,h.be.trans hk.1⟩
end
theorem ImgAt.toB {W:World} {g:Nat} {m:Im.Img} (h:ImgAt W g m) (ob:Obj):∃ at_ ct af cf ad cd,ImgB (W.alloc ob) W.heap.size g m at_ ct af cf ad cd:=by
 obtain ⟨at_,ct,af,cf,ad,cd,hb,h1,h2,h3⟩:=h.open
 have ne:∀ {e:TypeId} {size:Nat} {ao:Option Addr} {n cap:Nat} {xs:List Value},W.ownsRow 0 e size (.slice ao n cap) n xs→∀ k,Value.ownBlock (.slice ao n cap)=some k→k≠W.heap.size:=fun h k hk=>by have:=(h.lt k hk).2; omega
 refine ⟨at_,ct,af,cf,ad,cd,hb.grown (World.grownBy_alloc _ _ none) (by simp),by have:=hb.lt; omega,?_,?_,?_⟩
 ·exact IntsB.of_own (h1.alloc _) (ne h1)
 ·exact IntsB.of_own (h2.alloc _) (ne h2)
 ·exact IntsB.of_own (h3.alloc _) (ne h3)

/-- numbers that can be written -/
def WordsIn (xs:List Int):Prop:=∀ i (h:i < xs.length),-1099511627776≤xs[i]∧xs[i]≤1099511627776

set_option maxRecDepth 100000 in
set_option maxHeartbeats 8000000 in
theorem imgWrite_any (g:Nat) (m:Im.Img) (w:World) (h:ImgAt w g m) (ht:Im.Tame m) (hT:WordsIn m.T) (hF:WordsIn m.F) (hD:WordsIn m.D) :
  Calls Tryz.prog 46 #[.pointer (some ⟨g,0,none⟩)] w fun e w'=>e = .returned (.string (bs (Im.bytes m)))∧w.grownBy w' none:=by
 obtain ⟨a1,a2,a3,a4,a5,a6⟩:=ht
 have HT:=hid hT
 have HF:=hid hF
 have HD:=hid hD
 obtain ⟨at_,ct,af,cf,ad,cd,hob⟩:=h.toB (.cells #[.slice none 0 0] 57)
 have S0:Hid (StI w w.heap.size g m at_ ct af cf ad cd [] (w.alloc (.cells #[.slice none 0 0] 57))):=⟨wrAt_new w,hob,(Below.refl _ _).alloc (Nat.le_refl _) _⟩
 clear hob h hT hF hD
 go_enter Tryz.func46,Tryz.ntmps46
 go_wp2_with fail
 generalize hbb:w.heap.size=b at *
 have HBB:=hid hbb
 clear hbb
 refine Calls.at_world (StI w b g m at_ ct af cf ad cd []) S0.out ?_
 clear S0
 intro V0 h0
 have S0:=hid h0
 clear h0
 refine (wText_any b ⟨#[73,77]⟩ [] V0 S0.out.wr (by simp) (by decide)).mono ?_
 rintro e V1 ⟨rfl,hw,hk⟩
 have S1:=hid (S0.out.step hw hk)
 clear S0
 generalize hE1:[] ++ sl ⟨#[73,77]⟩=l1 at *
 have n1:l1.length≤2:=by rw [← hE1]; decide
 have E1:=hid hE1
 clear hE1 hw hk
 have k0:=S1.out.ob.blk.cell 0
 go_wp2_with fail
 refine (wNumber_lit b m.start 4 4 rfl l1 V1 S1.out.wr (by omega) (by omega) (by omega) (by omega)).mono ?_
 rintro e V2 ⟨rfl,hw,hk⟩
 have S2:=hid (S1.out.step hw hk)
 clear S1 k0
 generalize hE2:l1 ++ Lk.le m.start 4=l2 at *
 have n2:l2.length≤6:=by rw [← hE2,List.length_append,Lk.le_length]; omega
 have E2:=hid hE2
 clear hE2 hw hk
 have k0:=S2.out.ob.blk.cell 1
 go_wp2_with fail
 refine (wNumber_lit b m.text 4 4 rfl l2 V2 S2.out.wr (by omega) (by omega) (by omega) (by omega)).mono ?_
 rintro e V3 ⟨rfl,hw,hk⟩
 have S3:=hid (S2.out.step hw hk)
 clear S2 k0
 generalize hE3:l2 ++ Lk.le m.text 4=l3 at *
 have n3:l3.length≤10:=by rw [← hE3,List.length_append,Lk.le_length]; omega
 have E3:=hid hE3
 clear hE3 hw hk
 have k0:=S3.out.ob.blk.cell 2
 go_wp2_with fail
 refine (wNumber_lit b m.far 4 4 rfl l3 V3 S3.out.wr (by omega) (by omega) (by omega) (by omega)).mono ?_
 rintro e V4 ⟨rfl,hw,hk⟩
 have S4:=hid (S3.out.step hw hk)
 clear S3 k0
 generalize hE4:l3 ++ Lk.le m.far 4=l4 at *
 have n4:l4.length≤14:=by rw [← hE4,List.length_append,Lk.le_length]; omega
 have E4:=hid hE4
 clear hE4 hw hk
 have k0:=S4.out.ob.blk.cell 3
 go_wp2_with fail
 refine (wNumber_lit b m.data 4 4 rfl l4 V4 S4.out.wr (by omega) (by omega) (by omega) (by omega)).mono ?_
 rintro e V5 ⟨rfl,hw,hk⟩
 have S5:=hid (S4.out.step hw hk)
 clear S4 k0
 generalize hE5:l4 ++ Lk.le m.data 4=l5 at *
 have n5:l5.length≤18:=by rw [← hE5,List.length_append,Lk.le_length]; omega
 have E5:=hid hE5
 clear hE5 hw hk
 have k0:=S5.out.ob.blk.cell 4
 go_wp2_with fail
 refine (wNumber_lit b (m.T.length:Int) 2 2 rfl l5 V5 S5.out.wr (by omega) (by omega) (by omega) (by omega)).mono ?_
 rintro e V6 ⟨rfl,hw,hk⟩
 have S6:=hid (S5.out.step hw hk)
 clear S5 k0
 generalize hE6:l5 ++ Lk.le (m.T.length:Int) 2=l6 at *
 have n6:l6.length≤20:=by rw [← hE6,List.length_append,Lk.le_length]; omega
 have E6:=hid hE6
 clear hE6 hw hk
 have k0:=S6.out.ob.blk.cell 5
 go_wp2_with fail
 refine (wNumber_lit b (m.F.length:Int) 2 2 rfl l6 V6 S6.out.wr (by omega) (by omega) (by omega) (by omega)).mono ?_
 rintro e V7 ⟨rfl,hw,hk⟩
 have S7:=hid (S6.out.step hw hk)
 clear S6 k0
 generalize hE7:l6 ++ Lk.le (m.F.length:Int) 2=l7 at *
 have n7:l7.length≤22:=by rw [← hE7,List.length_append,Lk.le_length]; omega
 have E7:=hid hE7
 clear hE7 hw hk
 have k0:=S7.out.ob.blk.cell 6
 go_wp2_with fail
 refine (wNumber_lit b (m.D.length:Int) 2 2 rfl l7 V7 S7.out.wr (by omega) (by omega) (by omega) (by omega)).mono ?_
 rintro e V8 ⟨rfl,hw,hk⟩
 have S8:=hid (S7.out.step hw hk)
 clear S7 k0
 generalize hE8:l7 ++ Lk.le (m.D.length:Int) 2=l8 at *
 have n8:l8.length≤24:=by rw [← hE8,List.length_append,Lk.le_length]; omega
 have E8:=hid hE8
 clear hE8 hw hk
 have k0:=S8.out.ob.blk.cell 7
 go_wp2_with fail
 refine (wNumber_lit b m.noughts 2 2 rfl l8 V8 S8.out.wr (by omega) (by omega) (by omega) (by omega)).mono ?_
 rintro e V9 ⟨rfl,hw,hk⟩
 have S9:=hid (S8.out.step hw hk)
 clear S8 k0
 generalize hE9:l8 ++ Lk.le m.noughts 2=l9 at *
 have n9:l9.length≤26:=by rw [← hE9,List.length_append,Lk.le_length]; omega
 have E9:=hid hE9
 clear hE9 hw hk
 have k0:=S9.out.ob.blk.cell 4
 go_wp2_with fail
 refine (writeNumbers_any b at_ ct 4 4 rfl m.T l9 V9 S9.out.wr S9.out.ob.text (by omega) (by omega) (by omega) HT.out).mono ?_
 rintro e V10 ⟨rfl,hw,hk⟩
 have S10:=hid (S9.out.step hw hk)
 clear S9 k0
 generalize hE10:l9 ++ Lk.nums m.T 4=l10 at *
 have n10:l10.length≤262166:=by rw [← hE10,List.length_append,nums_length]; omega
 have E10:=hid hE10
 clear hE10 hw hk
 have k0:=S10.out.ob.blk.cell 5
 go_wp2_with fail
 refine (writeNumbers_any b af cf 4 4 rfl m.F l10 V10 S10.out.wr S10.out.ob.far (by omega) (by omega) (by omega) HF.out).mono ?_
 rintro e V11 ⟨rfl,hw,hk⟩
 have S11:=hid (S10.out.step hw hk)
 clear S10 k0
 generalize hE11:l10 ++ Lk.nums m.F 4=l11 at *
 have n11:l11.length≤524306:=by rw [← hE11,List.length_append,nums_length]; omega
 have E11:=hid hE11
 clear hE11 hw hk
 have k0:=S11.out.ob.blk.cell 6
 go_wp2_with fail
 refine (writeNumbers_any b ad cd 4 4 rfl m.D l11 V11 S11.out.wr S11.out.ob.data (by omega) (by omega) (by omega) HD.out).mono ?_
 rintro e V12 ⟨rfl,hw,hk⟩
 have S12:=hid (S11.out.step hw hk)
 clear S11 k0
 generalize hE12:l11 ++ Lk.nums m.D 4=l12 at *
 have n12:l12.length≤786446:=by rw [← hE12,List.length_append,nums_length]; omega
 have E12:=hid hE12
 clear hE12 hw hk
 go_wp2_with fail
 refine (wBytes_any b l12 V12 S12.out.wr).mono ?_
 rintro e w2 ⟨rfl,rfl⟩
 have FIN:=hid (show l12=Im.bytes m by rw [← E12.out,← E11.out,← E10.out,← E9.out,← E8.out,← E7.out,← E6.out,← E5.out,← E4.out,← E3.out,← E2.out,← E1.out]; simp [Im.bytes,sl])
 have GR:=hid S12.out.be
 clear S12
 go_wp2
 go_ret
 refine ⟨by rw [FIN.out]; rfl,?_⟩
 have hb:=GR.out
 exact ⟨hb.os,hb.tape,hb.output,hb.size,fun i hi _=>hb.block i (by have:=HBB.out; omega)⟩

end Go.Proofs.YtnfgdlkiialnnaaGreatDoor

namespace Go.Proofs.YtnfgdlkiialnnaaGreatDoor
open Go.RowKit

namespace Ln
/-- what linking objects gives -/
def linkO (os:List Lk.Obj) (bt bf bd:Int):List UInt8×Flt :=
 if (resolveFlt os).e≠0 then ([],resolveFlt os)
 else if (placesFlt (linkImg os bt bf bd) (linkMods os bt bf bd)).e≠0 then ([],placesFlt (linkImg os bt bf bd) (linkMods os bt bf bd))
 else (Im.bytes (linkImg os bt bf bd),ok)
end Ln
/-- what comes of linking files -/
def LinkRet (bt bf bd:Int) (fs:List (List UInt8)) (e:Ending):Prop :=
 (∃ f:Ln.Flt,f.e≠0∧e = .returned (.tuple #[.string (bs []),lfA f]) ∧
  (f=baseFlt bt bf bd ∨
  (baseFlt bt bf bd=Ln.ok∧(fs.length < 1∨8 < fs.length)∧f=⟨31,0,[]⟩) ∨
  (baseFlt bt bf bd=Ln.ok∧1≤fs.length∧fs.length≤8∧∃ i,∃ h:i < fs.length,f=⟨32,i,[]⟩∧NoFile fs[i]∧∀ j (hj:j < i),∃ a os,FileIs (fs[j]'(by omega)) a os))) ∨
 (baseFlt bt bf bd=Ln.ok∧1≤fs.length∧fs.length≤8∧∃ (xs:List (Bool×List Lk.Obj)) (hx:xs.length=fs.length),(∀ i (h:i < fs.length),FileIs fs[i] (xs[i]'(by omega)).1 (xs[i]'(by omega)).2)∧e = .returned (.tuple #[.string (bs (Ln.linkO (Ln.takeAll xs) bt bf bd).1),lfA (Ln.linkO (Ln.takeAll xs) bt bf bd).2]))

theorem base_of_ok {bt bf bd:Int} (h:baseFlt bt bf bd=Ln.ok):Im.Base bt∧Im.Base bf∧Im.Base bd:=by
 have e:(baseFlt bt bf bd).e=0:=by rw [h]; rfl
 unfold baseFlt at e
 by_cases h1:¬ Im.Base bt
 ·rw [if_pos h1] at e; cases e
 rw [if_neg h1] at e
 by_cases h2:¬ Im.Base bf
 ·rw [if_pos h2] at e; cases e
 rw [if_neg h2] at e
 by_cases h3:¬ Im.Base bd
 ·rw [if_pos h3] at e; cases e
 exact ⟨Classical.not_not.1 h1,Classical.not_not.1 h2,Classical.not_not.1 h3⟩
theorem files_valid {fs:List (List UInt8)} {xs:List (Bool×List Lk.Obj)} (hx:xs.length=fs.length) (h8:fs.length≤8) (h:∀ i (h:i < fs.length),FileIs fs[i] (xs[i]'(by omega)).1 (xs[i]'(by omega)).2):(∀ o∈Ln.takeAll xs,Valid o)∧(Ln.takeAll xs).length≤48:=by
 have q:∀ x∈xs,(∀ o∈x.2,Valid o)∧x.2.length≤6:=by
  intro x hm
  obtain ⟨i,hi,rfl⟩:=List.getElem_of_mem hm
  exact fileIs_valid (h i (by omega))
 refine ⟨takeAll_all Valid xs [] (fun x hm=>(q x hm).1) (by simp),?_⟩
 have:=takeAll_len xs [] (fun x hm=>(q x hm).2)
 unfold Ln.takeAll
 simp only [List.length_nil] at this
 omega
theorem ImgAt.flt {W:World} {I R:Nat} {img:Im.Img} {cs:Array Value} (h:ImgAt W I img) (hb:BlkAt W R cs 45) (a b c:Value):ImgAt (((W.setCell ⟨R,0,none⟩ a).setCell ⟨R,1,none⟩ b).setCell ⟨R,2,none⟩ c) I img:=by
 have G:=World.grownBy.trans (World.grownBy.trans (grown_set W R 0 a) (grown_set _ R 1 b)) (grown_set _ R 2 c)
 obtain ⟨vt,vf,vd,q0,q1,q2,q3⟩:=h
 have RT:=RowT.blk hb
 exact ⟨vt,vf,vd,blk_ty q0 G RT (by decide),own_ty q1 G RT (by decide),own_ty q2 G RT (by decide),own_ty q3 G RT (by decide)⟩
theorem flt_set {W:World} {R:Nat} {x y z:Value} (h:BlkAt W R #[x,y,z] 45) (a b c:Value):BlkAt (((W.setCell ⟨R,0,none⟩ a).setCell ⟨R,1,none⟩ b).setCell ⟨R,2,none⟩ c) R #[a,b,c] 45:=by
 simpa using ((h.set 0 a).set 1 b).set 2 c
theorem w32_in {xs:List Int} (h:W32 xs):WordsIn xs:=fun i hi=>by
 have:=h _ (List.getElem_mem hi)
 omega

set_option maxRecDepth 100000 in
set_option maxHeartbeats 8000000 in
theorem link_any (bt bf bd:Int) (af:Option Addr) (cf:Nat) (fs:List (List UInt8)) (w:World) (hin:LStrs w af fs) (hsz:∀ f∈fs,f.length≤1048576) (ht:Tabs w) (hn:fs.length≤1048576) :
  Calls Tryz.prog 28 #[.slice af fs.length cf,.agg #[.int .i64 bt,.int .i64 bf,.int .i64 bd]] w fun e w'=>LinkRet bt bf bd fs e∧w.grownBy w' none:=by
 have HT:=hid ht
 have HI:=hid hin
 have cG:=hid (fun W (hg:w.grownBy W none)=>gather_any bt bf bd af cf fs W (HI.out.kept hg) hsz (HT.out.grown hg) hn)
 have hs1:(w.alloc (.cells #[.int .i64 bt,.int .i64 bf,.int .i64 bd] 35)).heap.size=w.heap.size+1:=Array.size_push _
 have A1:=World.grownBy_alloc (w.alloc (.cells #[.int .i64 bt,.int .i64 bf,.int .i64 bd] 35)) (.cells #[.int .i64 0,.int .i64 0,.string ⟨#[]⟩] 45) none
 have G1:=hid (grown_trans (World.grownBy_alloc w (.cells #[.int .i64 bt,.int .i64 bf,.int .i64 bd] 35) none) A1)
 have BR:=hid (BlkAt.new (w.alloc (.cells #[.int .i64 bt,.int .i64 bf,.int .i64 bd] 35)) #[.int .i64 0,.int .i64 0,.string ⟨#[]⟩] 45)
 rw [hs1] at BR
 clear hin ht A1 hs1
 go_enter Tryz.func28,Tryz.ntmps28
 go_wp2_with fail
 generalize (w.alloc (.cells #[.int .i64 bt,.int .i64 bf,.int .i64 bd] 35)).alloc (.cells #[.int .i64 0,.int .i64 0,.string ⟨#[]⟩] 45)=W1 at *
 have hRw:w.heap.size≤w.heap.size+1:=by omega
 generalize w.heap.size+1=R at *
 refine (cG.out _ G1.out).mono ?_
 rintro e W2 ⟨hg,h2⟩
 have G2:=hid (grown_trans G1.out h2)
 have BR2:=hid (BR.out.grown h2 (by simp))
 have hR1:=BR.out.lt
 have hR2:=BR2.out.lt
 have H12:=hid h2
 clear h2 cG BR
 rcases hg with ⟨f,hf,rfl,hc⟩ | ⟨hb,hl1,hl2,xs,hx,P,vm,bl,gl,hfi,rfl,hga⟩
 ·have RET:=hid (show LinkRet bt bf bd fs (.returned (.tuple #[.string (bs []),lfA f])) from .inl ⟨f,hf,rfl,hc⟩)
  obtain ⟨fe,fa,fn⟩:=f
  unfold lfA
  dsimp only at *
  have d1:(fe == 0)=false:=by simpa using hf
  have d2:(fe != 0)=true:=by simpa using hf
  have BX:=hid (BlkAt.new W2 #[.int .i64 fe,.int .i64 fa,.string (bs fn)] 45)
  have AX:=hid (World.grownBy_alloc W2 (.cells #[.int .i64 fe,.int .i64 fa,.string (bs fn)] 45) none)
  have BF:=hid (BR2.out.grown AX.out (by simp))
  have G3:=hid (grown_trans G2.out AX.out)
  clear hf hc
  go_wp2
  generalize W2.alloc (.cells #[.int .i64 fe,.int .i64 fa,.string (bs fn)] 45)=V at *
  have hXR:R≠W2.heap.size:=by omega
  generalize W2.heap.size=X at *
  have x0:V.cell? ⟨X,0,none⟩=some (.int .i64 fe):=BX.out.cell 0
  have x1:V.cell? ⟨X,1,none⟩=some (.int .i64 fa):=BX.out.cell 1
  have x2:V.cell? ⟨X,2,none⟩=some (.string (bs fn)):=BX.out.cell 2
  have z0:V.cell? ⟨R,0,none⟩=some (.int .i64 0):=BF.out.cell 0
  have z1:V.cell? ⟨R,1,none⟩=some (.int .i64 0):=BF.out.cell 1
  have z2:V.cell? ⟨R,2,none⟩=some (.string ⟨#[]⟩):=BF.out.cell 2
  have f0:=BF.out.free 0
  have f1:=BF.out.free 1
  have f2:=BF.out.free 2
  go_region_held3 (fun w'=>w'.cell? ⟨X,0,none⟩=some (.int .i64 fe)∧w'.cell? ⟨X,1,none⟩=some (.int .i64 fa)∧w'.cell? ⟨X,2,none⟩=some (.string (bs fn)))
   (go_keep)
   (fail)
  go_wp2
  have F:=blk_drew (((BF.out.set 0 (.int .i64 fe)).set 1 (.int .i64 fa)).set 2 (.string (bs fn)))
  have h0:=F.cell 0
  have h1:=F.cell 1
  have h2:=F.cell 2
  simp only [List.setIfInBounds_toArray,List.set_cons_succ,List.set_cons_zero,List.getElem?_toArray,List.getElem?_cons_succ,List.getElem?_cons_zero] at h0 h1 h2
  refine bodyPost_ret (v:=.tuple #[.string (bs []),lfA ⟨fe,fa,fn⟩]) ?_ rfl ⟨RET.out,grown_drew (sets3_grown G3.out _ hRw _ _ _)⟩
  clear F z0 z1 z2 f0 f1 f2
  generalize World.drew _=WF at *
  simp [results,Tryz.results28,go_sem,lfA,bs,h0,h1,h2]
 ·have LV:=files_valid hx hl2 hfi
  have FIN:=hid (fun (b:List UInt8) (f:Ln.Flt) (h:Ln.linkO (Ln.takeAll xs) bt bf bd=(b,f))=>show LinkRet bt bf bd fs (.returned (.tuple #[.string (bs b),lfA f])) from .inr ⟨hb,hl1,hl2,xs,hx,hfi,by rw [h]⟩)
  have hbs:=base_of_ok hb
  clear hb hl1 hl2 hfi
  generalize Ln.takeAll xs=os at *
  have OK:=hid (link_ok LV.1 LV.2 hbs.1 hbs.2.1 hbs.2.2)
  have RA:=hid (resAll_at os LV.1)
  have t:=fits_base hbs.1
  have f:=fits_base hbs.2.1
  have d:=fits_base hbs.2.2
  have LO:=hga.lenO
  have AX:=World.grownBy_alloc W2 (.cells #[.int .i64 0,.int .i64 0,.string (bs [])] 45) none
  have HP:=hid ((hga.prog.kept AX).f)
  have BX:=hid (BlkAt.new W2 #[.int .i64 0,.int .i64 0,.string (bs [])] 45)
  have BF:=hid (BR2.out.grown AX (by simp))
  have hXR:R≠W2.heap.size:=by omega
  have hX1:=hid H12.out.size
  have RS:=hid (show Ln.linkO os bt bf bd=if (Ln.resolveFlt os).e≠0 then ([],Ln.resolveFlt os) else if (Ln.placesFlt (Ln.linkImg os bt bf bd) (Ln.linkMods os bt bf bd)).e≠0 then ([],Ln.placesFlt (Ln.linkImg os bt bf bd) (Ln.linkMods os bt bf bd)) else (Im.bytes (Ln.linkImg os bt bf bd),Ln.ok) from rfl)
  have HL48:=hid LV.2
  clear hga AX hx LV hbs
  unfold lfA Ln.ok
  dsimp only
  go_upto_region 4 with fail
  generalize W2.alloc (.cells #[.int .i64 0,.int .i64 0,.string (bs [])] 45)=V at *
  generalize W2.heap.size=X at *
  have cRes:=hid (resolve_any V W1 P bt bf bd vm bl gl os V HP.out)
  generalize Ln.resolveFlt os=tf at *
  obtain ⟨te,ta,tn⟩:=tf
  unfold lfA ptrV at cRes
  unfold ptrV
  dsimp only at *
  go_wp2_with fail
  refine cRes.out.mono ?_
  rintro e V3 ⟨rfl,h3⟩
  have P3:=hid h3.toProgAt
  have BX3:=hid (h3.kf _ _ BX.out)
  have BR3:=hid (h3.kf _ _ BF.out)
  clear h3 cRes HP BX BF BR2
  have P4:=hid (P3.out.flt BX3.out hX1.out (.int .i64 te) (.int .i64 ta) (.string (bs tn)))
  have BX4:=hid (flt_set BX3.out (.int .i64 te) (.int .i64 ta) (.string (bs tn)))
  have BF:=hid (flt_other BR3.out hXR (.int .i64 te) (.int .i64 ta) (.string (bs tn)))
  have x0:V3.cell? ⟨X,0,none⟩=some (.int .i64 0):=BX3.out.cell 0
  have x1:V3.cell? ⟨X,1,none⟩=some (.int .i64 0):=BX3.out.cell 1
  have x2:V3.cell? ⟨X,2,none⟩=some (.string (bs [])):=BX3.out.cell 2
  have y0:V3.frozen? ⟨X,0,none⟩=false:=BX3.out.free 0
  have y1:V3.frozen? ⟨X,1,none⟩=false:=BX3.out.free 1
  have y2:V3.frozen? ⟨X,2,none⟩=false:=BX3.out.free 2
  go_upto_region 5 with fail
  clear x0 x1 x2 y0 y1 y2 P3 BX3 BR3
  generalize (((V3.setCell ⟨X,0,none⟩ (.int .i64 te)).setCell ⟨X,1,none⟩ (.int .i64 ta)).setCell ⟨X,2,none⟩ (.string (bs tn)))=V4 at *
  have x0:V4.cell? ⟨X,0,none⟩=some (.int .i64 te):=BX4.out.cell 0
  have x1:V4.cell? ⟨X,1,none⟩=some (.int .i64 ta):=BX4.out.cell 1
  have x2:V4.cell? ⟨X,2,none⟩=some (.string (bs tn)):=BX4.out.cell 2
  have G3:=hid (grown_trans G1.out P4.out.gr)
  by_cases he:te=0
  case neg =>
   have d1:(te == 0)=false:=by simpa using he
   have d2:(te != 0)=true:=by simpa using he
   have RET:=hid (FIN.out [] ⟨te,ta,tn⟩ (by rw [RS.out,if_pos he]))
   clear he
   go_wp2
   have z0:V4.cell? ⟨R,0,none⟩=some (.int .i64 0):=BF.out.cell 0
   have z1:V4.cell? ⟨R,1,none⟩=some (.int .i64 0):=BF.out.cell 1
   have z2:V4.cell? ⟨R,2,none⟩=some (.string ⟨#[]⟩):=BF.out.cell 2
   have f0:=BF.out.free 0
   have f1:=BF.out.free 1
   have f2:=BF.out.free 2
   go_region_held3 (fun w'=>w'.cell? ⟨X,0,none⟩=some (.int .i64 te)∧w'.cell? ⟨X,1,none⟩=some (.int .i64 ta)∧w'.cell? ⟨X,2,none⟩=some (.string (bs tn)))
    (go_keep)
    (fail)
   go_wp2
   have F:=blk_drew (((BF.out.set 0 (.int .i64 te)).set 1 (.int .i64 ta)).set 2 (.string (bs tn)))
   have h0:=F.cell 0
   have h1:=F.cell 1
   have h2:=F.cell 2
   simp only [List.setIfInBounds_toArray,List.set_cons_succ,List.set_cons_zero,List.getElem?_toArray,List.getElem?_cons_succ,List.getElem?_cons_zero] at h0 h1 h2
   refine bodyPost_ret (v:=.tuple #[.string (bs []),lfA ⟨te,ta,tn⟩]) ?_ rfl ⟨RET.out,grown_drew (sets3_grown G3.out _ hRw _ _ _)⟩
   clear F z0 z1 z2 f0 f1 f2
   generalize World.drew _=WF at *
   simp [results,Tryz.results28,go_sem,lfA,bs,h0,h1,h2]
  case pos =>
   subst he
   have RS2:=hid (show Ln.linkO os bt bf bd=if (Ln.placesFlt (Ln.linkImg os bt bf bd) (Ln.linkMods os bt bf bd)).e≠0 then ([],Ln.placesFlt (Ln.linkImg os bt bf bd) (Ln.linkMods os bt bf bd)) else (Im.bytes (Ln.linkImg os bt bf bd),Ln.ok) by rw [RS.out,if_neg (by simp)])
   have cLay:=hid (layout_any V4 W1 P bt bf bd vm bl gl _ _ 0 V4 P4.out.f (fun m hm=>by rw [← LO]; exact (RA.out m hm).nice) (fun m hm=>(RA.out m hm).obj) (fun m hm=>(RA.out m hm).short) (by omega) (by omega) (by omega))
   clear RS RA
   unfold ptrV at cLay
   go_wp2_with fail
   refine cLay.out.mono ?_
   rintro e V5 ⟨rfl,h5⟩
   have P5:=hid (show ProgAt W1 P bt bf bd vm bl gl (Ln.linkMods os bt bf bd) (Ln.named os Ln.startN) (Ln.noughts bd (Ln.shorten (Ln.lay bt bf bd (Ln.resAll os (os.map Ln.bare))))) V5 from h5.toProgAt)
   have BX5:=hid (h5.kf _ _ BX4.out)
   have BR5:=hid (h5.kf _ _ BF.out)
   clear h5 cLay x0 x1 x2 P4 BX4 BF G3
   have cB:=hid (build_any W1 P bt bf bd vm bl gl _ _ _ V5 (HT.out.grown (grown_trans G1.out P5.out.gr)) P5.out (by rw [← LO]; exact OK.out.nice) OK.out.valid OK.out.low OK.out.mean (by rw [← LO]; exact OK.out.start) (by rw [← LO]; exact HL48.out) (by omega) (by omega) (by omega))
   unfold ptrV at cB
   go_wp2_with fail
   refine cB.out.mono ?_
   rintro e V6 ⟨I,rfl,hI,h6⟩
   have I6:=hid (show ImgAt V6 I (Ln.linkImg os bt bf bd) from hI)
   have P6:=hid (P5.out.kept h6)
   have BX6:=hid (BX5.out.grown h6 (by simp))
   have BR6:=hid (BR5.out.grown h6 (by simp))
   clear hI h6 cB P5 BX5 BR5
   have cC:=hid (checkPlaces_any W1 P bt bf bd vm bl gl _ _ _ I _ V6 P6.out (by rw [← LO]; exact OK.out.nice) I6.out OK.out.tame)
   generalize Ln.placesFlt (Ln.linkImg os bt bf bd) (Ln.linkMods os bt bf bd)=pf at *
   obtain ⟨pe,pa,pn⟩:=pf
   unfold ptrV lfA at cC
   dsimp only at *
   go_wp2_with fail
   refine cC.out.mono ?_
   rintro e V7 ⟨rfl,h7⟩
   have I7:=hid (I6.out.kept h7)
   have P7:=hid (P6.out.kept h7)
   have BX7:=hid (BX6.out.grown h7 (by simp))
   have BR7:=hid (BR6.out.grown h7 (by simp))
   clear h7 cC I6 P6 BX6 BR6
   have I8:=hid (I7.out.flt BX7.out (.int .i64 pe) (.int .i64 pa) (.string (bs pn)))
   have P8:=hid (P7.out.flt BX7.out hX1.out (.int .i64 pe) (.int .i64 pa) (.string (bs pn)))
   have BX8:=hid (flt_set BX7.out (.int .i64 pe) (.int .i64 pa) (.string (bs pn)))
   have BF:=hid (flt_other BR7.out hXR (.int .i64 pe) (.int .i64 pa) (.string (bs pn)))
   have x0:V7.cell? ⟨X,0,none⟩=some (.int .i64 0):=BX7.out.cell 0
   have x1:V7.cell? ⟨X,1,none⟩=some (.int .i64 ta):=BX7.out.cell 1
   have x2:V7.cell? ⟨X,2,none⟩=some (.string (bs tn)):=BX7.out.cell 2
   have y0:V7.frozen? ⟨X,0,none⟩=false:=BX7.out.free 0
   have y1:V7.frozen? ⟨X,1,none⟩=false:=BX7.out.free 1
   have y2:V7.frozen? ⟨X,2,none⟩=false:=BX7.out.free 2
   go_upto_region 10 with fail
   clear x0 x1 x2 y0 y1 y2 P7 BX7 BR7 I7
   generalize (((V7.setCell ⟨X,0,none⟩ (.int .i64 pe)).setCell ⟨X,1,none⟩ (.int .i64 pa)).setCell ⟨X,2,none⟩ (.string (bs pn)))=V8 at *
   have x0:V8.cell? ⟨X,0,none⟩=some (.int .i64 pe):=BX8.out.cell 0
   have x1:V8.cell? ⟨X,1,none⟩=some (.int .i64 pa):=BX8.out.cell 1
   have x2:V8.cell? ⟨X,2,none⟩=some (.string (bs pn)):=BX8.out.cell 2
   have G3:=hid (grown_trans G1.out P8.out.gr)
   by_cases he:pe=0
   case neg =>
    have d1:(pe == 0)=false:=by simpa using he
    have d2:(pe != 0)=true:=by simpa using he
    have RET:=hid (FIN.out [] ⟨pe,pa,pn⟩ (by rw [RS2.out,if_pos he]))
    clear he
    go_wp2
    have z0:V8.cell? ⟨R,0,none⟩=some (.int .i64 0):=BF.out.cell 0
    have z1:V8.cell? ⟨R,1,none⟩=some (.int .i64 0):=BF.out.cell 1
    have z2:V8.cell? ⟨R,2,none⟩=some (.string ⟨#[]⟩):=BF.out.cell 2
    have f0:=BF.out.free 0
    have f1:=BF.out.free 1
    have f2:=BF.out.free 2
    go_region_held3 (fun w'=>w'.cell? ⟨X,0,none⟩=some (.int .i64 pe)∧w'.cell? ⟨X,1,none⟩=some (.int .i64 pa)∧w'.cell? ⟨X,2,none⟩=some (.string (bs pn)))
     (go_keep)
     (fail)
    go_wp2
    have F:=blk_drew (((BF.out.set 0 (.int .i64 pe)).set 1 (.int .i64 pa)).set 2 (.string (bs pn)))
    have h0:=F.cell 0
    have h1:=F.cell 1
    have h2:=F.cell 2
    simp only [List.setIfInBounds_toArray,List.set_cons_succ,List.set_cons_zero,List.getElem?_toArray,List.getElem?_cons_succ,List.getElem?_cons_zero] at h0 h1 h2
    refine bodyPost_ret (v:=.tuple #[.string (bs []),lfA ⟨pe,pa,pn⟩]) ?_ rfl ⟨RET.out,grown_drew (sets3_grown G3.out _ hRw _ _ _)⟩
    clear F z0 z1 z2 f0 f1 f2
    generalize World.drew _=WF at *
    simp [results,Tryz.results28,go_sem,lfA,bs,h0,h1,h2]
   case pos =>
    subst he
    have RET:=hid (FIN.out (Im.bytes (Ln.linkImg os bt bf bd)) Ln.ok (by rw [RS2.out,if_neg (by simp)]))
    have iw:=image_words (Ln.named os Ln.startN) bt bf bd (Ln.noughts bd (Ln.shorten (Ln.lay bt bf bd (Ln.resAll os (os.map Ln.bare))))) OK.out.valid
    have cW:=hid (imgWrite_any I (Ln.linkImg os bt bf bd) V8 I8.out OK.out.tame (w32_in iw.1) (w32_in iw.2.1) (w32_in iw.2.2))
    clear iw
    go_wp2_with fail
    refine cW.out.mono ?_
    rintro e V9 ⟨rfl,h9⟩
    have G9:=hid (grown_trans G3.out h9)
    have BR:=hid (BF.out.grown h9 (by simp))
    clear h9 cW x0 x1 x2 P8 BX8 I8 BF
    have z0:V9.cell? ⟨R,0,none⟩=some (.int .i64 0):=BR.out.cell 0
    have z1:V9.cell? ⟨R,1,none⟩=some (.int .i64 0):=BR.out.cell 1
    have z2:V9.cell? ⟨R,2,none⟩=some (.string ⟨#[]⟩):=BR.out.cell 2
    have f0:=BR.out.free 0
    have f1:=BR.out.free 1
    have f2:=BR.out.free 2
    go_wp2
    have F:=((BR.out.set 0 (.int .i64 0)).set 1 (.int .i64 0)).set 2 (.string ⟨#[]⟩)
    have h0:=F.cell 0
    have h1:=F.cell 1
    have h2:=F.cell 2
    simp only [List.setIfInBounds_toArray,List.set_cons_succ,List.set_cons_zero,List.getElem?_toArray,List.getElem?_cons_succ,List.getElem?_cons_zero] at h0 h1 h2
    refine bodyPost_ret (v:=.tuple #[.string (bs (Im.bytes (Ln.linkImg os bt bf bd))),lfA Ln.ok]) ?_ rfl ⟨RET.out,sets3_grown G9.out _ hRw _ _ _⟩
    clear F z0 z1 z2 f0 f1 f2
    generalize World.setCell _ _ _=WF at *
    simp [results,Tryz.results28,go_sem,lfA,Ln.ok,bs,h0,h1,h2]

end Go.Proofs.YtnfgdlkiialnnaaGreatDoor

namespace Go.Proofs.YtnfgdlkiialnnaaGreatDoor
namespace As

def dirShape (t:List UInt8):Nat :=
 if t=[46,116,101,120,116] then 15 else
 if t=[46,102,97,114] then 15 else
 if t=[46,100,97,116,97] then 15 else
 if t=[46,98,115,115] then 15 else
 if t=[46,119,111,114,100] then 16 else
 if t=[46,115,112,97,99,101] then 17 else
 if t=[46,97,108,105,103,110] then 18 else
 if t=[46,103,108,111,98,108] then 19 else
 if t=[46,119,101,97,107] then 19 else
 0
def shapeOf (t:List UInt8):Nat :=
 if t=[97,100,100] then 1 else
 if t=[115,117,98] then 1 else
 if t=[115,108,116] then 1 else
 if t=[115,108,116,117] then 1 else
 if t=[120,111,114] then 1 else
 if t=[111,114] then 1 else
 if t=[97,110,100] then 1 else
 if t=[97,100,100,105] then 2 else
 if t=[115,108,116,105] then 2 else
 if t=[120,111,114,105] then 2 else
 if t=[111,114,105] then 2 else
 if t=[97,110,100,105] then 2 else
 if t=[108,117,105] then 3 else
 if t=[108,119] then 4 else
 if t=[115,119] then 5 else
 if t=[106,97,108,114] then 6 else
 if t=[101,99,97,108,108] then 7 else
 if t=[114,101,116] then 7 else
 if t=[110,111,112] then 7 else
 if t=[98,101,113] then 8 else
 if t=[98,110,101] then 8 else
 if t=[98,108,116] then 8 else
 if t=[98,103,101] then 8 else
 if t=[98,108,116,117] then 8 else
 if t=[98,103,101,117] then 8 else
 if t=[106,97,108] then 9 else
 if t=[106] then 10 else
 if t=[109,118] then 11 else
 if t=[108,105] then 12 else
 if t=[99,97,108,108] then 13 else
 if t=[116,97,105,108] then 13 else
 if t=[108,97] then 14 else
 dirShape t

/-- what each instruction is called -/
def names:List (List UInt8):=[[],[108,117,105],[97,117,105,112,99],[106,97,108],[106,97,108,114],[98,101,113],[98,110,101],[98,108,116],[98,103,101],[98,108,116,117],[98,103,101,117],[108,119],[115,119],[97,100,100,105],[115,108,116,105],[120,111,114,105],[111,114,105],[97,110,100,105],[97,100,100],[115,117,98],[115,108,116],[115,108,116,117],[120,111,114],[111,114],[97,110,100],[101,99,97,108,108]]
def named (t:List UInt8):Nat:=((List.range 26).find? fun k=>decide (1≤k) && names.getD k [] == t).getD 0

def instruction (s:List UInt8) (shape op:Nat) (st:St):St :=
 if shape=1 then threeRegs s op st else if shape=2 then twoRegsNum s op st else if shape=3 then upper s st else if shape=4 then load s st
 else if shape=5 then store s st else if shape=6 then jumpRegister s st else if shape=7 then bare st else if shape=8 then branch s op st
 else if shape=9 then jumpLink s st else if shape=10 then layJump s 0 st else if shape=11 then move s st else if shape=12 then loadNumber s st
 else if shape=13 then call s st else if shape=14 then loadAddress s st else st

def directive (s:List UInt8) (shape:Nat) (st:St):St :=
 if shape=15 then section' st else if shape=16 then word s st else if shape=17 then space s st else if shape=18 then align s st
 else if shape=19 then binding s st else st

def mayStand (shape sect:Nat):Bool:=if shape≤14 then inCode sect else !(shape == 16) || !(sect == 4)

def operation (s:List UInt8) (t:Tok) (st:St):St :=
 if shapeOf t.text=0 then refuse 6 t.pos st
 else if !mayStand (shapeOf t.text) st.sect then refuse 9 t.pos st
 else if shapeOf t.text≤14 then instruction s (shapeOf t.text) (named t.text) { st with op:=t }
 else directive s (shapeOf t.text) { st with op:=t }

/-- a line, behind its label -/
def lineOp (s:List UInt8) (t:Tok) (st:St):St :=
 let st1:=if t.kind == 1 then operation s t st else st
 if st1.tok.kind == 4 then st1 else refuse 3 st1.tok.pos st1

def line (s:List UInt8) (st:St):St :=
 let w:=takeWord s (advance s st)
 if w.1.kind == 1 && w.2.tok.is [58] then
  let v:=takeWord s (advance s (label w.1 w.2))
  lineOp s v.1 v.2
 else lineOp s w.1 w.2

def lines (s:List UInt8):Nat→St→St
 | 0,st=>st
 | n+1,st =>
  let r:=nextLine s (line s st)
  if r.1 then lines s n r.2 else r.2

def bindRest (ys:List Lk.Sym):List Lk.Sym:=ys.map fun y=>if y.sect=0∧y.bind=0 then ⟨y.name,1,y.sect,y.off⟩ else y
def orderRels (rs:List Lk.Rel):List Lk.Rel:=(rs.filter fun r=>r.sect=1) ++ (rs.filter fun r=>r.sect=2) ++ (rs.filter fun r=>r.sect=3)

def start:St:=⟨0,Tok.nil,0,0,Tok.nil,1,⟨[],[],[],0,[2,2,2,2],[],[]⟩⟩
def finish (o:Lk.Obj):Lk.Obj:={ o with syms:=bindRest o.syms,rels:=orderRels o.rels }

/-- a text's fault, or its object -/
def assemble (s:List UInt8):(Nat×Nat)×Lk.Obj :=
 if 1000 < s.length then ((1,0),start.obj)
 else ((( lines s (s.length+1) start).fe,(lines s (s.length+1) start).fa),finish (lines s (s.length+1) start).obj)

end As
end Go.Proofs.YtnfgdlkiialnnaaGreatDoor

namespace Go.Proofs.YtnfgdlkiialnnaaGreatDoor
open Go.RowKit

set_option maxHeartbeats 1000000 in
theorem inCode_any (B:Nat) (s:ByteArray) (b g:Nat) (st:As.St) (W:World) (h:AsmAt B s b g st W) :
  Calls Tryz.prog 152 #[.pointer (some ⟨b,0,none⟩)] W fun e W'=>e = .returned (.bool (As.inCode st.sect))∧W'=W:=by
 have c:=cell_sect h
 have hs:=h.ok.sect
 clear h
 generalize st.sect=sect at *
 rcases (show sect=1∨sect=2∨sect=3∨sect=4 by omega) with rfl | rfl | rfl | rfl
 all_goals
  go_enter Tryz.func152,Tryz.ntmps152
  go_wp2
  go_ret
  exact ⟨rfl,rfl⟩

theorem align_cells {B:Nat} {s:ByteArray} {b g:Nat} {V:World} {st:As.St} (h:AsmAt B s b g st V) (i:Nat) (hi:i < 4):∃ vt vf vd ag cs vs vr x,ObjOwn B V b g st.obj vt vf vd (.slice (some ⟨ag,0,none⟩) 4 cs) vs vr∧V.cell? ⟨g,4,none⟩=some (.slice (some ⟨ag,0,none⟩) 4 cs) ∧
  st.obj.align[i]?=some x∧V.cell? ⟨ag,i,none⟩=some (.int .i64 x)∧(∀ o,V.frozen? ⟨ag,o,none⟩=false)∧4≤cs:=by
 have h4:=h.ok.align
 obtain ⟨vt,vf,vd,va,vs,vr,ho⟩:=h.own
 obtain ⟨as_,cs,rfl⟩:=own_form ho.align
 obtain ⟨ag,cur,rfl,hb,-,-,hcs⟩:=own_blk ho.align (by omega)
 obtain ⟨ag',off,hag,hc⟩:=IntsIn.of_own ho.align (by omega)
 simp only [Option.some.injEq,Addr.mk.injEq] at hag
 obtain ⟨rfl,rfl,-⟩:=hag
 have k:=hc i (by omega)
 rw [Nat.zero_add] at k
 have g4:=ho.blk.cell 4
 simp only [List.getElem?_toArray,List.getElem?_cons_succ,List.getElem?_cons_zero] at g4
 rw [h4] at ho g4 hcs
 exact ⟨vt,vf,vd,ag,cs,vs,vr,st.obj.align[i]'(by omega),ho,g4,List.getElem?_eq_getElem (by omega),k,fun o=>hb.free o,hcs⟩

set_option maxRecDepth 100000 in
set_option maxHeartbeats 4000000 in
theorem raiseBorder_any (B:Nat) (s:ByteArray) (b g:Nat) (st:As.St) (k:Int) (W:World) (h:AsmAt B s b g st W) :
  Calls Tryz.prog 210 #[.pointer (some ⟨b,0,none⟩),.int .i64 k] W fun en W'=>en = .returned (.tuple #[])∧Does B s b g W (As.raiseBorder k st) W':=by
 have HW:=hid h
 have c13:=cell_sect h
 have c14:=cell_obj h
 have hs:=h.ok.sect
 obtain ⟨i,hi⟩:∃ i,i+1=st.sect:=⟨st.sect - 1,by omega⟩
 have hi4:i < 4:=by omega
 obtain ⟨vt,vf,vd,ag,cs,vs,vr,x,ho,g4,hx,kx,hfz,hcs⟩:=align_cells h i hi4
 have fz:=hfz i
 have HO:=hid ho
 clear h ho hfz
 have RS:=hid (show As.raiseBorder k st=if x < k then { st with obj:={ st.obj with align:=st.obj.align.set i k } } else st from by
  unfold As.raiseBorder
  rw [show st.sect - 1=i by omega,hx]
  rfl)
 generalize As.raiseBorder k st=X at *
 have e1:(st.sect:Int)=(i:Int)+1:=by omega
 rw [e1] at c13
 have d1:decide ((i:Int) < 0)=false:=by simp
 have d2:decide ((4:Int)≤(i:Int))=false:=by simp; omega
 have d3:decide (4≤i)=false:=by simp; omega
 have g1:(0:Int)≤(i:Int):=by omega
 have g2:(i:Int) < 4:=by omega
 clear hs hi hx e1
 by_cases c:x < k
 ·have d:decide (x < k)=true:=by simp [c]
  rw [if_pos c] at RS
  have P:=hid (HW.out.does.after (HW.out.putAlign HO.out i hi4 k))
  clear c
  go_enter Tryz.func210,Tryz.ntmps210
  go_wp2
  go_end0
  rw [RS.out]
  exact ⟨rfl,P.out⟩
 ·have d:decide (x < k)=false:=by simp; omega
  rw [if_neg c] at RS
  clear c
  go_enter Tryz.func210,Tryz.ntmps210
  go_wp2
  go_end0
  rw [RS.out]
  exact ⟨rfl,HW.out.does⟩

theorem number_ok (s:List UInt8) (lo hi:Int) (st:As.St) (h:As.failed (As.number s lo hi st).2=false):lo≤(As.number s lo hi st).1∧(As.number s lo hi st).1≤hi:=by
 have key:∀ neg pos st,As.failed (As.numberFrom s neg pos lo hi st).2=false→lo≤(As.numberFrom s neg pos lo hi st).1∧(As.numberFrom s neg pos lo hi st).1≤hi:=by
  intro neg pos st hf
  unfold As.numberFrom at hf ⊢
  generalize (if neg then -(st.tok.n:Int) else (st.tok.n:Int))=x at *
  split at hf
  ·rename_i hk
   rw [if_pos hk]
   by_cases h:x < lo∨hi < x
   ·rw [if_pos h] at hf
    rw [refuse_failed _ _ _ (by omega)] at hf
    cases hf
   ·rw [if_neg h]; simp only; omega
  ·rw [refuse_failed _ _ _ (by omega)] at hf
   cases hf
 unfold As.number at h ⊢
 split at h
 ·rename_i hm; rw [if_pos hm]; exact key _ _ _ h
 ·rename_i hm; rw [if_neg hm]; exact key _ _ _ h

end Go.Proofs.YtnfgdlkiialnnaaGreatDoor

namespace Go.Proofs.YtnfgdlkiialnnaaGreatDoor
open Go.RowKit

set_option maxRecDepth 100000 in
set_option maxHeartbeats 8000000 in
theorem align_any (B:Nat) (s:ByteArray) (b g:Nat) (st0:As.St) (W:World) (h:AsmAt B s b g st0 W) :
  Calls Tryz.prog 170 #[.pointer (some ⟨b,0,none⟩)] W fun en W'=>en = .returned (.tuple #[])∧Does B s b g W (As.align (sl s) st0) W':=by
 have D0:=hid h.does
 clear h
 obtain ⟨X,hX⟩:∃ X,X=As.align (sl s) st0:=⟨_,rfl⟩
 rw [← hX]
 unfold As.align at hX
 dsimp only at hX
 have RS:=hid hX
 clear hX
 have NO:=hid (number_ok (sl s) 2 4 st0)
 go_enter Tryz.func170,Tryz.ntmps170
 go_wp2_with fail
 refine (aNumber_any B s b g st0 2 4 _ D0.out.1).mono ?_
 rintro e V1 ⟨rfl,hh⟩
 have D1:=hid (D0.out.afterB hh)
 clear hh D0
 generalize As.number (sl s) 2 4 st0=R1 at *
 obtain ⟨n,st1⟩:=R1
 dsimp only at RS D1 NO ⊢
 go_wp2_with fail
 refine (failed_any B s b g st1 V1 D1.out.1).mono ?_
 rintro e w1 ⟨rfl,rfl⟩
 cases hf:As.failed st1
 ·rw [hf,if_neg (by simp)] at RS
  have hn:=NO.out hf
  clear hf NO
  have cI:=hid (fun V hV=>inCode_any B s b g st1 V hV)
  have hsb:=secLen_bnd D1.out.1.ok
  rcases (show n=2∨n=3∨n=4 by omega) with rfl | rfl | rfl
  ·clear hn
   have RS2:=hid (show X=As.raiseBorder 2 (As.alignTo 4 st1) from RS.out)
   clear RS
   go_wp2_with fail
   refine (cI.out w1 D1.out.1).mono ?_
   rintro e w2 ⟨rfl,rfl⟩
   cases hc:As.inCode st1.sect
   ·have RT:=hid (show As.alignTo 4 st1=As.lay (List.replicate (((4:Int) - 4 * As.secLen st1.obj st1.sect % 4) % 4 / 4).toNat 0) st1 from by unfold As.alignTo; rw [hc]; rfl)
    clear hc
    have cL:=hid (fun V hV=>length_any B s b g st1 V hV)
    have HD0:=hid (fun n=>D1.out.drewN n)
    have c13:=cell_sect D1.out.1
    have c14:=cell_obj D1.out.1
    generalize As.secLen st1.obj st1.sect=q at *
    obtain ⟨qn,rfl⟩:=Int.eq_ofNat_of_zero_le hsb.1
    have hq2:(qn:Int)≤1200:=hsb.2
    have hq3:(0:Int)≤4 * (qn:Int):=by omega
    have EC:=hid (show (((4:Int) - 4 * (qn:Int) % 4) % 4 / 4)=(((((4:Int) - 4 * (qn:Int) % 4) % 4 / 4).toNat:Nat):Int) by omega)
    have HC:=hid (show (((4:Int) - 4 * (qn:Int) % 4) % 4 / 4).toNat≤4096 by omega)
    have r0:(0:Int)≤4 * (qn:Int) % 4:=by omega
    have r1:4 * (qn:Int) % 4 < 4:=by omega
    generalize (((4:Int) - 4 * (qn:Int) % 4) % 4 / 4).toNat=cnt at *
    go_wp2
    go_quiet ((go_at_call 96; exact Calls.quiet_of_same (cL.out _ (HD0.out _).1)))
    have D2:=hid (HD0.out nq)
    clear HD0 c13 c14 cL
    generalize w2.drewN nq=V2 at *
    go_wp2_with fail
    refine (repeated_lit 0 cnt _ (by have e:=EC.out; omega) _ HC.out).mono ?_
    rintro e V3 ⟨⟨ao,cap,rfl,hw⟩,hg⟩
    have D3:=hid (D2.out.grown hg)
    have HWD:=hid hw
    clear hg hw D2
    go_wp2_with fail
    refine (lay_rep B s b g st1 0 cnt ao cap V3 D3.out.1 HWD.out HC.out).mono ?_
    rintro e V4 ⟨rfl,h4⟩
    have D4:=hid (D3.out.after h4)
    clear h4
    rw [← RT.out] at D4
    go_wp2_with fail
    refine (raiseBorder_any B s b g _ 2 V4 D4.out.1).mono ?_
    rintro e V5 ⟨rfl,h5⟩
    have D5:=hid (D4.out.after h5)
    clear h5
    go_wp2
    go_end0
    rw [RS2.out]
    exact ⟨rfl,D5.out⟩
   ·have RT:=hid (show As.alignTo 4 st1=st1 from by unfold As.alignTo; rw [hc]; rfl)
    clear hc
    rw [RT.out] at RS2
    go_wp2_with fail
    refine (raiseBorder_any B s b g _ 2 w2 D1.out.1).mono ?_
    rintro e V5 ⟨rfl,h5⟩
    have D5:=hid (D1.out.after h5)
    clear h5
    go_wp2
    go_end0
    rw [RS2.out]
    exact ⟨rfl,D5.out⟩
  ·clear hn
   have RS2:=hid (show X=As.raiseBorder 3 (As.alignTo 8 st1) from RS.out)
   clear RS
   go_wp2_with fail
   refine (cI.out w1 D1.out.1).mono ?_
   rintro e w2 ⟨rfl,rfl⟩
   cases hc:As.inCode st1.sect
   ·have RT:=hid (show As.alignTo 8 st1=As.lay (List.replicate (((8:Int) - 4 * As.secLen st1.obj st1.sect % 8) % 8 / 4).toNat 0) st1 from by unfold As.alignTo; rw [hc]; rfl)
    clear hc
    have cL:=hid (fun V hV=>length_any B s b g st1 V hV)
    have HD0:=hid (fun n=>D1.out.drewN n)
    have c13:=cell_sect D1.out.1
    have c14:=cell_obj D1.out.1
    generalize As.secLen st1.obj st1.sect=q at *
    obtain ⟨qn,rfl⟩:=Int.eq_ofNat_of_zero_le hsb.1
    have hq2:(qn:Int)≤1200:=hsb.2
    have hq3:(0:Int)≤4 * (qn:Int):=by omega
    have EC:=hid (show (((8:Int) - 4 * (qn:Int) % 8) % 8 / 4)=(((((8:Int) - 4 * (qn:Int) % 8) % 8 / 4).toNat:Nat):Int) by omega)
    have HC:=hid (show (((8:Int) - 4 * (qn:Int) % 8) % 8 / 4).toNat≤4096 by omega)
    have r0:(0:Int)≤4 * (qn:Int) % 8:=by omega
    have r1:4 * (qn:Int) % 8 < 8:=by omega
    generalize (((8:Int) - 4 * (qn:Int) % 8) % 8 / 4).toNat=cnt at *
    go_wp2
    go_quiet ((go_at_call 96; exact Calls.quiet_of_same (cL.out _ (HD0.out _).1)))
    have D2:=hid (HD0.out nq)
    clear HD0 c13 c14 cL
    generalize w2.drewN nq=V2 at *
    go_wp2_with fail
    refine (repeated_lit 0 cnt _ (by have e:=EC.out; omega) _ HC.out).mono ?_
    rintro e V3 ⟨⟨ao,cap,rfl,hw⟩,hg⟩
    have D3:=hid (D2.out.grown hg)
    have HWD:=hid hw
    clear hg hw D2
    go_wp2_with fail
    refine (lay_rep B s b g st1 0 cnt ao cap V3 D3.out.1 HWD.out HC.out).mono ?_
    rintro e V4 ⟨rfl,h4⟩
    have D4:=hid (D3.out.after h4)
    clear h4
    rw [← RT.out] at D4
    go_wp2_with fail
    refine (raiseBorder_any B s b g _ 3 V4 D4.out.1).mono ?_
    rintro e V5 ⟨rfl,h5⟩
    have D5:=hid (D4.out.after h5)
    clear h5
    go_wp2
    go_end0
    rw [RS2.out]
    exact ⟨rfl,D5.out⟩
   ·have RT:=hid (show As.alignTo 8 st1=As.layWith 6 0 4 (List.replicate 1 19) st1 from by unfold As.alignTo; rw [hc]; rfl)
    clear hc
    go_wp2_with fail
    refine (repeated_lit 19 1 _ rfl _ (by omega)).mono ?_
    rintro e V3 ⟨⟨ao,cap,rfl,hw⟩,hg⟩
    have D3:=hid (D1.out.grown hg)
    have HWD:=hid hw
    clear hg hw
    go_wp2_with fail
    refine (layWith_rep B s b g st1 6 0 4 19 1 ao cap V3 D3.out.1 HWD.out (by omega)).mono ?_
    rintro e V4 ⟨rfl,h4⟩
    have D4:=hid (D3.out.after h4)
    clear h4
    rw [← RT.out] at D4
    go_wp2_with fail
    refine (raiseBorder_any B s b g _ 3 V4 D4.out.1).mono ?_
    rintro e V5 ⟨rfl,h5⟩
    have D5:=hid (D4.out.after h5)
    clear h5
    go_wp2
    go_end0
    rw [RS2.out]
    exact ⟨rfl,D5.out⟩
  ·clear hn
   have RS2:=hid (show X=As.raiseBorder 4 (As.alignTo 16 st1) from RS.out)
   clear RS
   go_wp2_with fail
   refine (cI.out w1 D1.out.1).mono ?_
   rintro e w2 ⟨rfl,rfl⟩
   cases hc:As.inCode st1.sect
   ·have RT:=hid (show As.alignTo 16 st1=As.lay (List.replicate (((16:Int) - 4 * As.secLen st1.obj st1.sect % 16) % 16 / 4).toNat 0) st1 from by unfold As.alignTo; rw [hc]; rfl)
    clear hc
    have cL:=hid (fun V hV=>length_any B s b g st1 V hV)
    have HD0:=hid (fun n=>D1.out.drewN n)
    have c13:=cell_sect D1.out.1
    have c14:=cell_obj D1.out.1
    generalize As.secLen st1.obj st1.sect=q at *
    obtain ⟨qn,rfl⟩:=Int.eq_ofNat_of_zero_le hsb.1
    have hq2:(qn:Int)≤1200:=hsb.2
    have hq3:(0:Int)≤4 * (qn:Int):=by omega
    have EC:=hid (show (((16:Int) - 4 * (qn:Int) % 16) % 16 / 4)=(((((16:Int) - 4 * (qn:Int) % 16) % 16 / 4).toNat:Nat):Int) by omega)
    have HC:=hid (show (((16:Int) - 4 * (qn:Int) % 16) % 16 / 4).toNat≤4096 by omega)
    have r0:(0:Int)≤4 * (qn:Int) % 16:=by omega
    have r1:4 * (qn:Int) % 16 < 16:=by omega
    generalize (((16:Int) - 4 * (qn:Int) % 16) % 16 / 4).toNat=cnt at *
    go_wp2
    go_quiet ((go_at_call 96; exact Calls.quiet_of_same (cL.out _ (HD0.out _).1)))
    have D2:=hid (HD0.out nq)
    clear HD0 c13 c14 cL
    generalize w2.drewN nq=V2 at *
    go_wp2_with fail
    refine (repeated_lit 0 cnt _ (by have e:=EC.out; omega) _ HC.out).mono ?_
    rintro e V3 ⟨⟨ao,cap,rfl,hw⟩,hg⟩
    have D3:=hid (D2.out.grown hg)
    have HWD:=hid hw
    clear hg hw D2
    go_wp2_with fail
    refine (lay_rep B s b g st1 0 cnt ao cap V3 D3.out.1 HWD.out HC.out).mono ?_
    rintro e V4 ⟨rfl,h4⟩
    have D4:=hid (D3.out.after h4)
    clear h4
    rw [← RT.out] at D4
    go_wp2_with fail
    refine (raiseBorder_any B s b g _ 4 V4 D4.out.1).mono ?_
    rintro e V5 ⟨rfl,h5⟩
    have D5:=hid (D4.out.after h5)
    clear h5
    go_wp2
    go_end0
    rw [RS2.out]
    exact ⟨rfl,D5.out⟩
   ·have RT:=hid (show As.alignTo 16 st1=As.layWith 6 0 12 (List.replicate 3 19) st1 from by unfold As.alignTo; rw [hc]; rfl)
    clear hc
    go_wp2_with fail
    refine (repeated_lit 19 3 _ rfl _ (by omega)).mono ?_
    rintro e V3 ⟨⟨ao,cap,rfl,hw⟩,hg⟩
    have D3:=hid (D1.out.grown hg)
    have HWD:=hid hw
    clear hg hw
    go_wp2_with fail
    refine (layWith_rep B s b g st1 6 0 12 19 3 ao cap V3 D3.out.1 HWD.out (by omega)).mono ?_
    rintro e V4 ⟨rfl,h4⟩
    have D4:=hid (D3.out.after h4)
    clear h4
    rw [← RT.out] at D4
    go_wp2_with fail
    refine (raiseBorder_any B s b g _ 4 V4 D4.out.1).mono ?_
    rintro e V5 ⟨rfl,h5⟩
    have D5:=hid (D4.out.after h5)
    clear h5
    go_wp2
    go_end0
    rw [RS2.out]
    exact ⟨rfl,D5.out⟩
 ·rw [hf,if_pos rfl] at RS
  clear hf
  go_wp2
  (try simp only [Exit.inBlock,Exit.then]); refine bodyPost_ret (results_none rfl _ _ _) rfl ?_
  rw [RS.out]
  exact ⟨rfl,D1.out⟩

end Go.Proofs.YtnfgdlkiialnnaaGreatDoor
