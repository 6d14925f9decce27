/- Linking: where words lie, what is read of a module. -/
/- Linking: addresses. -/
/- Linking: what a symbol means, and how far off it lies. -/
/- Linking: distances; which words stay. -/
/- Walks over package machine: read, call. -/
/- Walks over package machine: what an instruction does. -/
/- The operations beside code of package asm, lines and texts, as functions. -/
/- The assembler: symbols, targets, places. -/
/- The assembler: words are laid. -/
import Derived.Test.YtnfgdlkiialnnaaGreatDoorG13
import Derived.Test.YtnfgdlkiialnnaaGreatDoorG07
import Derived.Deep.CutRange
import Derived.Test.YtnfgdlkiialnnaaGreatDoorG01
import Derived.Test.YtnfgdlkiialnnaaGreatDoorG03
import Derived.Laws.AppendOwnNone
namespace Go.Proofs.YtnfgdlkiialnnaaGreatDoor
open Go.RowKit

set_option maxRecDepth 100000 in
set_option maxHeartbeats 2000000 in
theorem roundUp_any (a b:Int) (w:World) (h0:0≤a) (h1:a≤1125899906842624) (h2:1≤b) (h3:b≤16) :
  Calls Tryz.prog 94 #[.int .i64 a,.int .i64 b] w fun e w'=>e = .returned (.int .i64 (Ln.rup a b))∧w'=w:=by
 go_enter Tryz.func94,Tryz.ntmps94
 go_wp2
 go_ret
 exact ⟨rfl,rfl⟩

set_option maxRecDepth 100000 in
set_option maxHeartbeats 2000000 in
theorem placeOf_any (ao:Option Addr) (cap:Nat) (ps:List Int) (off:Int) (w:World) (h:IntsIn w ao ps) (hl:ps.length≤65536) (h0:0≤off) (h1:off≤1125899906842624) :
  Calls Tryz.prog 136 #[.slice ao ps.length cap,.int .i64 off] w fun e w'=>e = .returned (.int .i64 (Ln.placeOf ps off))∧w'=w:=by
 obtain ⟨k,hk⟩:∃ k:Nat,Int.tdiv off 4=(k:Int):=⟨(Int.tdiv off 4).toNat,by rw [Int.tdiv_eq_ediv_of_nonneg h0]; omega⟩
 have hkb:(k:Int)≤1125899906842624:=by rw [← hk,Int.tdiv_eq_ediv_of_nonneg h0]; omega
 have R:=hid (show Ln.placeOf ps off=ps.getD k 0 by unfold Ln.placeOf; rw [hk,if_neg (by omega)]; rfl)
 have d1:decide ((k:Int) < 0)=false:=by simp
 by_cases hlt:k < ps.length
 ·obtain ⟨sg,o2,rfl,hc⟩:=h (by omega)
  have ck:=hc k hlt
  have d2:decide ((ps.length:Int)≤(k:Int))=false:=by simp; omega
  have E:=hid (show Ln.placeOf ps off=ps[k] by rw [R.out,List.getD_eq_getElem?_getD,List.getElem?_eq_getElem hlt]; rfl)
  generalize ps[k]=x at *
  clear hc
  go_enter Tryz.func136,Tryz.ntmps136
  go_wp2
  go_ret
  exact ⟨by rw [E.out]; rfl,rfl⟩
 ·have d2:decide ((ps.length:Int)≤(k:Int))=true:=by simp; omega
  have E:=hid (show Ln.placeOf ps off=0 by rw [R.out,List.getD_eq_getElem?_getD,List.getElem?_eq_none (by omega)]; rfl)
  clear h
  go_enter Tryz.func136,Tryz.ntmps136
  go_wp2
  go_ret
  exact ⟨by rw [E.out]; rfl,rfl⟩

set_option maxRecDepth 100000 in
set_option maxHeartbeats 2000000 in
theorem isShort_any (bl:List Nat) (b g:Nat) (m:Ln.Mod) (i:Int) (w:World) (h:ModAt w bl b g m) (h0:0≤i) (h1:i≤65535) (hl:m.short.length≤65535) :
  Calls Tryz.prog 139 #[ptrV b,.int .i64 i] w fun e w'=>e = .returned (.bool (Ln.isShort m.short i))∧w'=w:=by
 obtain ⟨v1,v2,v3,v4,q0,q1,q2,q3,q4,q5,q6,q7⟩:=h
 obtain ⟨as_,cs,rfl⟩:=own_form q3
 have k2:w.cell? ⟨b,2,none⟩=some (.slice as_ m.short.length cs):=q0.cell 2
 unfold ptrV
 obtain ⟨k,rfl⟩:∃ k:Nat,i=(k:Int):=⟨i.toNat,by omega⟩
 have R:=hid (show Ln.isShort m.short k=m.short.getD k false by unfold Ln.isShort; simp)
 have d1:decide ((0:Int)≤(k:Int))=true:=by simp
 by_cases hlt:k < m.short.length
 ·obtain ⟨sg,rfl,-,-,-,hc⟩:=own_some q3 (by omega)
  have ck:=hc k hlt
  rw [List.getElem?_map,List.getElem?_eq_getElem hlt] at ck
  have E:=hid (show Ln.isShort m.short k=m.short[k] by rw [R.out,List.getD_eq_getElem?_getD,List.getElem?_eq_getElem hlt]; rfl)
  dsimp only [Option.map] at ck
  generalize m.short[k]=x at *
  have d2:decide ((k:Int) < (m.short.length:Int))=true:=by simp; omega
  clear hc q0 q1 q2 q3 q4 q5 q6 q7
  go_enter Tryz.func139,Tryz.ntmps139
  go_wp2
  go_ret
  exact ⟨by rw [E.out]; rfl,rfl⟩
 ·have d2:decide ((k:Int) < (m.short.length:Int))=false:=by simp; omega
  have E:=hid (show Ln.isShort m.short k=false by rw [R.out,List.getD_eq_getElem?_getD,List.getElem?_eq_none (by omega)]; rfl)
  clear q0 q1 q2 q3 q4 q5 q6 q7
  go_enter Tryz.func139,Tryz.ntmps139
  go_wp2
  go_ret
  exact ⟨by rw [E.out]; rfl,rfl⟩

theorem relocAt_drop (sect off:Int) (rs:List Lk.Rel) (k:Nat) (h:k < rs.length):Ln.relocAt sect off k (rs.drop k)=if rs[k].sect=sect∧rs[k].off≤off∧off < rs[k].off+4 * spanI rs[k] then ((k:Int),rs[k]) else Ln.relocAt sect off (k+1) (rs.drop (k+1)):=by
 rw [List.drop_eq_getElem_cons h]
 rfl

theorem sets5_grown {w V:World} (h:w.grownBy V none) (r:Nat) (hr:w.heap.size≤r) (a b c d e:Value):w.grownBy (((((V.setCell ⟨r,0,none⟩ a).setCell ⟨r,1,none⟩ b).setCell ⟨r,2,none⟩ c).setCell ⟨r,3,none⟩ d).setCell ⟨r,4,none⟩ e) none :=
 grown_hi (grown_hi (sets3_grown h r hr a b c) (grown_set _ r 3 d) (by intro k q; simp at q; omega)) (grown_set _ r 4 e) (by intro k q; simp at q; omega)

/-- what relocations are such that nothing wraps -/
def RelTame (r:Lk.Rel):Prop:=AddendOk r∧-1125899906842624≤r.off∧r.off≤1125899906842624

set_option maxRecDepth 100000 in
set_option maxHeartbeats 4000000 in
theorem relocAt_any (bl:List Nat) (b g:Nat) (m:Ln.Mod) (sect off:Int) (w:World) (h:ModAt w bl b g m) (hr:∀ r∈m.obj.rels,RelTame r) (hl:m.obj.rels.length≤65535) :
  Calls Tryz.prog 137 #[ptrV b,.int .i64 sect,.int .i64 off] w fun e w'=>e = .returned (.tuple #[.int .i64 (Ln.relocAt sect off 0 m.obj.rels).1,relA (Ln.relocAt sect off 0 m.obj.rels).2])∧w.grownBy w' none:=by
 have A0:=World.grownBy_alloc w (.cells #[.int .i64 0,.int .i64 0,.int .i64 0,.int .i64 0,.int .i64 0] 139) none
 have BR:=hid (BlkAt.new w #[.int .i64 0,.int .i64 0,.int .i64 0,.int .i64 0,.int .i64 0] 139)
 have G0:=hid A0
 obtain ⟨v1,v2,v3,v4,q0,q1,-⟩:=h.kept A0
 obtain ⟨at_,ct,af,cf,ad,cd,aa,ca,as_,cs,ar,cr,hb,-,-,-,-,-,p6⟩:=q1.open
 have k6:=hb.cell 6
 simp only [List.getElem?_toArray,List.getElem?_cons_succ,List.getElem?_cons_zero] at k6
 have k0:=q0.cell 0
 simp only [List.getElem?_toArray,List.getElem?_cons_zero,ptrV] at k0
 have S:=hid (RelsIn.of_own p6)
 have cS:=hid (fun r W (h:RelTame r)=>span_any r W h.1.six)
 unfold relA at cS
 clear q0 q1 hb p6 A0 h
 have HR:=hid hr
 have FD:=hid (show Ln.relocAt sect off 0 m.obj.rels=Ln.relocAt sect off 0 (m.obj.rels.drop 0) from rfl)
 generalize hN:Ln.relocAt sect off 0 m.obj.rels=N at *
 have HN:=hid hN
 clear hN hr
 generalize m.obj.rels=rs at *
 unfold ptrV
 go_enter Tryz.func137,Tryz.ntmps137
 go_wp2
 generalize w.alloc (.cells #[.int .i64 0,.int .i64 0,.int .i64 0,.int .i64 0,.int .i64 0] 139)=W1 at *
 clear k0 k6
 go_loopw [18] (fun i wr=>∃ k:Nat,k≤rs.length∧i = .int .i64 k∧N=Ln.relocAt sect off k (rs.drop k)∧W1.grownBy wr none) (fun i _=>rs.length - (intOf i).toNat)
 case atStart=>exact ⟨0,Nat.zero_le _,rfl,FD.out,World.grownBy.refl _ _⟩
 case round =>
  obtain ⟨k,hk,rfl,hfd,hgr⟩:=hrel
  have HF:=hid hfd
  have HG:=hid hgr
  clear hfd hgr FD
  by_cases hlt:k < rs.length
  ·obtain ⟨sg,hsg,hgs,hcs⟩:=S.out.grown HG.out (by omega)
   subst hsg
   obtain ⟨q0,q1,q2,q3,q4⟩:=hcs k hlt
   clear hcs
   have g1:(k:Int) < (rs.length:Int):=by omega
   have TM:=HR.out _ (List.getElem_mem hlt)
   have FI:=hid (HF.out.trans (relocAt_drop sect off rs k hlt))
   have cY:=hid (fun W=>cS.out rs[k] W TM)
   have hof:=TM.2
   have hsp:=span_range TM.1
   generalize spanI rs[k]=sp at *
   generalize rs[k]=r at *
   clear TM
   have A2:=World.grownBy_alloc wr (.cells #[.int .i64 r.sect,.int .i64 r.off,.int .i64 r.kind,.int .i64 r.sym,.int .i64 r.addend] 139) none
   have G2:=hid (grown_trans HG.out A2)
   have BL:=hid (BlkAt.new wr #[.int .i64 r.sect,.int .i64 r.off,.int .i64 r.kind,.int .i64 r.sym,.int .i64 r.addend] 139)
   have BR2:=hid (BR.out.grown G2.out (by simp))
   clear A2
   go_upto_region 4 with fail
   clear q0 q1 q2 q3 q4
   generalize wr.alloc (.cells #[.int .i64 r.sect,.int .i64 r.off,.int .i64 r.kind,.int .i64 r.sym,.int .i64 r.addend] 139)=W2 at *
   have HRL:w.heap.size≠wr.heap.size:=by have:=BR.out.lt; have:=HG.out.size; omega
   generalize wr.heap.size=L at *
   have c0:W2.cell? ⟨L,0,none⟩=some (.int .i64 r.sect):=BL.out.cell 0
   have c1:W2.cell? ⟨L,1,none⟩=some (.int .i64 r.off):=BL.out.cell 1
   have c2:W2.cell? ⟨L,2,none⟩=some (.int .i64 r.kind):=BL.out.cell 2
   have c3:W2.cell? ⟨L,3,none⟩=some (.int .i64 r.sym):=BL.out.cell 3
   have c4:W2.cell? ⟨L,4,none⟩=some (.int .i64 r.addend):=BL.out.cell 4
   have BD:=hid (fun W (hq:W2.drew.grownBy W none)=>show BlkAt W L #[.int .i64 r.sect,.int .i64 r.off,.int .i64 r.kind,.int .i64 r.sym,.int .i64 r.addend] 139 from (blk_drew BL.out).grown hq (by simp))
   by_cases e1:r.sect=sect
   ·have d1:(r.sect == sect)=true:=by simpa using e1
    by_cases e2:r.off≤off
    ·have d2:decide (r.off≤off)=true:=by simpa using e2
     have E12:=hid (And.intro e1 e2)
     have w1:IntKind.i64.wrap (4 * sp)=4 * sp:=IntWalk.i64_in _ ⟨by omega,by omega⟩
     have w2:IntKind.i64.wrap (r.off+4 * sp)=r.off+4 * sp:=IntWalk.i64_in _ ⟨by omega,by omega⟩
     clear e1 e2
     go_region_held3 (fun w'=>w'.cell? ⟨L,0,none⟩=some (.int .i64 r.sect)∧w'.cell? ⟨L,1,none⟩=some (.int .i64 r.off)∧w'.cell? ⟨L,2,none⟩=some (.int .i64 r.kind)∧w'.cell? ⟨L,3,none⟩=some (.int .i64 r.sym)∧w'.cell? ⟨L,4,none⟩=some (.int .i64 r.addend))
      (go_keep)
      (first | (go_at_call 193; refine (cY.out _).mono ?_; rintro e w' ⟨rfl,hq⟩; have bq:=BD.out _ hq; have s0:=bq.cell 0; have s1:=bq.cell 1; have s2:=bq.cell 2; have s3:=bq.cell 3; have s4:=bq.cell 4; simp only [List.getElem?_toArray,List.getElem?_cons_succ,List.getElem?_cons_zero] at s0 s1 s2 s3 s4))
     have GQ:=hid (grown_trans (grown_drew G2.out) hq)
     have BQ:=hid ((blk_drew BR2.out).grown hq (by simp))
     have LQ:=hid bq
     clear hq bq c0 c1 c2 c3 c4
     by_cases e3:off < r.off+4 * sp
     ·have d3:decide (off < r.off+4 * sp)=true:=by simpa using e3
      have E:=hid (show N=((k:Int),r) by rw [FI.out,if_pos ⟨E12.out.1,E12.out.2,e3⟩])
      have z0:w'.cell? ⟨w.heap.size,0,none⟩=some (.int .i64 0):=BQ.out.cell 0
      have z1:w'.cell? ⟨w.heap.size,1,none⟩=some (.int .i64 0):=BQ.out.cell 1
      have z2:w'.cell? ⟨w.heap.size,2,none⟩=some (.int .i64 0):=BQ.out.cell 2
      have z3:w'.cell? ⟨w.heap.size,3,none⟩=some (.int .i64 0):=BQ.out.cell 3
      have z4:w'.cell? ⟨w.heap.size,4,none⟩=some (.int .i64 0):=BQ.out.cell 4
      have f0:=BQ.out.free 0
      have f1:=BQ.out.free 1
      have f2:=BQ.out.free 2
      have f3:=BQ.out.free 3
      have f4:=BQ.out.free 4
      go_wp2
      go_region_held3 (fun w'=>w'.cell? ⟨L,0,none⟩=some (.int .i64 r.sect)∧w'.cell? ⟨L,1,none⟩=some (.int .i64 r.off)∧w'.cell? ⟨L,2,none⟩=some (.int .i64 r.kind)∧w'.cell? ⟨L,3,none⟩=some (.int .i64 r.sym)∧w'.cell? ⟨L,4,none⟩=some (.int .i64 r.addend))
       (go_keep)
       (fail)
      go_wp2
      have F:=blk_drew (((((BQ.out.set 0 (.int .i64 r.sect)).set 1 (.int .i64 r.off)).set 2 (.int .i64 r.kind)).set 3 (.int .i64 r.sym)).set 4 (.int .i64 r.addend))
      have h0:=F.cell 0
      have h1:=F.cell 1
      have h2:=F.cell 2
      have h3:=F.cell 3
      have h4:=F.cell 4
      simp only [List.setIfInBounds_toArray,List.set_cons_succ,List.set_cons_zero,List.getElem?_toArray,List.getElem?_cons_succ,List.getElem?_cons_zero] at h0 h1 h2 h3 h4
      refine bodyPost_ret (v:=.tuple #[.int .i64 k,relA r]) ?_ rfl ⟨by rw [E.out],grown_drew (sets5_grown (grown_trans G0.out GQ.out) _ (Nat.le_refl _) _ _ _ _ _)⟩
      clear F z0 z1 z2 z3 z4 f0 f1 f2 f3 f4 s0 s1 s2 s3 s4
      generalize World.drew _=WF at *
      simp [results,Tryz.results137,go_sem,relA,h0,h1,h2,h3,h4]
     ·have d3:decide (off < r.off+4 * sp)=false:=by simpa using e3
      have E:=hid (show N=Ln.relocAt sect off (k+1) (rs.drop (k+1)) by rw [FI.out,if_neg (fun c=>e3 c.2.2)])
      go_wp2
      go_roundw
      case rel=>exact ⟨k+1,by omega,by go_num,E.out,GQ.out⟩
      case measure=>simp [intOf]; omega
    ·have d2:decide (r.off≤off)=false:=by simpa using e2
     have E:=hid (show N=Ln.relocAt sect off (k+1) (rs.drop (k+1)) by rw [FI.out,if_neg (fun c=>e2 c.2.1)])
     clear e2 e1
     go_quiet (fail)
     go_wp2
     go_roundw
     case rel=>exact ⟨k+1,by omega,by go_num,E.out,grown_drewN G2.out _⟩
     case measure=>simp [intOf]; omega
   ·have d1:(r.sect == sect)=false:=by simpa using e1
    have E:=hid (show N=Ln.relocAt sect off (k+1) (rs.drop (k+1)) by rw [FI.out,if_neg (fun c=>e1 c.1)])
    clear e1
    go_quiet (fail)
    go_wp2
    go_roundw
    case rel=>exact ⟨k+1,by omega,by go_num,E.out,grown_drewN G2.out _⟩
    case measure=>simp [intOf]; omega
  ·obtain rfl:k=rs.length:=by omega
   have g3:decide ((rs.length:Int) < (rs.length:Int))=false:=by simp
   have E:=hid (show N=(0,⟨0,0,0,0,0⟩) by rw [HF.out,List.drop_length]; rfl)
   have BR3:=hid (BR.out.grown HG.out (by simp))
   have G3:=hid (grown_trans G0.out HG.out)
   have z0:wr.cell? ⟨w.heap.size,0,none⟩=some (.int .i64 0):=BR3.out.cell 0
   have z1:wr.cell? ⟨w.heap.size,1,none⟩=some (.int .i64 0):=BR3.out.cell 1
   have z2:wr.cell? ⟨w.heap.size,2,none⟩=some (.int .i64 0):=BR3.out.cell 2
   have z3:wr.cell? ⟨w.heap.size,3,none⟩=some (.int .i64 0):=BR3.out.cell 3
   have z4:wr.cell? ⟨w.heap.size,4,none⟩=some (.int .i64 0):=BR3.out.cell 4
   have f0:=BR3.out.free 0
   have f1:=BR3.out.free 1
   have f2:=BR3.out.free 2
   have f3:=BR3.out.free 3
   have f4:=BR3.out.free 4
   go_wp2
   have F:=((((BR3.out.set 0 (.int .i64 0)).set 1 (.int .i64 0)).set 2 (.int .i64 0)).set 3 (.int .i64 0)).set 4 (.int .i64 0)
   have h0:=F.cell 0
   have h1:=F.cell 1
   have h2:=F.cell 2
   have h3:=F.cell 3
   have h4:=F.cell 4
   simp only [List.setIfInBounds_toArray,List.set_cons_succ,List.set_cons_zero,List.getElem?_toArray,List.getElem?_cons_succ,List.getElem?_cons_zero] at h0 h1 h2 h3 h4
   refine bodyPost_ret (v:=.tuple #[.int .i64 0,relA ⟨0,0,0,0,0⟩]) ?_ rfl ⟨by rw [E.out],sets5_grown G3.out _ (Nat.le_refl _) _ _ _ _ _⟩
   clear F z0 z1 z2 z3 z4 f0 f1 f2 f3 f4
   generalize World.setCell _ _ _=WF at *
   simp [results,Tryz.results137,go_sem,relA,h0,h1,h2,h3,h4]

end Go.Proofs.YtnfgdlkiialnnaaGreatDoor

namespace Go.Proofs.YtnfgdlkiialnnaaGreatDoor
open Go.RowKit

/-- numbers such that nothing wraps -/
structure MNice (n:Nat) (m:Ln.Mod):Prop where
 text:m.text.length≤65536∧∀ p∈m.text,0≤p∧p≤1125899906842624
 far:m.far.length≤65536∧∀ p∈m.far,0≤p∧p≤1125899906842624
 data:0≤m.data∧m.data≤1125899906842624
 bss:0≤m.bss∧m.bss≤1125899906842624
 means:m.means.length≤65535∧∀ s∈m.means,(0≤s.off∧s.off≤1125899906842624)∧∀ i,s.mod=some i→i < n
 short:m.short.length≤65535
 rels:m.obj.rels.length≤65535∧∀ r∈m.obj.rels,AddendOk r∧0≤r.off∧r.off≤1125899906842624

theorem placeOf_range (ps:List Int) (off:Int) (h:∀ p∈ps,0≤p∧p≤1125899906842624):0≤Ln.placeOf ps off∧Ln.placeOf ps off≤1125899906842624:=by
 unfold Ln.placeOf
 split
 ·omega
 ·rw [List.getD_eq_getElem?_getD]
  cases e:ps[(off.tdiv 4).toNat]? with
  | none=>simp
  | some p=>exact h p (List.mem_of_getElem? e)
theorem address_range {n:Nat} {m:Ln.Mod} (h:MNice n m) (sect off:Int) (h0:0≤off) (h1:off≤1125899906842624):0≤Ln.address m sect off∧Ln.address m sect off≤2251799813685248:=by
 have a:=placeOf_range m.text off h.text.2
 have b:=placeOf_range m.far off h.far.2
 have c:=h.data
 have d:=h.bss
 unfold Ln.address
 repeat' split
 all_goals omega

set_option maxRecDepth 100000 in
set_option maxHeartbeats 4000000 in
theorem address_any (bl:List Nat) (b g n:Nat) (m:Ln.Mod) (sect off:Int) (w:World) (h:ModAt w bl b g m) (hm:MNice n m) (h0:0≤off) (h1:off≤1125899906842624) :
  Calls Tryz.prog 98 #[ptrV b,.int .i64 sect,.int .i64 off] w fun e w'=>e = .returned (.int .i64 (Ln.address m sect off))∧w'=w:=by
 obtain ⟨v1,v2,v3,v4,q0,-,-,-,q4,q5,-⟩:=h
 obtain ⟨at_,ct,rfl⟩:=own_form q4
 obtain ⟨af,cf,rfl⟩:=own_form q5
 have k3:w.cell? ⟨b,3,none⟩=some (.slice at_ m.text.length ct):=q0.cell 3
 have k4:w.cell? ⟨b,4,none⟩=some (.slice af m.far.length cf):=q0.cell 4
 have k5:w.cell? ⟨b,5,none⟩=some (.int .i64 m.data):=q0.cell 5
 have k6:w.cell? ⟨b,6,none⟩=some (.int .i64 m.bss):=q0.cell 6
 have cT:=hid (placeOf_any at_ ct m.text off w (IntsIn.of_own q4) hm.text.1 h0 h1)
 have cF:=hid (placeOf_any af cf m.far off w (IntsIn.of_own q5) hm.far.1 h0 h1)
 have hd:=hm.data
 have hb:=hm.bss
 clear q0 q4 q5 hm
 have R:=hid (show Ln.address m sect off=if sect=1 then Ln.placeOf m.text off else if sect=2 then Ln.placeOf m.far off else if sect=3 then m.data+off else if sect=4 then m.bss+off else 0 from rfl)
 generalize Ln.placeOf m.text off=pt at *
 generalize Ln.placeOf m.far off=pf at *
 generalize m.data=d at *
 generalize m.bss=z at *
 unfold ptrV
 by_cases e1:sect=1
 ·subst e1
  have E:=hid (show Ln.address m 1 off=pt by rw [R.out]; rfl)
  clear R
  go_enter Tryz.func98,Tryz.ntmps98
  go_wp2_with fail
  refine cT.out.mono ?_
  rintro e w2 ⟨rfl,rfl⟩
  go_wp2
  go_ret
  exact ⟨by rw [E.out]; rfl,rfl⟩
 by_cases e2:sect=2
 ·subst e2
  have E:=hid (show Ln.address m 2 off=pf by rw [R.out]; rfl)
  clear R
  go_enter Tryz.func98,Tryz.ntmps98
  go_wp2_with fail
  refine cF.out.mono ?_
  rintro e w2 ⟨rfl,rfl⟩
  go_wp2
  go_ret
  exact ⟨by rw [E.out]; rfl,rfl⟩
 by_cases e3:sect=3
 ·subst e3
  have E:=hid (show Ln.address m 3 off=d+off by rw [R.out]; rfl)
  have w1:IntKind.i64.wrap (d+off)=d+off:=IntWalk.i64_in _ ⟨by omega,by omega⟩
  clear R
  go_enter Tryz.func98,Tryz.ntmps98
  go_wp2
  go_ret
  exact ⟨by rw [E.out]; rfl,rfl⟩
 by_cases e4:sect=4
 ·subst e4
  have E:=hid (show Ln.address m 4 off=z+off by rw [R.out]; rfl)
  have w1:IntKind.i64.wrap (z+off)=z+off:=IntWalk.i64_in _ ⟨by omega,by omega⟩
  clear R
  go_enter Tryz.func98,Tryz.ntmps98
  go_wp2
  go_ret
  exact ⟨by rw [E.out]; rfl,rfl⟩
 have E:=hid (show Ln.address m sect off=0 by rw [R.out,if_neg e1,if_neg e2,if_neg e3,if_neg e4])
 have d1:(sect == 1)=false:=by simpa using e1
 have d2:(sect == 2)=false:=by simpa using e2
 have d3:(sect == 3)=false:=by simpa using e3
 have d4:(sect == 4)=false:=by simpa using e4
 clear R e1 e2 e3 e4
 go_enter Tryz.func98,Tryz.ntmps98
 go_wp2
 go_ret
 exact ⟨by rw [E.out]; rfl,rfl⟩

end Go.Proofs.YtnfgdlkiialnnaaGreatDoor

namespace Go.Proofs.YtnfgdlkiialnnaaGreatDoor
open Go.RowKit

/-- all modules in memory -/
structure ModsAt (W:World) (bl:List Nat) (ms:List Ln.Mod):Prop where
 len:ms.length=bl.length
 at_:∀ i (h:i < bl.length),∃ g,ModAt W bl bl[i] g (ms[i]'(by rw [len]; exact h))
 nice:∀ m∈ms,MNice bl.length m
theorem ModsAt.kept {W W':World} {bl:List Nat} {ms:List Ln.Mod} (h:ModsAt W bl ms) (hg:W.grownBy W' none):ModsAt W' bl ms :=
 ⟨h.len,fun i hi=>(h.at_ i hi).imp fun _ q=>q.kept hg,h.nice⟩
theorem ProgAt.modsAt {W0 W:World} {P:Nat} {bt bf bd:Int} {vm:Value} {bl gl:List Nat} {ms:List Ln.Mod} {st:Ln.Spot} {no:Int} (h:ProgAt W0 P bt bf bd vm bl gl ms st no W) (hn:∀ m∈ms,MNice bl.length m):ModsAt W bl ms :=
 ⟨h.lenO,fun i hi=>⟨_,h.mods i hi⟩,hn⟩

/-- a spot such that nothing wraps -/
def SNice (n:Nat) (s:Ln.Spot):Prop:=(0≤s.off∧s.off≤1125899906842624)∧∀ i,s.mod=some i→i < n
theorem spotAddr_range {n:Nat} {ms:List Ln.Mod} (hn:∀ m∈ms,MNice n m) (s:Ln.Spot) (hs:SNice n s):0≤Ln.spotAddr ms s∧Ln.spotAddr ms s≤2251799813685248:=by
 unfold Ln.spotAddr
 cases s.mod with
 | none=>simp
 | some i =>
  dsimp only
  cases e:ms[i]? with
  | none=>simp
  | some m=>exact address_range (hn m (List.mem_of_getElem? e)) _ _ hs.1.1 hs.1.2
theorem target_range {n:Nat} {ms:List Ln.Mod} (hn:∀ m∈ms,MNice n m) (m:Ln.Mod) (hm:MNice n m) (r:Lk.Rel):0≤Ln.target ms m r∧Ln.target ms m r≤2251799813685248:=by
 unfold Ln.target
 split
 ·omega
 ·rename_i h
  have hlt:r.sym.toNat < m.means.length:=by omega
  rw [List.getD_eq_getElem?_getD,List.getElem?_eq_getElem hlt]
  exact spotAddr_range hn _ (hm.means.2 _ (List.getElem_mem hlt))

set_option maxRecDepth 100000 in
set_option maxHeartbeats 4000000 in
theorem spotAddress_any (bl:List Nat) (ms:List Ln.Mod) (s:Ln.Spot) (w:World) (h:ModsAt w bl ms) (hs:SNice bl.length s) :
  Calls Tryz.prog 68 #[spotA bl s] w fun e w'=>e = .returned (.int .i64 (Ln.spotAddr ms s))∧w.grownBy w' none:=by
 obtain ⟨sm,ss,so⟩:=s
 have A0:=hid (World.grownBy_alloc w (.cells #[.pointer (ptrOf bl sm),.int .i64 ss,.int .i64 so] 115) none)
 cases sm with
 | none =>
  unfold spotA
  dsimp only at *
  have P0:ptrOf bl none=none:=rfl
  rw [P0] at A0 ⊢
  go_enter Tryz.func68,Tryz.ntmps68
  go_wp2
  go_ret
  exact ⟨rfl,A0.out⟩
 | some i =>
  have hi:i < bl.length:=hs.2 i rfl
  have him:i < ms.length:=by rw [h.len]; exact hi
  obtain ⟨g,hm⟩:=h.at_ i hi
  have P0:=ptrOf_some hi
  have E:=hid (show Ln.spotAddr ms ⟨some i,ss,so⟩=Ln.address ms[i] ss so by unfold Ln.spotAddr; dsimp only; rw [List.getElem?_eq_getElem him])
  unfold spotA
  dsimp only at *
  rw [P0] at A0 ⊢
  have cA:=hid (address_any bl bl[i] g bl.length ms[i] ss so _ (hm.kept A0.out) (h.nice _ (List.getElem_mem him)) hs.1.1 hs.1.2)
  unfold ptrV at cA
  clear hm h P0
  go_enter Tryz.func68,Tryz.ntmps68
  go_wp2_with fail
  refine cA.out.mono ?_
  rintro e w2 ⟨rfl,rfl⟩
  go_wp2
  go_ret
  exact ⟨by rw [E.out]; rfl,A0.out⟩

set_option maxRecDepth 100000 in
set_option maxHeartbeats 4000000 in
theorem lTarget_any (bl:List Nat) (ms:List Ln.Mod) (b g:Nat) (m:Ln.Mod) (r:Lk.Rel) (w:World) (h:ModsAt w bl ms) (hm:ModAt w bl b g m) (hn:MNice bl.length m) :
  Calls Tryz.prog 135 #[ptrV b,relA r] w fun e w'=>e = .returned (.int .i64 (Ln.target ms m r))∧w.grownBy w' none:=by
 obtain ⟨rs,ro,rk,ry,ra⟩:=r
 have A0:=hid (World.grownBy_alloc w (.cells #[.int .i64 rs,.int .i64 ro,.int .i64 rk,.int .i64 ry,.int .i64 ra] 139) none)
 have R:=hid (show Ln.target ms m ⟨rs,ro,rk,ry,ra⟩=if ry < 0∨(m.means.length:Int)≤ry then 0 else Ln.spotAddr ms (m.means.getD ry.toNat Ln.none_) from rfl)
 obtain ⟨v1,v2,v3,v4,q0,-,q2,-⟩:=hm
 obtain ⟨am,cm,rfl⟩:=own_form q2
 have k1:w.cell? ⟨b,1,none⟩=some (.slice am m.means.length cm):=q0.cell 1
 have hbl:=q0.lt
 have hbn:b≠w.heap.size:=by omega
 have hl:=hn.means.1
 unfold ptrV relA
 dsimp only
 by_cases e1:ry < 0
 ·have d1:decide (ry < 0)=true:=by simpa using e1
  have E:=hid (show Ln.target ms m ⟨rs,ro,rk,ry,ra⟩=0 by rw [R.out,if_pos (.inl e1)])
  clear R q0 q2 e1
  go_enter Tryz.func135,Tryz.ntmps135
  go_wp2
  go_quiet (fail)
  go_wp2
  go_ret
  exact ⟨by rw [E.out]; rfl,grown_drewN A0.out _⟩
 have d1:decide (ry < 0)=false:=by simpa using e1
 obtain ⟨y,rfl⟩:∃ y:Nat,ry=(y:Int):=⟨ry.toNat,by omega⟩
 by_cases e2:m.means.length≤y
 ·have d2:decide ((m.means.length:Int)≤(y:Int))=true:=by simpa using e2
  have E:=hid (show Ln.target ms m ⟨rs,ro,rk,y,ra⟩=0 by rw [R.out,if_pos (.inr (by omega))])
  clear R q0 q2
  go_enter Tryz.func135,Tryz.ntmps135
  go_wp2
  go_quiet (fail)
  go_wp2
  go_ret
  exact ⟨by rw [E.out]; rfl,grown_drewN A0.out _⟩
 have d2:decide ((m.means.length:Int)≤(y:Int))=false:=by simp; omega
 have hlt:y < m.means.length:=by omega
 have E:=hid (show Ln.target ms m ⟨rs,ro,rk,y,ra⟩=Ln.spotAddr ms m.means[y] by rw [R.out,if_neg (by omega),Int.toNat_natCast,List.getD_eq_getElem?_getD,List.getElem?_eq_getElem hlt]; rfl)
 obtain ⟨sg,rfl⟩:∃ sg,am=some ⟨sg,0,none⟩:=by
  rcases q2.2 with ⟨h1,h2⟩ | ⟨g,cap',cur,hv,_⟩
  ·simp at h1; omega
  ·simp only [Value.slice.injEq] at hv
   exact ⟨g,hv.1⟩
 have q:=fun j (hj:j < 3)=>(q2.cellAt (y * 3+j) (by omega)).trans (flat_get (spotL bl) 3 (fun _=>rfl) m.means y j hlt hj)
 have c0:w.cell? ⟨sg,y * 3,none⟩=some (.pointer (ptrOf bl m.means[y].mod)):=q 0 (by omega)
 have c1:w.cell? ⟨sg,y * 3+1,none⟩=some (.int .i64 m.means[y].sect):=q 1 (by omega)
 have c2:w.cell? ⟨sg,y * 3+2,none⟩=some (.int .i64 m.means[y].off):=q 2 (by omega)
 have hsn:sg≠w.heap.size:=by have:sg < w.heap.size:=World.block_lt_of_cell? w _ c0; omega
 have cA:=hid (fun W (hg:w.grownBy W none)=>spotAddress_any bl ms m.means[y] W (h.kept hg) (hn.means.2 _ (List.getElem_mem hlt)))
 unfold spotA at cA
 clear R q q0 q2 h hn
 generalize m.means[y]=s at *
 obtain ⟨sm,ss,so⟩:=s
 dsimp only at *
 generalize ptrOf bl sm=pm at *
 go_enter Tryz.func135,Tryz.ntmps135
 go_wp2
 go_quiet (fail)
 have A1:=hid (grown_drewN A0.out nq)
 have l3:((w.alloc (.cells #[.int .i64 rs,.int .i64 ro,.int .i64 rk,.int .i64 y,.int .i64 ra] 139)).drewN nq).cell? ⟨w.heap.size,3,none⟩=some (.int .i64 y):=((BlkAt.new w #[.int .i64 rs,.int .i64 ro,.int .i64 rk,.int .i64 y,.int .i64 ra] 139).drewN nq).cell 3
 go_wp2
 generalize (w.alloc (.cells #[.int .i64 rs,.int .i64 ro,.int .i64 rk,.int .i64 y,.int .i64 ra] 139)).drewN nq=W1 at *
 generalize w.heap.size=L at *
 have x0:=gcell c0 A1.out
 have x1:=gcell c1 A1.out
 have x2:=gcell c2 A1.out
 have x3:=gcell k1 A1.out
 have KD:=hid (fun W (hq:W1.drew.grownBy W none)=>And.intro (gcell (gcell k1 (grown_drew A1.out)) hq) (And.intro (gcell (show W1.drew.cell? ⟨L,3,none⟩=some (.int .i64 y) from l3) hq) (And.intro (gcell (gcell c0 (grown_drew A1.out)) hq) (And.intro (gcell (gcell c1 (grown_drew A1.out)) hq) (gcell (gcell c2 (grown_drew A1.out)) hq)))))
 clear c0 c1 c2 k1
 go_region_held3 (fun w'=>w'.cell? ⟨b,1,none⟩=some (.slice (some ⟨sg,0,none⟩) m.means.length cm)∧w'.cell? ⟨L,3,none⟩=some (.int .i64 y)∧w'.cell? ⟨sg,y * 3,none⟩=some (.pointer pm)∧w'.cell? ⟨sg,y * 3+1,none⟩=some (.int .i64 ss)∧w'.cell? ⟨sg,y * 3+2,none⟩=some (.int .i64 so))
  (go_keep)
  (first | (go_at_call 68; refine (cA.out _ (grown_drew A1.out)).mono ?_; rintro e w' ⟨rfl,hq⟩; obtain ⟨s0,s1,s2,s3,s4⟩:=KD.out _ hq))
 go_wp2
 go_ret
 exact ⟨by rw [E.out]; rfl,grown_trans (grown_drew A1.out) hq⟩

end Go.Proofs.YtnfgdlkiialnnaaGreatDoor

namespace Go.Proofs.YtnfgdlkiialnnaaGreatDoor
open Go.RowKit

set_option maxRecDepth 100000 in
set_option maxHeartbeats 4000000 in
theorem distance_any (bl:List Nat) (ms:List Ln.Mod) (b g:Nat) (m:Ln.Mod) (r:Lk.Rel) (w:World) (h:ModsAt w bl ms) (hm:ModAt w bl b g m) (hn:MNice bl.length m) (h0:0≤r.off) (h1:r.off≤1125899906842624) :
  Calls Tryz.prog 97 #[ptrV b,relA r] w fun e w'=>e = .returned (.int .i64 (Ln.distance ms m r))∧w.grownBy w' none:=by
 have tr:=target_range h.nice m hn r
 have ar:=address_range hn r.sect r.off h0 h1
 have cT:=hid (fun W (hg:w.grownBy W none)=>lTarget_any bl ms b g m r W (h.kept hg) (hm.kept hg) hn)
 have cA:=hid (fun W (hg:w.grownBy W none)=>address_any bl b g bl.length m r.sect r.off W (hm.kept hg) hn h0 h1)
 have R:=hid (show Ln.distance ms m r=Ln.target ms m r - Ln.address m r.sect r.off from rfl)
 generalize Ln.target ms m r=t at *
 generalize Ln.address m r.sect r.off=a at *
 have w1:IntKind.i64.wrap (t - a)=t - a:=IntWalk.i64_in _ ⟨by omega,by omega⟩
 have hbl:b < w.heap.size:=by obtain ⟨v1,v2,v3,v4,q0,-⟩:=hm; exact q0.lt
 clear h hm hn h0 h1
 unfold ptrV relA at *
 obtain ⟨rs,ro,rk,ry,ra⟩:=r
 dsimp only at *
 have A0:=hid (World.grownBy_alloc w (.cells #[.int .i64 rs,.int .i64 ro,.int .i64 rk,.int .i64 ry,.int .i64 ra] 139) none)
 have B0:=hid (BlkAt.new w #[.int .i64 rs,.int .i64 ro,.int .i64 rk,.int .i64 ry,.int .i64 ra] 139)
 go_enter Tryz.func97,Tryz.ntmps97
 go_wp2
 generalize w.alloc (.cells #[.int .i64 rs,.int .i64 ro,.int .i64 rk,.int .i64 ry,.int .i64 ra] 139)=W1 at *
 generalize w.heap.size=L at *
 have c0:W1.cell? ⟨L,0,none⟩=some (.int .i64 rs):=B0.out.cell 0
 have c1:W1.cell? ⟨L,1,none⟩=some (.int .i64 ro):=B0.out.cell 1
 have c2:W1.cell? ⟨L,2,none⟩=some (.int .i64 rk):=B0.out.cell 2
 have c3:W1.cell? ⟨L,3,none⟩=some (.int .i64 ry):=B0.out.cell 3
 have c4:W1.cell? ⟨L,4,none⟩=some (.int .i64 ra):=B0.out.cell 4
 have BD:=hid (fun W (hq:W1.drew.grownBy W none)=>show BlkAt W L #[.int .i64 rs,.int .i64 ro,.int .i64 rk,.int .i64 ry,.int .i64 ra] 139 from (blk_drew B0.out).grown hq (by simp))
 go_region_held3 (fun w'=>w'.cell? ⟨L,0,none⟩=some (.int .i64 rs)∧w'.cell? ⟨L,1,none⟩=some (.int .i64 ro)∧w'.cell? ⟨L,2,none⟩=some (.int .i64 rk)∧w'.cell? ⟨L,3,none⟩=some (.int .i64 ry)∧w'.cell? ⟨L,4,none⟩=some (.int .i64 ra))
  (go_keep)
  (first | (go_at_call 135; refine (cT.out _ (grown_drew A0.out)).mono ?_; rintro e w' ⟨rfl,hq⟩; have bq:=BD.out _ hq; have s0:=bq.cell 0; have s1:=bq.cell 1; have s2:=bq.cell 2; have s3:=bq.cell 3; have s4:=bq.cell 4; simp only [List.getElem?_toArray,List.getElem?_cons_succ,List.getElem?_cons_zero] at s0 s1 s2 s3 s4) | (go_at_call 98; refine (cA.out _ (grown_trans (grown_drew A0.out) hq)).mono ?_; rintro e w2 ⟨rfl,rfl⟩))
 go_wp2
 go_ret
 exact ⟨by rw [R.out]; rfl,grown_trans (grown_drew A0.out) hq⟩

theorem relocAt_in (sect off:Int):∀ (rs:List Lk.Rel) (k:Nat),Ln.relocAt sect off k rs=(0,⟨0,0,0,0,0⟩)∨∃ i,∃ h:i < rs.length,Ln.relocAt sect off k rs=(((k+i:Nat):Int),rs[i]):=by
 intro rs
 induction rs with
 | nil=>intro k; exact .inl rfl
 | cons r rs ih =>
  intro k
  unfold Ln.relocAt
  split
  ·exact .inr ⟨0,by simp,rfl⟩
  ·rcases ih (k+1) with e | ⟨i,hi,e⟩
   ·exact .inl e
   ·exact .inr ⟨i+1,by simpa using hi,by rw [e]; simp; omega⟩

set_option maxRecDepth 100000 in
set_option maxHeartbeats 4000000 in
theorem stays_any (bl:List Nat) (b g n:Nat) (m:Ln.Mod) (sect off at_:Int) (w:World) (hm:ModAt w bl b g m) (hn:MNice n m) (h0:0≤at_) (h1:at_≤1125899906842624) :
  Calls Tryz.prog 134 #[ptrV b,.int .i64 sect,.int .i64 off,.int .i64 at_] w fun e w'=>e = .returned (.bool (Ln.stays m sect off at_))∧w.grownBy w' none:=by
 have cR:=hid (relocAt_any bl b g m sect off w hm (fun r hr=>⟨(hn.rels.2 r hr).1,by have:=(hn.rels.2 r hr).2; omega,(hn.rels.2 r hr).2.2⟩) hn.rels.1)
 have R:=hid (show Ln.stays m sect off at_=if (Ln.relocAt sect off 0 m.obj.rels).2.kind=6 then !decide (Ln.rup at_ ((Ln.relocAt sect off 0 m.obj.rels).2.addend+4)=at_) else if (Ln.relocAt sect off 0 m.obj.rels).2.kind=4 then decide (off=(Ln.relocAt sect off 0 m.obj.rels).2.off) || !Ln.isShort m.short (Ln.relocAt sect off 0 m.obj.rels).1 else true from rfl)
 have AD:=hid (show (Ln.relocAt sect off 0 m.obj.rels).2.kind=6→(Ln.relocAt sect off 0 m.obj.rels).2.addend=4∨(Ln.relocAt sect off 0 m.obj.rels).2.addend=12 by
  rcases relocAt_in sect off m.obj.rels 0 with e | ⟨i,hi,e⟩
  ·rw [e]; intro c; simp at c
  ·rw [e]; intro c; exact (hn.rels.2 _ (List.getElem_mem hi)).1.six c)
 have IX:0≤(Ln.relocAt sect off 0 m.obj.rels).1∧(Ln.relocAt sect off 0 m.obj.rels).1≤65535:=by
  rcases relocAt_in sect off m.obj.rels 0 with e | ⟨i,hi,e⟩
  ·rw [e]; simp
  ·rw [e]; have:=hn.rels.1; simp; omega
 have cS:=hid (fun W (hg:w.grownBy W none)=>isShort_any bl b g m (Ln.relocAt sect off 0 m.obj.rels).1 W (hm.kept hg) IX.1 IX.2 hn.short)
 generalize Ln.relocAt sect off 0 m.obj.rels=p at *
 obtain ⟨i,rs,ro,rk,ry,ra⟩:=p
 dsimp only at *
 clear hm hn
 unfold ptrV relA at *
 go_enter Tryz.func134,Tryz.ntmps134
 go_wp2_with fail
 refine cR.out.mono ?_
 rintro e W2 ⟨rfl,h2⟩
 have G2:=hid h2
 dsimp only
 have A2:=hid (grown_trans h2 (World.grownBy_alloc W2 (.cells #[.int .i64 rs,.int .i64 ro,.int .i64 rk,.int .i64 ry,.int .i64 ra] 139) none))
 have cS2:=hid (cS.out _ A2.out)
 have cU:=hid (fun b hb1 hb2=>roundUp_any at_ b (W2.alloc (.cells #[.int .i64 rs,.int .i64 ro,.int .i64 rk,.int .i64 ry,.int .i64 ra] 139)) h0 h1 hb1 hb2)
 clear h2 cR cS
 by_cases e6:rk=6
 ·subst e6
  have E:=hid (show Ln.stays m sect off at_ = !decide (Ln.rup at_ (ra+4)=at_) by rw [R.out,if_pos rfl])
  rcases AD.out rfl with rfl | rfl
  ·have cV:=hid (cU.out 8 (by omega) (by omega))
   go_wp2_with fail
   refine cV.out.mono ?_
   rintro e w2 ⟨rfl,rfl⟩
   go_wp2
   go_ret
   exact ⟨by rw [E.out]; exact congrArg (fun b=>Ending.returned (Value.bool b)) (by simp [bne,BEq.beq]),A2.out⟩
  ·have cV:=hid (cU.out 16 (by omega) (by omega))
   go_wp2_with fail
   refine cV.out.mono ?_
   rintro e w2 ⟨rfl,rfl⟩
   go_wp2
   go_ret
   exact ⟨by rw [E.out]; exact congrArg (fun b=>Ending.returned (Value.bool b)) (by simp [bne,BEq.beq]),A2.out⟩
 ·have d6:(rk == 6)=false:=by simpa using e6
  by_cases e4:rk=4
  ·subst e4
   have E:=hid (show Ln.stays m sect off at_=(decide (off=ro) || !Ln.isShort m.short i) by rw [R.out,if_neg (by simp),if_pos rfl])
   clear e6
   by_cases eo:off=ro
   ·subst eo
    have d1:(off == off)=true:=by simp
    go_wp2
    go_ret
    exact ⟨by rw [E.out]; exact congrArg (fun b=>Ending.returned (Value.bool b)) (by simp),A2.out⟩
   ·have d1:(off == ro)=false:=by simpa using eo
    have EO:=hid eo
    clear eo
    go_wp2_with fail
    refine cS2.out.mono ?_
    rintro e w2 ⟨rfl,rfl⟩
    go_wp2
    go_ret
    exact ⟨by rw [E.out]; exact congrArg (fun b=>Ending.returned (Value.bool b)) (by simp [EO.out]),A2.out⟩
  ·have d4:(rk == 4)=false:=by simpa using e4
   have E:=hid (show Ln.stays m sect off at_=true by rw [R.out,if_neg e6,if_neg e4])
   clear e4 e6
   go_wp2
   go_ret
   exact ⟨by rw [E.out]; rfl,A2.out⟩

end Go.Proofs.YtnfgdlkiialnnaaGreatDoor

namespace Go.Proofs.YtnfgdlkiialnnaaGreatDoor
open Go.RowKit

end Go.Proofs.YtnfgdlkiialnnaaGreatDoor

namespace Go.Proofs.YtnfgdlkiialnnaaGreatDoor
open Go.RowKit

end Go.Proofs.YtnfgdlkiialnnaaGreatDoor

namespace Go.Proofs.YtnfgdlkiialnnaaGreatDoor
namespace As

def section' (st:St):St :=
 if st.op.text=[46,116,101,120,116] then { st with sect:=1 }
 else if st.op.text=[46,102,97,114] then { st with sect:=2 }
 else if st.op.text=[46,100,97,116,97] then { st with sect:=3 }
 else if st.op.text=[46,98,115,115] then { st with sect:=4 }
 else st

def binding (s:List UInt8) (st:St):St:=bind s (if st.op.text=[46,103,108,111,98,108] then 1 else 2) st

def word (s:List UInt8) (st:St):St :=
 if st.tok.kind == 1 then
  let t:=target s st
  layWith 1 t.1.1 t.1.2 [0] t.2
 else
  let n:=number s (-2147483648) 4294967295 st
  lay [n.1 % 4294967296] n.2

def space (s:List UInt8) (st:St):St :=
 let n:=number s 0 4800 st
 if n.1 % 4=0 then lay (List.replicate (n.1 / 4).toNat 0) n.2 else refuse 8 n.2.op.pos n.2

def inCode (sect:Nat):Bool:=sect == 1 || sect == 2

def raiseBorder (k:Int) (st:St):St :=
 if (st.obj.align[st.sect - 1]?).getD 0 < k then { st with obj:={ st.obj with align:=st.obj.align.set (st.sect - 1) k } } else st

/-- align, its border being 2^k bytes -/
def alignTo (border:Nat) (st:St):St :=
 if inCode st.sect then
  if 4 < border then layWith 6 0 ((border:Int) - 4) (List.replicate (border / 4 - 1) 19) st else st
 else lay (List.replicate (((border:Int) - 4 * secLen st.obj st.sect % border) % border / 4).toNat 0) st

def align (s:List UInt8) (st:St):St :=
 let n:=number s 2 4 st
 if failed n.2 then n.2 else raiseBorder n.1 (alignTo (2 ^ n.1.toNat) n.2)

end As
end Go.Proofs.YtnfgdlkiialnnaaGreatDoor

namespace Go.Proofs.YtnfgdlkiialnnaaGreatDoor
open Go.RowKit

theorem number_bnd (s:List UInt8) (lo hi:Int) (st:As.St) (h0:lo≤0) (h1:0≤hi):lo≤(As.number s lo hi st).1∧(As.number s lo hi st).1≤hi:=by
 have key:∀ neg pos st,lo≤(As.numberFrom s neg pos lo hi st).1∧(As.numberFrom s neg pos lo hi st).1≤hi:=by
  intro neg pos st
  unfold As.numberFrom
  generalize (if neg then -(st.tok.n:Int) else (st.tok.n:Int))=x
  split
  ·by_cases h:x < lo∨hi < x
   ·rw [if_pos h]; exact ⟨h0,h1⟩
   ·rw [if_neg h]; simp only; omega
  ·exact ⟨h0,h1⟩
 unfold As.number
 split
 ·exact key _ _ _
 ·exact key _ _ _

theorem name_tok (s:List UInt8) (st:As.St) (h:TokOk st.tok):TokOk (As.name s st).1:=by
 unfold As.name
 split
 ·exact h
 ·exact tokNil_ok

set_option maxRecDepth 100000 in
set_option maxHeartbeats 2000000 in
theorem symbol_any (B:Nat) (s:ByteArray) (b g:Nat) (st:As.St) (W:World) (h:AsmAt B s b g st W) :
  Calls Tryz.prog 205 #[.pointer (some ⟨b,0,none⟩)] W fun en W'=>en = .returned (.int .i64 (As.symbol (sl s) st).1)∧Does B s b g W (As.symbol (sl s) st).2 W':=by
 have HW:=hid h
 have cN:=hid (name_any B s b g st W h)
 have HT:=hid (name_tok (sl s) st h.ok.tok)
 clear h
 have RS:=hid (show As.symbol (sl s) st=((As.symbolNamed (As.name (sl s) st).1 (As.name (sl s) st).2).1.1,(As.symbolNamed (As.name (sl s) st).1 (As.name (sl s) st).2).2) from rfl)
 generalize As.symbol (sl s) st=X at *
 generalize As.name (sl s) st=R at *
 obtain ⟨t,st1⟩:=R
 simp only at HT RS cN
 go_enter Tryz.func205,Tryz.ntmps205
 go_wp2_with fail
 refine cN.out.mono ?_
 rintro e V ⟨rfl,h1⟩
 have D1:=hid (h1.does HW.out)
 clear h1 cN
 unfold tokA
 go_wp2_with fail
 refine (symbolNamed_any B s b g st1 t _ (D1.out.alloc _).1 HT.out).mono ?_
 rintro e V2 ⟨rfl,h2⟩
 have D2:=hid ((D1.out.alloc _).after h2)
 clear h2 D1
 unfold symRet
 go_wp2
 go_ret
 rw [RS.out]
 exact ⟨rfl,D2.out⟩

set_option maxRecDepth 100000 in
set_option maxHeartbeats 2000000 in
theorem target_any (B:Nat) (s:ByteArray) (b g:Nat) (st:As.St) (W:World) (h:AsmAt B s b g st W) :
  Calls Tryz.prog 203 #[.pointer (some ⟨b,0,none⟩)] W fun en W'=>en = .returned (.tuple #[.int .i64 (As.target (sl s) st).1.1,.int .i64 (As.target (sl s) st).1.2])∧Does B s b g W (As.target (sl s) st).2 W':=by
 have cN:=hid (symbol_any B s b g st W h)
 clear h
 have RS:=hid (show As.target (sl s) st=if (As.symbol (sl s) st).2.tok.is [43] then (((As.symbol (sl s) st).1,(As.number (sl s) 0 2047 (As.advance (sl s) (As.symbol (sl s) st).2)).1),(As.number (sl s) 0 2047 (As.advance (sl s) (As.symbol (sl s) st).2)).2)
  else if (As.symbol (sl s) st).2.tok.is [45] then (((As.symbol (sl s) st).1,-(As.number (sl s) 0 2048 (As.advance (sl s) (As.symbol (sl s) st).2)).1),(As.number (sl s) 0 2048 (As.advance (sl s) (As.symbol (sl s) st).2)).2)
  else (((As.symbol (sl s) st).1,0),(As.symbol (sl s) st).2) from rfl)
 generalize As.target (sl s) st=X at *
 generalize As.symbol (sl s) st=R at *
 obtain ⟨i,st1⟩:=R
 simp only at RS cN
 go_enter Tryz.func203,Tryz.ntmps203
 go_wp2_with fail
 refine cN.out.mono ?_
 rintro e V ⟨rfl,h1⟩
 have D1:=hid h1
 clear h1 cN
 obtain ⟨c2,c3,c4,c5⟩:=cell_b D1.out.1
 go_wp2_with fail
 refine (tokIs_any st1.tok [43] V).mono ?_
 rintro e V1 ⟨rfl,hg⟩
 have D2:=hid (D1.out.grown hg)
 clear hg D1 c2 c3 c4 c5
 cases hp:st1.tok.is [43]
 ·rw [hp,if_neg (by simp)] at RS
  clear hp
  obtain ⟨c2,c3,c4,c5⟩:=cell_b D2.out.1
  go_wp2_with fail
  refine (tokIs_any st1.tok [45] V1).mono ?_
  rintro e V2 ⟨rfl,hg⟩
  have D3:=hid (D2.out.grown hg)
  clear hg D2 c2 c3 c4 c5
  cases hm:st1.tok.is [45]
  ·rw [hm,if_neg (by simp)] at RS
   clear hm
   go_wp2
   go_ret2
   rw [RS.out]
   exact ⟨rfl,D3.out⟩
  ·rw [hm,if_pos rfl] at RS
   clear hm
   go_wp2_with fail
   refine (advance_any B s b g st1 V2 D3.out.1).mono ?_
   rintro e V3 ⟨rfl,h3⟩
   have D4:=hid (D3.out.afterB h3)
   clear h3 D3
   generalize As.advance (sl s) st1=st2 at *
   go_wp2_with fail
   refine (aNumber_any B s b g st2 0 2048 V3 D4.out.1).mono ?_
   rintro e V4 ⟨rfl,h4⟩
   have D5:=hid (D4.out.afterB h4)
   clear h4 D4
   have NB:=number_bnd (sl s) 0 2048 st2 (by omega) (by omega)
   generalize As.number (sl s) 0 2048 st2=R4 at *
   obtain ⟨nn,st4⟩:=R4
   simp only at NB RS D5 ⊢
   go_wp2
   go_ret2
   rw [RS.out]
   exact ⟨rfl,D5.out⟩
 ·rw [hp,if_pos rfl] at RS
  clear hp
  go_wp2_with fail
  refine (advance_any B s b g st1 V1 D2.out.1).mono ?_
  rintro e V3 ⟨rfl,h3⟩
  have D4:=hid (D2.out.afterB h3)
  clear h3 D2
  generalize As.advance (sl s) st1=st2 at *
  go_wp2_with fail
  refine (aNumber_any B s b g st2 0 2047 V3 D4.out.1).mono ?_
  rintro e V4 ⟨rfl,h4⟩
  have D5:=hid (D4.out.afterB h4)
  clear h4 D4
  generalize As.number (sl s) 0 2047 st2=R4 at *
  obtain ⟨nn,st4⟩:=R4
  simp only at RS D5 ⊢
  go_wp2
  go_ret2
  rw [RS.out]
  exact ⟨rfl,D5.out⟩

set_option maxRecDepth 100000 in
set_option maxHeartbeats 2000000 in
theorem place_any (B:Nat) (s:ByteArray) (b g:Nat) (st:As.St) (W:World) (h:AsmAt B s b g st W) :
  Calls Tryz.prog 202 #[.pointer (some ⟨b,0,none⟩)] W fun en W'=>en = .returned (.tuple #[.int .i64 (As.place (sl s) st).1.1,.int .i64 (As.place (sl s) st).1.2])∧DoesB B s b g W (As.place (sl s) st).2 W':=by
 have cN:=hid (aNumber_any B s b g st (-2048) 2047 W h)
 clear h
 have RS:=hid (show As.place (sl s) st=(((As.number (sl s) (-2048) 2047 st).1,(As.register (sl s) (As.sign (sl s) [40] (As.number (sl s) (-2048) 2047 st).2)).1),As.sign (sl s) [41] (As.register (sl s) (As.sign (sl s) [40] (As.number (sl s) (-2048) 2047 st).2)).2) from rfl)
 generalize As.place (sl s) st=X at *
 generalize As.number (sl s) (-2048) 2047 st=R at *
 obtain ⟨nn,st1⟩:=R
 simp only at RS cN
 go_enter Tryz.func202,Tryz.ntmps202
 go_wp2_with fail
 refine cN.out.mono ?_
 rintro e V ⟨rfl,h1⟩
 have D1:=hid h1
 clear h1 cN
 go_wp2_with fail
 refine (sign_any B s b g st1 [40] V D1.out.1).mono ?_
 rintro e V1 ⟨rfl,h1⟩
 have D2:=hid (D1.out.after h1)
 clear h1 D1
 generalize As.sign (sl s) [40] st1=st2 at *
 go_wp2_with fail
 refine (register_any B s b g st2 V1 D2.out.1).mono ?_
 rintro e V2 ⟨rfl,h1⟩
 have D3:=hid (D2.out.after h1)
 clear h1 D2
 generalize As.register (sl s) st2=R2 at *
 obtain ⟨rg,st3⟩:=R2
 simp only at RS D3 ⊢
 go_wp2_with fail
 refine (sign_any B s b g st3 [41] V2 D3.out.1).mono ?_
 rintro e V3 ⟨rfl,h1⟩
 have D4:=hid (D3.out.after h1)
 clear h1 D3
 go_wp2
 go_ret2
 rw [RS.out]
 exact ⟨rfl,D4.out⟩

end Go.Proofs.YtnfgdlkiialnnaaGreatDoor

namespace Go.Proofs.YtnfgdlkiialnnaaGreatDoor
open Go.RowKit

/-- words that are handed over: a list at ao, or none -/
def WordsAt (W:World) (ao:Option Addr) (cap:Nat) (ws:List Int):Prop :=
 (ao=none∧cap=0∧ws=[])∨∃ wg off cs,ao=some ⟨wg,off,none⟩∧BlkAt W wg cs 3∧∀ i (h:i < ws.length),cs[off+i]?=some (.int .i64 ws[i])

theorem WordsAt.kept {W W':World} {ao:Option Addr} {cap:Nat} {ws:List Int} (h:WordsAt W ao cap ws) (hk:∀ k cs,BlkAt W k cs 3→ao.map (·.block)=some k→BlkAt W' k cs 3):WordsAt W' ao cap ws:=by
 rcases h with h | ⟨wg,off,cs,rfl,h1,h2⟩
 ·exact .inl h
 ·exact .inr ⟨wg,off,cs,rfl,hk wg cs h1 rfl,h2⟩
theorem WordsAt.grown {W W':World} {ao:Option Addr} {cap:Nat} {ws:List Int} (h:WordsAt W ao cap ws) (hg:W.grownBy W' none):WordsAt W' ao cap ws:=h.kept fun _ _ hb _=>hb.grown hg (by simp)
theorem wp_append_words {P:Program} (w:World) {o:Oper} {a:Act} {K:Act→World→Prop} {Q:Exit→Act→World→Prop} (s x:Operand) (t:TypeId)
  (ho:o.op = .call { callee:=.builtin .append,args:=#[s,x],argTypes:=#[t,t] })
  (base:Nat) (i:TypeInfo) (ht:P.underlying t=some (.slice 3)) (hi:P.info? 3=some i) (hz:i.zero=some (.int .i64 0))
  (hsize:i.size=1) (hby:i.bytes=8)
  (v:Value) (n:Nat) (xs:List Value) (hs:a.eval s=v) (hown:w.ownsRow base 3 1 v n xs)
  (ao:Option Addr) (cap:Nat) (ws:List Int) (hx:a.eval x = .slice ao ws.length cap) (hw:WordsAt w ao cap ws)
  (h63:n+ws.length≤65535) (hbase:base≤w.heap.size)
  (h:∀ v' w',w'.ownsRow base 3 1 v' (n+ws.length) (xs ++ ws.map (Value.int .i64))→w.grownBy w' v.ownBlock→(v'.ownBlock=v.ownBlock∨v'.ownBlock=some w.heap.size)→K (a.put o.dst v') w'):o.wp P a w K Q:=by
 rcases hw with ⟨rfl,rfl,rfl⟩ | ⟨wg,off,cs,rfl,hb,hc⟩
 ·have hrun:=run_append_owned_none (P:=P) (w:=w) base t o.type 3 i 1 ht hi v n xs hown
  have hx':a.eval x = .slice none 0 0:=hx
  have h':=h v w (by simpa using hown) ⟨rfl,rfl,rfl,Nat.le_refl _,fun _ _ _=>rfl⟩ (.inl rfl)
  unfold Oper.wp
  simp [execOp,ho,resolve,invoke,builtin,hs,hx',hrun,Result.andThen]
  exact h'
 ·refine wp_append_own_at w s x t ho base 3 i (.int .i64 0) 1 8 ht hi hz hsize hby rfl (by decide) v n xs hs hown ⟨wg,off,none⟩ ws.length cap (ws.map (Value.int .i64)) hx (by simp) ?_ (by intro u hu; simp at hu; obtain ⟨y,_,rfl⟩:=hu; rfl) (by unfold maxLen; omega) (by omega) hbase (fun v' w' h1 h2 _ h4=>h v' w' h1 h2 h4)
  intro j u hu
  rw [List.getElem?_map,Option.map_eq_some_iff] at hu
  obtain ⟨y,hy,rfl⟩:=hu
  obtain ⟨hj,rfl⟩:=List.getElem?_eq_some_iff.1 hy
  have:=hb.cell (off+j)
  rw [hc j hj] at this
  have e:(⟨wg,off,none⟩:Addr).add j=⟨wg,off+j,none⟩:=by
   unfold Addr.add
   by_cases h0:j=0
   ·subst h0; simp
   ·simp [h0]
  rw [e]
  exact this

theorem AsmAt.objAt {B:Nat} {s:ByteArray} {b g:Nat} {st:As.St} {W:World} (h:AsmAt B s b g st W):ObjAt W g st.obj:=by
 obtain ⟨vt,vf,vd,va,vs,vr,ho⟩:=h.own
 exact ⟨vt,vf,vd,va,vs,vr,ho.blk,own_base ho.text (Nat.zero_le _),own_base ho.far (Nat.zero_le _),own_base ho.data (Nat.zero_le _),own_base ho.align (Nat.zero_le _),own_base ho.syms (Nat.zero_le _),own_base ho.rels (Nat.zero_le _)⟩
theorem StOk.small {s:ByteArray} {st:As.St} (h:StOk s st):Small st.obj:=⟨by have:=h.text; omega,by have:=h.far; omega,by have:=h.data; omega,by have:=h.align; omega,by have:=h.syms; omega,by have:=h.rels; omega⟩
theorem seclen_eq (o:Lk.Obj) (sect:Nat):seclen o (sect:Int)=As.secLen o sect:=by
 unfold seclen As.secLen wordsOf
 by_cases h4:sect=4
 ·rw [if_pos (by omega),if_pos h4]
 by_cases h1:sect=1
 ·rw [if_neg (by omega),if_neg h4,if_pos (by omega),if_pos h1]
 by_cases h2:sect=2
 ·rw [if_neg (by omega),if_neg h4,if_neg (by omega),if_neg h1,if_pos (by omega),if_pos h2]
 by_cases h3:sect=3
 ·rw [if_neg (by omega),if_neg h4,if_neg (by omega),if_neg h1,if_neg (by omega),if_neg h2,if_pos (by omega),if_pos h3]
 ·rw [if_neg (by omega),if_neg h4,if_neg (by omega),if_neg h1,if_neg (by omega),if_neg h2,if_neg (by omega),if_neg h3]; rfl
theorem secLen_bnd {s:ByteArray} {st:As.St} (h:StOk s st):0≤As.secLen st.obj st.sect∧As.secLen st.obj st.sect≤1200:=by
 have h1:=h.text
 have h2:=h.far
 have h3:=h.data
 have h4:=h.bss
 unfold As.secLen
 repeat' split
 all_goals omega

theorem length_any (B:Nat) (s:ByteArray) (b g:Nat) (st:As.St) (W:World) (h:AsmAt B s b g st W) :
  Calls Tryz.prog 96 #[.pointer (some ⟨g,0,none⟩),.int .i64 st.sect] W fun e W'=>e = .returned (.int .i64 (4 * As.secLen st.obj st.sect))∧W'=W:=by
 rw [← seclen_eq]
 exact lengthOf_any g st.obj st.sect W h.objAt h.ok.small h.ok.bss

set_option maxHeartbeats 1000000 in
theorem limit_any (B:Nat) (s:ByteArray) (b g:Nat) (st:As.St) (W:World) (h:AsmAt B s b g st W) :
  Calls Tryz.prog 221 #[.pointer (some ⟨b,0,none⟩)] W fun e W'=>e = .returned (.int .i64 (As.limit st.sect))∧W'=W:=by
 have c:=cell_sect h
 have hs:=h.ok.sect
 clear h
 generalize st.sect=sect at *
 rcases (show sect=1∨sect=2∨sect=3∨sect=4 by omega) with rfl | rfl | rfl | rfl
 all_goals
  go_enter Tryz.func221,Tryz.ntmps221
  go_wp2
  go_ret
  exact ⟨rfl,rfl⟩

theorem cell_op {B:Nat} {s:ByteArray} {b g:Nat} {st:As.St} {W:World} (h:AsmAt B s b g st W):W.cell? ⟨b,10,none⟩=some (.int .i64 st.op.pos):=by
 have c:=asm_cell h 10
 simpa only [asmCells,List.getElem?_toArray,List.getElem?_cons_succ,List.getElem?_cons_zero] using c

section
variable {B:Nat} {s:ByteArray} {b g:Nat} {V W':World} {st:As.St} {vt vf vd va vs vr v':Value}
theorem AsmAt.newText (h:AsmAt B s b g st V) (ho:ObjOwn B V b g st.obj vt vf vd va vs vr) (n:NewRow B V W' b g vt v') (xs:List Int) (hxs:xs.length≤1200)
  (hblk:BlkAt W' g #[v',vf,vd,.int .i64 st.obj.bss,va,vs,vr] 90) (hown:W'.ownsRow B 3 1 v' xs.length (xs.map (Value.int .i64))):Does B s b g V { st with obj:={ st.obj with text:=xs } } W':=by
 refine n.does h ho (i:=2) rfl (by omega) ⟨v',vf,vd,va,vs,vr,hblk,hown,?_,?_,?_,?_,?_,n.apart ho h.blk.lt (i:=2) rfl⟩ rfl (h.ok.obj' _ hxs h.ok.far h.ok.data h.ok.bss h.ok.align h.ok.syms h.ok.rels) (row_blk ho.text (by simp))
 ·exact n.row ho (i:=2) (j:=3) rfl rfl (by omega) (by omega) ho.far
 ·exact n.row ho (i:=2) (j:=4) rfl rfl (by omega) (by omega) ho.data
 ·exact n.row ho (i:=2) (j:=5) rfl rfl (by omega) (by omega) ho.align
 ·exact n.row ho (i:=2) (j:=6) rfl rfl (by omega) (by omega) ho.syms
 ·exact n.row ho (i:=2) (j:=7) rfl rfl (by omega) (by omega) ho.rels
theorem AsmAt.newFar (h:AsmAt B s b g st V) (ho:ObjOwn B V b g st.obj vt vf vd va vs vr) (n:NewRow B V W' b g vf v') (xs:List Int) (hxs:xs.length≤1200)
  (hblk:BlkAt W' g #[vt,v',vd,.int .i64 st.obj.bss,va,vs,vr] 90) (hown:W'.ownsRow B 3 1 v' xs.length (xs.map (Value.int .i64))):Does B s b g V { st with obj:={ st.obj with far:=xs } } W':=by
 refine n.does h ho (i:=3) rfl (by omega) ⟨vt,v',vd,va,vs,vr,hblk,?_,hown,?_,?_,?_,?_,n.apart ho h.blk.lt (i:=3) rfl⟩ rfl (h.ok.obj' _ h.ok.text hxs h.ok.data h.ok.bss h.ok.align h.ok.syms h.ok.rels) (row_blk ho.far (by simp))
 ·exact n.row ho (i:=3) (j:=2) rfl rfl (by omega) (by omega) ho.text
 ·exact n.row ho (i:=3) (j:=4) rfl rfl (by omega) (by omega) ho.data
 ·exact n.row ho (i:=3) (j:=5) rfl rfl (by omega) (by omega) ho.align
 ·exact n.row ho (i:=3) (j:=6) rfl rfl (by omega) (by omega) ho.syms
 ·exact n.row ho (i:=3) (j:=7) rfl rfl (by omega) (by omega) ho.rels
theorem AsmAt.newData (h:AsmAt B s b g st V) (ho:ObjOwn B V b g st.obj vt vf vd va vs vr) (n:NewRow B V W' b g vd v') (xs:List Int) (hxs:xs.length≤64)
  (hblk:BlkAt W' g #[vt,vf,v',.int .i64 st.obj.bss,va,vs,vr] 90) (hown:W'.ownsRow B 3 1 v' xs.length (xs.map (Value.int .i64))):Does B s b g V { st with obj:={ st.obj with data:=xs } } W':=by
 refine n.does h ho (i:=4) rfl (by omega) ⟨vt,vf,v',va,vs,vr,hblk,?_,?_,hown,?_,?_,?_,n.apart ho h.blk.lt (i:=4) rfl⟩ rfl (h.ok.obj' _ h.ok.text h.ok.far hxs h.ok.bss h.ok.align h.ok.syms h.ok.rels) (row_blk ho.data (by simp))
 ·exact n.row ho (i:=4) (j:=2) rfl rfl (by omega) (by omega) ho.text
 ·exact n.row ho (i:=4) (j:=3) rfl rfl (by omega) (by omega) ho.far
 ·exact n.row ho (i:=4) (j:=5) rfl rfl (by omega) (by omega) ho.align
 ·exact n.row ho (i:=4) (j:=6) rfl rfl (by omega) (by omega) ho.syms
 ·exact n.row ho (i:=4) (j:=7) rfl rfl (by omega) (by omega) ho.rels
/-- append without an alloc ahead, then the field -/
theorem NewRow.app0 {v:Value} {w3:World} {off:Nat} (hg:V.grownBy w3 v.ownBlock) (hat:v'.ownBlock=v.ownBlock∨v'.ownBlock=some V.heap.size):NewRow B V (w3.setCell ⟨g,off,none⟩ v') b g v v':=by
 have gs:=grown_set w3 g off v'
 refine ⟨fun k hk hne hkg=>?_,fun k hk=>?_,?_,?_,?_,?_⟩
 ·rw [gs.block k (by have:=hg.size; omega) (by simpa using hkg),hg.block k hk hne]
 ·rcases hat with e | e
  ·exact .inl (by rw [← e]; exact hk)
  ·rw [e] at hk
   simp at hk
   exact .inr (by omega)
 ·rw [gs.os,hg.os]
 ·rw [gs.tape,hg.tape]
 ·rw [gs.output,hg.output]
 ·have:=gs.size; have:=hg.size; omega
end

end Go.Proofs.YtnfgdlkiialnnaaGreatDoor
