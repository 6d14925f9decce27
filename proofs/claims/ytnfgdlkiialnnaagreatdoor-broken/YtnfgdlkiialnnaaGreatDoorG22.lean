/- Linking: what does not reach. -/
/- Walks over package image: regionsFit. -/
/- Linking: what takes part, and where it lies. -/
/- Walks over package object: writeReloc; what a Writer leaves as it was. -/
import Derived.Test.YtnfgdlkiialnnaaGreatDoorG20
import Derived.Test.YtnfgdlkiialnnaaGreatDoorG04
import Derived.Test.YtnfgdlkiialnnaaGreatDoorG03
import Derived.Deep.RegionWith
import Derived.Deep.CutRange
import Derived.Test.YtnfgdlkiialnnaaGreatDoorG21
import Derived.Test.YtnfgdlkiialnnaaGreatDoorG08
namespace Go.Proofs.YtnfgdlkiialnnaaGreatDoor
open Go.RowKit

namespace Ln
def reachesB (kind d:Int):Bool:=if kind=2 then decide (-4096≤d) && decide (d≤4095) else if kind=3 then decide (-1048576≤d) && decide (d≤1048575) else true
def symName (o:Lk.Obj) (i:Int):List UInt8:=if i < 0 then [] else match o.syms[i.toNat]? with
 | none=>[]
 | some y=>y.name
def reachIn (ms:List Mod) (m:Mod) (i:Nat):List Lk.Rel→Option Flt
 | []=>none
 | r :: rs=>if reachesB r.kind (distance ms m r) then reachIn ms m i rs else some ⟨37,i,symName m.obj r.sym⟩
def reachAt (ms:List Mod):Nat→List Mod→Flt
 | _,[]=>ok
 | i,m :: r=>match reachIn ms m i m.obj.rels with
  | some f=>f
  | none=>reachAt ms (i+1) r
def checkReach (ms:List Mod):Flt:=reachAt ms 0 ms
end Ln

theorem reachIn_drop (ms:List Ln.Mod) (m:Ln.Mod) (i:Nat) (rs:List Lk.Rel) (j:Nat) (h:j < rs.length):Ln.reachIn ms m i (rs.drop j)=if Ln.reachesB rs[j].kind (Ln.distance ms m rs[j]) then Ln.reachIn ms m i (rs.drop (j+1)) else some ⟨37,i,Ln.symName m.obj rs[j].sym⟩:=by
 rw [List.drop_eq_getElem_cons h]
 rfl
theorem reachAt_drop (ms l:List Ln.Mod) (k:Nat) (h:k < l.length):Ln.reachAt ms k (l.drop k)=match Ln.reachIn ms l[k] k l[k].obj.rels with
  | some f=>f
  | none=>Ln.reachAt ms (k+1) (l.drop (k+1)):=by
 rw [List.drop_eq_getElem_cons h]
 rfl

set_option maxRecDepth 100000 in
set_option maxHeartbeats 2000000 in
theorem reaches_any (kind d:Int) (w:World) :
  Calls Tryz.prog 103 #[.int .i64 kind,.int .i64 d] w fun e w'=>e = .returned (.bool (Ln.reachesB kind d))∧w'=w:=by
 have R:=hid (show Ln.reachesB kind d=if kind=2 then decide (-4096≤d) && decide (d≤4095) else if kind=3 then decide (-1048576≤d) && decide (d≤1048575) else true from rfl)
 by_cases e2:kind=2
 ·subst e2
  by_cases a:-4096≤d
  ·have d1:decide (-4096≤d)=true:=by simpa using a
   have E:=hid (show Ln.reachesB 2 d=decide (d≤4095) by rw [R.out]; simp [a])
   clear a
   go_enter Tryz.func103,Tryz.ntmps103
   go_wp2
   go_ret
   exact ⟨by rw [E.out]; rfl,rfl⟩
  ·have d1:decide (-4096≤d)=false:=by simpa using a
   have E:=hid (show Ln.reachesB 2 d=false by rw [R.out]; simp [a])
   clear a
   go_enter Tryz.func103,Tryz.ntmps103
   go_wp2
   go_ret
   exact ⟨by rw [E.out]; rfl,rfl⟩
 ·by_cases e3:kind=3
  ·subst e3
   clear e2
   by_cases a:-1048576≤d
   ·have d1:decide (-1048576≤d)=true:=by simpa using a
    have E:=hid (show Ln.reachesB 3 d=decide (d≤1048575) by rw [R.out]; simp [a])
    clear a
    go_enter Tryz.func103,Tryz.ntmps103
    go_wp2
    go_ret
    exact ⟨by rw [E.out]; rfl,rfl⟩
   ·have d1:decide (-1048576≤d)=false:=by simpa using a
    have E:=hid (show Ln.reachesB 3 d=false by rw [R.out]; simp [a])
    clear a
    go_enter Tryz.func103,Tryz.ntmps103
    go_wp2
    go_ret
    exact ⟨by rw [E.out]; rfl,rfl⟩
  ·have E:=hid (show Ln.reachesB kind d=true by rw [R.out,if_neg e2,if_neg e3])
   have d2:(kind == 2)=false:=by simpa using e2
   have d3:(kind == 3)=false:=by simpa using e3
   clear e2 e3
   go_enter Tryz.func103,Tryz.ntmps103
   go_wp2
   go_ret
   exact ⟨by rw [E.out]; rfl,rfl⟩

set_option maxRecDepth 100000 in
set_option maxHeartbeats 2000000 in
theorem symbolName_any (bl:List Nat) (b g:Nat) (m:Ln.Mod) (i:Int) (w:World) (h:ModAt w bl b g m) (hs:m.obj.syms.length≤65535) :
  Calls Tryz.prog 104 #[ptrV b,.int .i64 i] w fun e w'=>e = .returned (.string (bs (Ln.symName m.obj i)))∧w'=w:=by
 obtain ⟨v1,v2,v3,v4,q0,q1,-⟩:=h
 obtain ⟨at_,ct,af,cf,ad,cd,aa,ca,as_,cs,ar,cr,hb,-,-,-,-,p5,-⟩:=q1.open
 have S:=SymsIn.of_own p5
 have k5:=hb.cell 5
 simp only [List.getElem?_toArray,List.getElem?_cons_succ,List.getElem?_cons_zero] at k5
 have k0:w.cell? ⟨b,0,none⟩=some (.pointer (some ⟨g,0,none⟩)):=q0.cell 0
 clear q0 q1 hb p5
 have R:=hid (show Ln.symName m.obj i=if i < 0 then [] else match m.obj.syms[i.toNat]? with
  | none=>[]
  | some y=>y.name from rfl)
 generalize m.obj.syms=ys at *
 unfold ptrV
 by_cases h0:i < 0
 ·have d0:decide (i < 0)=true:=by simpa using h0
  have E:=hid (show Ln.symName m.obj i=[] by rw [R.out,if_pos h0])
  clear h0
  go_enter Tryz.func104,Tryz.ntmps104
  go_wp2
  go_ret
  exact ⟨by rw [E.out]; rfl,rfl⟩
 ·obtain ⟨k,rfl⟩:∃ k:Nat,i=(k:Int):=⟨i.toNat,by omega⟩
  have d0:decide ((k:Int) < 0)=false:=by simp
  clear h0
  by_cases hlt:k < ys.length
  ·have d1:decide ((ys.length:Int)≤(k:Int))=false:=by simp; omega
   obtain ⟨sg,hsg,hgs,hcs⟩:=S (by omega)
   subst hsg
   obtain ⟨q0,q1,q2,q3⟩:=hcs k hlt
   clear hcs
   have E:=hid (show Ln.symName m.obj k=ys[k].name by rw [R.out,if_neg (by omega),Int.toNat_natCast,List.getElem?_eq_getElem hlt])
   generalize ys[k]=y at *
   go_enter Tryz.func104,Tryz.ntmps104
   go_wp2
   go_ret
   exact ⟨by rw [E.out]; rfl,rfl⟩
  ·have d1:decide ((ys.length:Int)≤(k:Int))=true:=by simp; omega
   have E:=hid (show Ln.symName m.obj k=[] by rw [R.out,if_neg (by omega),Int.toNat_natCast,List.getElem?_eq_none (by omega)])
   go_enter Tryz.func104,Tryz.ntmps104
   go_wp2
   go_ret
   exact ⟨by rw [E.out]; rfl,rfl⟩

set_option maxRecDepth 100000 in
set_option maxHeartbeats 8000000 in
theorem checkReach_any (W0:World) (P:Nat) (bt bf bd:Int) (vm:Value) (bl gl:List Nat) (ms:List Ln.Mod) (st:Ln.Spot) (no:Int) (W:World) (h:ProgAt W0 P bt bf bd vm bl gl ms st no W) (hn:∀ m∈ms,MNice bl.length m) :
  Calls Tryz.prog 70 #[ptrV P] W fun e W'=>e = .returned (lfA (Ln.checkReach ms))∧W.grownBy W' none:=by
 obtain ⟨am,cm,rfl⟩:=own_form h.row
 have HP:=hid h
 have c3:W.cell? ⟨P,3,none⟩=some (.slice am bl.length cm):=h.blk.cell 3
 have hbl:=h.few
 have LO:=hid h.lenO
 have HN:=hid hn
 have G0:=hid (World.grownBy_alloc W (.cells #[.int .i64 0,.int .i64 0,.string ⟨#[]⟩] 45) none)
 have B0:=hid (BlkAt.new W #[.int .i64 0,.int .i64 0,.string ⟨#[]⟩] 45)
 have c3':=gcell c3 G0.out
 clear h hn c3
 unfold ptrV
 go_enter Tryz.func70,Tryz.ntmps70
 go_wp2
 generalize W.alloc (.cells #[.int .i64 0,.int .i64 0,.string ⟨#[]⟩] 45)=W1 at *
 clear c3'
 go_loopw [12] (fun i wr=>∃ k:Nat,k≤bl.length∧i = .int .i64 k∧Ln.checkReach ms=Ln.reachAt ms k (ms.drop k)∧W1.grownBy wr none) (fun i _=>bl.length - (intOf i).toNat)
 case atStart=>exact ⟨0,Nat.zero_le _,rfl,rfl,World.grownBy.refl _ _⟩
 case round =>
  obtain ⟨k,hk,rfl,hf,hgr⟩:=hrel
  have HF:=hid hf
  have HG:=hid hgr
  clear hf hgr
  by_cases hlt:k < bl.length
  ·have hko:k < ms.length:=by rw [LO.out]; exact hlt
   have hkg:k < gl.length:=by rw [HP.out.lenG]; exact hlt
   have PR:=HP.out.kept (grown_trans G0.out HG.out)
   obtain ⟨sg,off,hsg,hsc⟩:=PR.modsIn.ptrs (by omega)
   have ck:=hsc k hlt
   have HM:ModAt wr bl bl[k] (gl[k]'hkg) ms[k]:=PR.mods k hlt
   have MN:=HN.out _ (List.getElem_mem hko)
   have MA:=hid (PR.modsAt HN.out)
   have HMH:=hid HM
   obtain ⟨v1,v2,v3,v4,q0,q1,-⟩:=HM
   obtain ⟨at_,ct,af,cf,ad,cd,aa,ca,as_,cs,ar,cr,hb,-,-,-,-,-,p6⟩:=q1.open
   have S:=hid (RelsIn.of_own p6)
   have k6:=hb.cell 6
   simp only [List.getElem?_toArray,List.getElem?_cons_succ,List.getElem?_cons_zero] at k6
   have k0:wr.cell? ⟨bl[k],0,none⟩=some (.pointer (some ⟨gl[k]'hkg,0,none⟩)):=q0.cell 0
   have hrl:=MN.rels.1
   have hsy:=HP.out.syms _ (List.getElem_mem hko)
   have FD:=hid (reachAt_drop ms ms k hko)
   have cD:=hid (fun W2 (hg:wr.grownBy W2 none) r (hr:r∈ms[k].obj.rels)=>distance_any bl ms bl[k] (gl[k]'hkg) ms[k] r W2 (MA.out.kept hg) (HMH.out.kept hg) MN (MN.rels.2 r hr).2.1 (MN.rels.2 r hr).2.2)
   have cS:=hid (fun W2 (hg:wr.grownBy W2 none) i=>symbolName_any bl bl[k] (gl[k]'hkg) ms[k] i W2 (HMH.out.kept hg) hsy)
   subst hsg
   clear hsc q0 q1 hb p6 PR MN hsy
   generalize (gl[k]'hkg)=gk at *
   generalize bl[k]=bk at *
   generalize ms[k]=m at *
   have g1:(k:Int) < (bl.length:Int):=by omega
   unfold ptrV relA at *
   go_wp2
   generalize wr=U at *
   clear ck k0 k6
   go_loopw [25] (fun i wr=>∃ j:Nat,j≤m.obj.rels.length∧i = .int .i64 j∧Ln.reachIn ms m k m.obj.rels=Ln.reachIn ms m k (m.obj.rels.drop j)∧U.grownBy wr none) (fun i _=>m.obj.rels.length - (intOf i).toNat)
   case atStart=>exact ⟨0,Nat.zero_le _,rfl,rfl,World.grownBy.refl _ _⟩
   case round =>
    obtain ⟨j,hj,rfl,hf2,hgr2⟩:=hrel
    have HF2:=hid hf2
    have HG2:=hid hgr2
    clear hf2 hgr2
    by_cases hlt2:j < m.obj.rels.length
    ·obtain ⟨sg2,hsg2,hgs,hcs⟩:=S.out.grown HG2.out (by omega)
     subst hsg2
     obtain ⟨q0,q1,q2,q3,q4⟩:=hcs j hlt2
     clear hcs
     have g2:(j:Int) < (m.obj.rels.length:Int):=by omega
     have FI:=hid (show Ln.reachIn ms m k m.obj.rels=_ from HF2.out.trans (reachIn_drop ms m k m.obj.rels j hlt2))
     have cE:=hid (fun W2 hg=>cD.out W2 hg m.obj.rels[j] (List.getElem_mem hlt2))
     have hn2:m.obj.rels.length=m.obj.rels.length:=rfl
     generalize m.obj.rels[j]=r at *
     have BX:=hid (BlkAt.new wr #[.int .i64 r.sect,.int .i64 r.off,.int .i64 r.kind,.int .i64 r.sym,.int .i64 r.addend] 139)
     have GA:=hid (World.grownBy_alloc wr (.cells #[.int .i64 r.sect,.int .i64 r.off,.int .i64 r.kind,.int .i64 r.sym,.int .i64 r.addend] 139) none)
     have GW:=hid (grown_trans HG2.out GA.out)
     have cRe:=hid (fun d W2=>reaches_any r.kind d W2)
     generalize Ln.distance ms m r=ds at *
     go_upto_region 7 with fail
     clear q0 q1 q2 q3 q4
     generalize wr.alloc (.cells #[.int .i64 r.sect,.int .i64 r.off,.int .i64 r.kind,.int .i64 r.sym,.int .i64 r.addend] 139)=W2 at *
     generalize wr.heap.size=L at *
     have c0:W2.cell? ⟨L,0,none⟩=some (.int .i64 r.sect):=BX.out.cell 0
     have c1:W2.cell? ⟨L,1,none⟩=some (.int .i64 r.off):=BX.out.cell 1
     have c2:W2.cell? ⟨L,2,none⟩=some (.int .i64 r.kind):=BX.out.cell 2
     have c3:W2.cell? ⟨L,3,none⟩=some (.int .i64 r.sym):=BX.out.cell 3
     have c4:W2.cell? ⟨L,4,none⟩=some (.int .i64 r.addend):=BX.out.cell 4
     have BD:=hid (fun W (hq:W2.drew.grownBy W none)=>show BlkAt W L #[.int .i64 r.sect,.int .i64 r.off,.int .i64 r.kind,.int .i64 r.sym,.int .i64 r.addend] 139 from (blk_drew BX.out).grown hq (by simp))
     go_region_held3 (fun w'=>w'.cell? ⟨L,0,none⟩=some (.int .i64 r.sect)∧w'.cell? ⟨L,1,none⟩=some (.int .i64 r.off)∧w'.cell? ⟨L,2,none⟩=some (.int .i64 r.kind)∧w'.cell? ⟨L,3,none⟩=some (.int .i64 r.sym)∧w'.cell? ⟨L,4,none⟩=some (.int .i64 r.addend))
      (go_keep)
      (first | (go_at_call 97; refine (cE.out _ (grown_drew GW.out)).mono ?_; rintro e w' ⟨rfl,hq⟩; have bq:=BD.out _ hq; have s0:=bq.cell 0; have s1:=bq.cell 1; have s2:=bq.cell 2; have s3:=bq.cell 3; have s4:=bq.cell 4; simp only [List.getElem?_toArray,List.getElem?_cons_succ,List.getElem?_cons_zero] at s0 s1 s2 s3 s4) | (go_at_call 103; refine (cRe.out _ _).mono ?_; rintro e w2 ⟨rfl,hw⟩; rw [hw]; clear hw w2))
     have GQ:=hid (grown_trans (grown_drew GW.out) hq)
     have BQ:=hid bq
     clear hq bq c0 c1 c2 c3 c4 s0 s1 s2 s3 s4 cE cRe GA
     generalize hrb:Ln.reachesB r.kind ds=rb at *
     have HRB:=hid hrb
     clear hrb
     cases rb
     ·have E:=hid (show Ln.checkReach ms=⟨37,k,Ln.symName m.obj r.sym⟩ by rw [HF.out,FD.out,FI.out]; rfl)
      have BR:=hid (B0.out.grown (grown_trans HG.out GQ.out) (by simp))
      have cSy:=hid (cS.out _ GQ.out r.sym)
      generalize Ln.symName m.obj r.sym=nm at *
      have c3:w'.cell? ⟨L,3,none⟩=some (.int .i64 r.sym):=BQ.out.cell 3
      have z0:w'.cell? ⟨W.heap.size,0,none⟩=some (.int .i64 0):=BR.out.cell 0
      have z1:w'.cell? ⟨W.heap.size,1,none⟩=some (.int .i64 0):=BR.out.cell 1
      have z2:w'.cell? ⟨W.heap.size,2,none⟩=some (.string ⟨#[]⟩):=BR.out.cell 2
      have f0:=BR.out.free 0
      have f1:=BR.out.free 1
      have f2:=BR.out.free 2
      go_wp2_with fail
      refine cSy.out.mono ?_
      rintro e w2 ⟨rfl,hw⟩
      rw [hw]
      clear hw w2 cSy c3
      go_wp2
      have F:=((BR.out.set 0 (.int .i64 37)).set 1 (.int .i64 k)).set 2 (.string (bs nm))
      have h0:=F.cell 0
      have h1:=F.cell 1
      have h2:=F.cell 2
      simp only [List.setIfInBounds_toArray,List.set_cons_succ,List.set_cons_zero,List.getElem?_toArray,List.getElem?_cons_succ,List.getElem?_cons_zero] at h0 h1 h2
      refine bodyPost_ret (v:=lfA ⟨37,k,nm⟩) ?_ rfl ⟨by rw [E.out],sets3_grown (grown_trans G0.out (grown_trans HG.out GQ.out)) _ (Nat.le_refl _) _ _ _⟩
      clear F z0 z1 z2 f0 f1 f2
      generalize World.setCell _ _ _=WF at *
      simp [results,Tryz.results70,go_sem,lfA,h0,h1,h2]
     ·have E:=hid (show Ln.reachIn ms m k m.obj.rels=Ln.reachIn ms m k (m.obj.rels.drop (j+1)) from FI.out)
      go_wp2
      go_roundw
      case rel=>exact ⟨j+1,by omega,by go_num,E.out,GQ.out⟩
      case measure=>simp [intOf]; omega
    ·obtain rfl:j=m.obj.rels.length:=by omega
     have E:=hid (show Ln.reachIn ms m k m.obj.rels=none by rw [HF2.out,List.drop_length]; rfl)
     have g3:decide ((m.obj.rels.length:Int) < (m.obj.rels.length:Int))=false:=by simp
     go_wp2
     go_roundw
     case rel=>exact ⟨k+1,by omega,by go_num,by rw [HF.out,FD.out,E.out],grown_trans HG.out HG2.out⟩
     case measure=>simp [intOf]; omega
  ·obtain rfl:k=bl.length:=by omega
   have E:=hid (show Ln.checkReach ms=Ln.ok by rw [HF.out,← LO.out,List.drop_length]; rfl)
   have g3:decide ((bl.length:Int) < (bl.length:Int))=false:=by simp
   have BR:=hid (B0.out.grown HG.out (by simp))
   have z0:wr.cell? ⟨W.heap.size,0,none⟩=some (.int .i64 0):=BR.out.cell 0
   have z1:wr.cell? ⟨W.heap.size,1,none⟩=some (.int .i64 0):=BR.out.cell 1
   have z2:wr.cell? ⟨W.heap.size,2,none⟩=some (.string ⟨#[]⟩):=BR.out.cell 2
   have f0:=BR.out.free 0
   have f1:=BR.out.free 1
   have f2:=BR.out.free 2
   go_wp2
   have F:=((BR.out.set 0 (.int .i64 0)).set 1 (.int .i64 0)).set 2 (.string ⟨#[]⟩)
   have h0:=F.cell 0
   have h1:=F.cell 1
   have h2:=F.cell 2
   simp only [List.setIfInBounds_toArray,List.set_cons_succ,List.set_cons_zero,List.getElem?_toArray,List.getElem?_cons_succ,List.getElem?_cons_zero] at h0 h1 h2
   refine bodyPost_ret (v:=lfA Ln.ok) ?_ rfl ⟨by rw [E.out],sets3_grown (grown_trans G0.out HG.out) _ (Nat.le_refl _) _ _ _⟩
   clear F z0 z1 z2 f0 f1 f2
   generalize World.setCell _ _ _=WF at *
   simp [results,Tryz.results70,go_sem,lfA,Ln.ok,bs,h0,h1,h2]

end Go.Proofs.YtnfgdlkiialnnaaGreatDoor

namespace Go.Proofs.YtnfgdlkiialnnaaGreatDoor
open Go.RowKit

namespace Im
def endT (m:Img):Int:=m.text+4 * (m.T.length:Int)
def endF (m:Img):Int:=m.far+4 * (m.F.length:Int)
def endD (m:Img):Int:=m.data+4 * ((m.D.length:Int)+m.noughts)
def Fits (m:Img):Prop:=(endT m≤1073741824∧endF m≤1073741824∧endD m≤1073741824)∧(¬ Meet m.text (endT m) m.far (endF m)∧¬ Meet m.text (endT m) m.data (endD m)∧¬ Meet m.far (endF m) m.data (endD m))
end Im

def regC (a b:Int):Array Value:=#[.int .i64 a,.int .i64 b]
theorem two_regions (w:World) (a b:Int):BlkAt ((w.alloc (.cells (regC a b) 163)).alloc (.cells (regC a b) 163)).drew w.heap.size (regC a b) 163 ∧
  BlkAt ((w.alloc (.cells (regC a b) 163)).alloc (.cells (regC a b) 163)).drew (w.heap.size+1) (regC a b) 163∧w.grownBy ((w.alloc (.cells (regC a b) 163)).alloc (.cells (regC a b) 163)).drew none:=by
 have b1:=BlkAt.new w (regC a b) 163
 have b2:=BlkAt.new (w.alloc (.cells (regC a b) 163)) (regC a b) 163
 rw [show (w.alloc (.cells (regC a b) 163)).heap.size=w.heap.size+1 from Array.size_push _] at b2
 exact ⟨(b1.grown (World.grownBy_alloc _ _ none) (by simp)).drewN 1,b2.drewN 1,grown_drew (grown_trans (World.grownBy_alloc _ _ none) (World.grownBy_alloc _ _ none))⟩

set_option maxHeartbeats 8000000 in
theorem regionsFit_any (g:Nat) (m:Im.Img) (w:World) (h:ImgAt w g m) (ht:Im.Tame m) :
  Calls Tryz.prog 69 #[.pointer (some ⟨g,0,none⟩)] w fun e w'=>Tells e (Im.Fits m)∧w.grownBy w' none:=by
 obtain ⟨at_,ct,af,cf,ad,cd,hb,q1,q2,q3⟩:=h.open
 have HB:=hid hb
 have hl:=ht.lens
 have hn:=ht.noughts
 have r1:=ht.text
 have r2:=ht.far
 have r3:=ht.data
 have cT:=hid (fun W=>regionOf_any m.text m.T.length W ht.text.1 ht.text.2 (by omega) (by omega))
 have cF:=hid (fun W=>regionOf_any m.far m.F.length W ht.far.1 ht.far.2 (by omega) (by omega))
 have cD:=hid (fun W=>regionOf_any m.data (m.D.length+m.noughts) W ht.data.1 ht.data.2 (by omega) (by omega))
 have F0:=hid (show Im.Fits m↔(Im.endT m≤1073741824∧Im.endF m≤1073741824∧Im.endD m≤1073741824)∧(¬ Im.Meet m.text (Im.endT m) m.far (Im.endF m)∧¬ Im.Meet m.text (Im.endT m) m.data (Im.endD m)∧¬ Im.Meet m.far (Im.endF m) m.data (Im.endD m)) from Iff.rfl)
 generalize Im.Fits m=Q at *
 have ww:IntKind.i64.wrap ((m.D.length:Int)+m.noughts)=(m.D.length:Int)+m.noughts:=IntWalk.i64_in _ ⟨by omega,by omega⟩
 clear h ht hb q1 q2 q3
 have k1:=HB.out.cell 1
 have k4:=HB.out.cell 4
 simp only [List.getElem?_toArray,List.getElem?_cons_succ,List.getElem?_cons_zero] at k1 k4
 have hlt:=HB.out.lt
 have hne:g≠w.heap.size:=by omega
 go_enter Tryz.func69,Tryz.ntmps69
 go_upto_region 1 with fail
 go_cut [3] from 6 to 16 (fun v wx=>∃ r,v = .pointer (some ⟨r,0,none⟩)∧BlkAt wx r (regC m.text (Im.endT m)) 163∧w.grownBy wx none)
 case first =>
  go_region_with (go_at_call 101; refine (cT.out _).mono ?_; rintro e w' ⟨rfl,rfl⟩)
  all_goals (go_wp2_with fail; go_meet; first | exact ⟨w.heap.size,rfl,(two_regions w m.text (Im.endT m)).1,(two_regions w m.text (Im.endT m)).2.2⟩ | exact ⟨w.heap.size+1,rfl,(two_regions w m.text (Im.endT m)).2.1,(two_regions w m.text (Im.endT m)).2.2⟩)
 case rest =>
 obtain ⟨ra,rfl,b1,g1⟩:=hcut
 clear k1 k4 hlt hne cT
 generalize wc=W1 at *
 have HB1:=hid (HB.out.grown g1 (by simp))
 have P1:=hid b1
 have G1:=hid g1
 clear b1 g1 HB
 have k2:=HB1.out.cell 2
 have k5:=HB1.out.cell 5
 simp only [List.getElem?_toArray,List.getElem?_cons_succ,List.getElem?_cons_zero] at k2 k5
 have hlt:=HB1.out.lt
 have hne:g≠W1.heap.size:=by omega
 go_upto_region 2 with fail
 go_cut [4] from 17 to 27 (fun v wx=>∃ r,v = .pointer (some ⟨r,0,none⟩)∧BlkAt wx r (regC m.far (Im.endF m)) 163∧W1.grownBy wx none)
 case first =>
  go_region_with (go_at_call 101; refine (cF.out _).mono ?_; rintro e w' ⟨rfl,rfl⟩)
  all_goals (go_wp2_with fail; go_meet; first | exact ⟨W1.heap.size,rfl,(two_regions W1 m.far (Im.endF m)).1,(two_regions W1 m.far (Im.endF m)).2.2⟩ | exact ⟨W1.heap.size+1,rfl,(two_regions W1 m.far (Im.endF m)).2.1,(two_regions W1 m.far (Im.endF m)).2.2⟩)
 case rest =>
 obtain ⟨rb,rfl,b1,g1⟩:=hcut
 clear k2 k5 hlt hne cF
 generalize wc=W2 at *
 have HB2:=hid (HB1.out.grown g1 (by simp))
 have P1':=hid (P1.out.grown g1 (by simp))
 have P2:=hid b1
 have G2:=hid (grown_trans G1.out g1)
 clear b1 g1 HB1 P1 G1
 have k3:=HB2.out.cell 3
 have k6:=HB2.out.cell 6
 have k7:=HB2.out.cell 7
 simp only [List.getElem?_toArray,List.getElem?_cons_succ,List.getElem?_cons_zero] at k3 k6 k7
 have hlt:=HB2.out.lt
 have hne:g≠W2.heap.size:=by omega
 go_upto_region 3 with fail
 go_cut [5] from 28 to 43 (fun v wx=>∃ r,v = .pointer (some ⟨r,0,none⟩)∧BlkAt wx r (regC m.data (Im.endD m)) 163∧W2.grownBy wx none)
 case first =>
  go_region_with (go_at_call 101; refine (cD.out _).mono ?_; rintro e w' ⟨rfl,rfl⟩)
  all_goals (go_wp2_with fail; go_meet; first | exact ⟨W2.heap.size,rfl,(two_regions W2 m.data (Im.endD m)).1,(two_regions W2 m.data (Im.endD m)).2.2⟩ | exact ⟨W2.heap.size+1,rfl,(two_regions W2 m.data (Im.endD m)).2.1,(two_regions W2 m.data (Im.endD m)).2.2⟩)
 case rest =>
 obtain ⟨rc,rfl,b1,g1⟩:=hcut
 clear k3 k6 k7 hlt hne cD
 generalize wc=W3 at *
 have B1:=hid (P1'.out.grown g1 (by simp))
 have B2:=hid (P2.out.grown g1 (by simp))
 have B3:=hid b1
 have G:=hid (grown_trans G2.out g1)
 clear b1 g1 HB2 P1' P2 G2
 generalize Im.endT m=eT at *
 generalize Im.endF m=eF at *
 generalize Im.endD m=eD at *
 have a0:=B1.out.cell 0
 have a1:=B1.out.cell 1
 have c0:=B2.out.cell 0
 have c1:=B2.out.cell 1
 have d0:=B3.out.cell 0
 have d1:=B3.out.cell 1
 simp only [regC,List.getElem?_toArray,List.getElem?_cons_succ,List.getElem?_cons_zero] at a0 a1 c0 c1 d0 d1
 by_cases z1:1073741824 < eT
 ·have e1:decide (1073741824 < eT)=true:=by simpa using z1
  have N:=hid (show ¬ Q from fun q=>by have:=(F0.out.1 q).1.1; omega)
  clear z1
  go_wp2
  go_ret
  exact ⟨Tells.no N.out,G.out⟩
 ·have e1:decide (1073741824 < eT)=false:=by simpa using z1
  by_cases z2:1073741824 < eF
  ·have e2:decide (1073741824 < eF)=true:=by simpa using z2
   have N:=hid (show ¬ Q from fun q=>by have:=(F0.out.1 q).1.2.1; omega)
   clear z1 z2
   go_wp2
   go_ret
   exact ⟨Tells.no N.out,G.out⟩
  ·have e2:decide (1073741824 < eF)=false:=by simpa using z2
   by_cases z3:1073741824 < eD
   ·have e3:decide (1073741824 < eD)=true:=by simpa using z3
    have N:=hid (show ¬ Q from fun q=>by have:=(F0.out.1 q).1.2.2; omega)
    clear z1 z2 z3
    go_wp2
    go_ret
    exact ⟨Tells.no N.out,G.out⟩
   ·have e3:decide (1073741824 < eD)=false:=by simpa using z3
    have LE:=hid (show eT≤1073741824∧eF≤1073741824∧eD≤1073741824 by omega)
    clear z1 z2 z3
    go_wp2_with fail
    refine (meet_any m.text eT m.far eF W3).mono ?_
    rintro e V1 ⟨t1,h1⟩
    have G1:=hid (grown_trans G.out h1)
    replace a0:=gcell a0 h1
    replace a1:=gcell a1 h1
    replace c0:=gcell c0 h1
    replace c1:=gcell c1 h1
    replace d0:=gcell d0 h1
    replace d1:=gcell d1 h1
    rcases t1.split with ⟨rfl,p1⟩ | ⟨rfl,p1⟩ <;> clear t1 h1
    ·go_wp2_with fail
     refine (meet_any m.text eT m.data eD V1).mono ?_
     rintro e V2 ⟨t2,h2⟩
     have G2:=hid (grown_trans G1.out h2)
     replace a0:=gcell a0 h2
     replace a1:=gcell a1 h2
     replace c0:=gcell c0 h2
     replace c1:=gcell c1 h2
     replace d0:=gcell d0 h2
     replace d1:=gcell d1 h2
     rcases t2.split with ⟨rfl,p2⟩ | ⟨rfl,p2⟩ <;> clear t2 h2
     ·go_wp2_with fail
      refine (meet_any m.far eF m.data eD V2).mono ?_
      rintro e V3 ⟨t3,h3⟩
      have G3:=hid (grown_trans G2.out h3)
      rcases t3.split with ⟨rfl,p3⟩ | ⟨rfl,p3⟩ <;> clear t3 h3
      ·go_wp2
       go_ret
       exact ⟨Tells.yes (F0.out.2 ⟨LE.out,p1.out,p2.out,p3.out⟩),G3.out⟩
      ·go_wp2
       go_ret
       exact ⟨Tells.no fun q=>(F0.out.1 q).2.2.2 p3.out,G3.out⟩
     ·go_wp2
      go_ret
      exact ⟨Tells.no fun q=>(F0.out.1 q).2.2.1 p2.out,G2.out⟩
    ·go_wp2
     go_ret
     exact ⟨Tells.no fun q=>(F0.out.1 q).2.1 p1.out,G1.out⟩

end Go.Proofs.YtnfgdlkiialnnaaGreatDoor

namespace Go.Proofs.YtnfgdlkiialnnaaGreatDoor
open Go.RowKit

/-! what takes part -/
theorem pass_fst:∀ (ms:List (Lk.Obj×Bool)) (os:List Lk.Obj),(Ln.pass ms os).1.map Prod.fst=ms.map Prod.fst:=by
 intro ms
 induction ms with
 | nil=>intro os; rfl
 | cons m ms ih =>
  intro os
  obtain ⟨o,t⟩:=m
  unfold Ln.pass
  split
  ·rw [List.map_cons,ih,List.map_cons]
  ·rw [List.map_cons,ih,List.map_cons]
theorem pass_all (P:Lk.Obj→Prop):∀ (ms:List (Lk.Obj×Bool)) (os:List Lk.Obj),(∀ m∈ms,P m.1)→(∀ o∈os,P o)→∀ o∈(Ln.pass ms os).2.1,P o:=by
 intro ms
 induction ms with
 | nil=>intro os _ h; exact h
 | cons m ms ih =>
  intro os hm ho
  obtain ⟨o,t⟩:=m
  unfold Ln.pass
  have h0:=hm (o,t) (by simp)
  split
  ·exact ih _ (fun x hx=>hm x (by simp [hx])) (fun x hx=>by
    rcases List.mem_append.1 hx with q | q
    ·exact ho x q
    ·simp at q; subst q; exact h0)
  ·exact ih _ (fun x hx=>hm x (by simp [hx])) ho
theorem pass_len:∀ (ms:List (Lk.Obj×Bool)) (os:List Lk.Obj),(Ln.pass ms os).2.1.length+untaken (Ln.pass ms os).1=os.length+untaken ms:=by
 intro ms
 induction ms with
 | nil=>intro os; rfl
 | cons m ms ih =>
  intro os
  obtain ⟨o,t⟩:=m
  unfold Ln.pass
  split
  ·rename_i h
   have:=ih (os ++ [o])
   rw [List.length_append,List.length_singleton] at this
   unfold untaken at this ⊢
   rw [List.filter_cons_of_neg (by simp),List.filter_cons_of_pos (by simp [h.1]),List.length_cons]
   dsimp only
   omega
  ·have:=ih os
   unfold untaken at this ⊢
   cases t
   ·rw [List.filter_cons_of_pos (by simp),List.filter_cons_of_pos (by simp),List.length_cons,List.length_cons]
    dsimp only
    omega
   ·rw [List.filter_cons_of_neg (by simp),List.filter_cons_of_neg (by simp)]
    exact this
theorem takeArch_all (P:Lk.Obj→Prop):∀ (k:Nat) (ms:List (Lk.Obj×Bool)) (os:List Lk.Obj),(∀ m∈ms,P m.1)→(∀ o∈os,P o)→∀ o∈Ln.takeArch k ms os,P o:=by
 intro k
 induction k with
 | zero=>intro ms os _ h; exact h
 | succ k ih =>
  intro ms os hm ho
  have q:=pass_all P ms os hm ho
  unfold Ln.takeArch
  split
  ·refine ih _ _ (fun m hx=>?_) q
   have:m.1∈ms.map Prod.fst:=by rw [← pass_fst ms os]; exact List.mem_map_of_mem hx
   obtain ⟨y,hy,e⟩:=List.mem_map.1 this
   rw [← e]
   exact hm y hy
  ·exact q
theorem takeArch_len:∀ (k:Nat) (ms:List (Lk.Obj×Bool)) (os:List Lk.Obj),(Ln.takeArch k ms os).length≤os.length+untaken ms:=by
 intro k
 induction k with
 | zero=>intro ms os; unfold Ln.takeArch; omega
 | succ k ih =>
  intro ms os
  have q:=pass_len ms os
  unfold Ln.takeArch
  split
  ·have:=ih (Ln.pass ms os).1 (Ln.pass ms os).2.1
   omega
  ·omega
theorem takeFile_all (P:Lk.Obj→Prop) (os:List Lk.Obj) (x:Bool×List Lk.Obj) (hx:∀ o∈x.2,P o) (ho:∀ o∈os,P o):∀ o∈Ln.takeFile os x,P o:=by
 unfold Ln.takeFile
 split
 ·refine takeArch_all P _ _ _ (fun m hm=>?_) ho
  unfold fresh at hm
  obtain ⟨y,hy,rfl⟩:=List.mem_map.1 hm
  exact hx y hy
 ·intro o h
  rcases List.mem_append.1 h with q | q
  ·exact ho o q
  ·exact hx o q
theorem takeFile_len (os:List Lk.Obj) (x:Bool×List Lk.Obj):(Ln.takeFile os x).length≤os.length+x.2.length:=by
 unfold Ln.takeFile
 split
 ·have:=takeArch_len (x.2.length+1) (fresh x.2) os
  rw [untaken_fresh] at this
  exact this
 ·rw [List.length_append]; omega
theorem takeAll_all (P:Lk.Obj→Prop):∀ (xs:List (Bool×List Lk.Obj)) (os:List Lk.Obj),(∀ x∈xs,∀ o∈x.2,P o)→(∀ o∈os,P o)→∀ o∈xs.foldl Ln.takeFile os,P o:=by
 intro xs
 induction xs with
 | nil=>intro os _ h; exact h
 | cons x xs ih =>
  intro os hx ho
  exact ih _ (fun y hy=>hx y (by simp [hy])) (takeFile_all P os x (hx x (by simp)) ho)
theorem takeAll_len:∀ (xs:List (Bool×List Lk.Obj)) (os:List Lk.Obj),(∀ x∈xs,x.2.length≤6)→(xs.foldl Ln.takeFile os).length≤os.length+6 * xs.length:=by
 intro xs
 induction xs with
 | nil=>intro os _; simp
 | cons x xs ih =>
  intro os hx
  have a:=takeFile_len os x
  have b:=hx x (by simp)
  have c:=ih (Ln.takeFile os x) (fun y hy=>hx y (by simp [hy]))
  rw [List.foldl_cons,List.length_cons]
  omega
theorem fileIs_valid {l:List UInt8} {a:Bool} {os:List Lk.Obj} (h:FileIs l a os):(∀ o∈os,Valid o)∧os.length≤6:=by
 rcases h with ⟨-,h1,rfl⟩ | ⟨-,-,ms,h1,rfl⟩
 ·exact ⟨fun o ho=>by simp at ho; subst ho; exact h1.1,by simp⟩
 ·refine ⟨fun o ho=>?_,by rw [List.length_map]; exact h1.1.2⟩
  obtain ⟨m,hm,rfl⟩:=List.mem_map.1 ho
  exact (h1.2.1 m hm).1

/-! the image -/
instance im_meet_dec (a b c d:Int):Decidable (Im.Meet a b c d):=by unfold Im.Meet; infer_instance
instance im_fits_dec (m:Im.Img):Decidable (Im.Fits m):=by unfold Im.Fits; infer_instance
namespace Ln
def placesFlt (img:Im.Img) (ms:List Mod):Flt:=if ¬ Im.Fits img then ⟨36,0,[]⟩ else if (checkReach ms).e≠0 then checkReach ms else if (Im.code img img.start).isSome then ok else ⟨35,0,[]⟩
def linkMods (os:List Lk.Obj) (bt bf bd:Int):List Mod:=layout bt bf bd (resAll os (os.map bare))
def linkImg (os:List Lk.Obj) (bt bf bd:Int):Im.Img:=image (linkMods os bt bf bd) (named os startN) bt bf bd (noughts bd (shorten (lay bt bf bd (resAll os (os.map bare)))))
end Ln
theorem image_words {ms:List Ln.Mod} (st:Ln.Spot) (bt bf bd no:Int) (hv:∀ m∈ms,Valid m.obj):W32 (Ln.image ms st bt bf bd no).T∧W32 (Ln.image ms st bt bf bd no).F∧W32 (Ln.image ms st bt bf bd no).D :=
 ⟨region_in ms 1 bt 19 (by omega) ms [] hv (fun x hx=>by simp at hx),region_in ms 2 bf 19 (by omega) ms [] hv (fun x hx=>by simp at hx),region_in ms 3 bd 0 (by omega) ms [] hv (fun x hx=>by simp at hx)⟩
theorem layout_lens {ms:List Ln.Mod} {bt bf bd:Int} (hv:∀ m∈ms,Valid m.obj) (hl:ms.length≤48) (ht:0≤bt∧bt≤1073741824∧bt % 4=0) (hf:0≤bf∧bf≤1073741824∧bf % 4=0) (hd:0≤bd∧bd≤1073741824∧bd % 4=0) :
  (Ln.region (Ln.lay bt bf bd ms) 1 bt 19 (Ln.lay bt bf bd ms) []).length≤65535∧(Ln.region (Ln.lay bt bf bd ms) 2 bf 19 (Ln.lay bt bf bd ms) []).length≤65535∧(Ln.region (Ln.lay bt bf bd ms) 3 bd 0 (Ln.lay bt bf bd ms) []).length≤65535:=by
 have hv2:=valid_same (lay_obj ms bt bf bd) hv
 have ll:=lay_len ms bt bf bd
 have ch:=layMods_chain ms bt bf bd
 have c1:Chain 1 Ln.Mod.text (Ln.lay bt bf bd ms) bt (codeEnd 1 ms bt):=layBss_chain 1 Ln.Mod.text (fun _ _=>rfl) _ _ _ _ ch.1
 have c2:Chain 2 Ln.Mod.far (Ln.lay bt bf bd ms) bf (codeEnd 2 ms bf):=layBss_chain 2 Ln.Mod.far (fun _ _=>rfl) _ _ _ _ ch.2
 have c3:ChainD (Ln.lay bt bf bd ms) bd (Ln.dataEnd ms bd):=layBss_chainD _ _ _ _ (layMods_chainD ms bt bf bd)
 have e1:=region_len (Ln.lay bt bf bd ms) 1 (.inl rfl) Ln.Mod.text bt 19 ht.2.2 address_text (Ln.lay bt bf bd ms) [] bt _ hv2 ht.1 (by rw [ll]; omega) (by simp) c1
 have e2:=region_len (Ln.lay bt bf bd ms) 2 (.inr rfl) Ln.Mod.far bf 19 hf.2.2 address_far (Ln.lay bt bf bd ms) [] bf _ hv2 hf.1 (by rw [ll]; omega) (by simp) c2
 have e3:=region_lenD (Ln.lay bt bf bd ms) bd 0 hd.2.2 (Ln.lay bt bf bd ms) [] bd _ hv2 hd.1 (by rw [ll]; omega) (by simp) c3
 have r1:=codeEnd_range 1 (.inl rfl) ms bt hv ht.1 (by omega)
 have r2:=codeEnd_range 2 (.inr rfl) ms bf hv hf.1 (by omega)
 have r3:=dataEnd_fine ms bd hv hd.1 (by omega)
 simp only [Int.cast_ofNat_Int] at e1 e2
 omega

theorem fits_base {a:Int} (h:Im.Base a):0≤a∧a≤1073741824∧a % 4=0:=by
 obtain ⟨⟨h1,h2⟩,h3⟩:=h
 omega
/-- what linking goes through, given objects that are valid -/
structure LinkOk (os:List Lk.Obj) (bt bf bd:Int):Prop where
 valid:∀ m∈Ln.linkMods os bt bf bd,Valid m.obj
 nice:∀ m∈Ln.linkMods os bt bf bd,MNice os.length m
 low:∀ m∈Ln.linkMods os bt bf bd,MLow m
 mean:∀ m∈Ln.linkMods os bt bf bd,∀ s∈m.means,SLow s
 start:SNice os.length (Ln.named os Ln.startN)
 tame:Im.Tame (Ln.linkImg os bt bf bd)
theorem link_ok {os:List Lk.Obj} {bt bf bd:Int} (hv:∀ o∈os,Valid o) (hl:os.length≤48) (ht:Im.Base bt) (hf:Im.Base bf) (hd:Im.Base bd):LinkOk os bt bf bd:=by
 have A:=resAll_at os hv
 have t:=fits_base ht
 have f:=fits_base hf
 have d:=fits_base hd
 have len:(Ln.resAll os (os.map Ln.bare)).length=os.length:=by simp [Ln.resAll]
 have rv:∀ m∈Ln.resAll os (os.map Ln.bare),Valid m.obj:=fun m hm=>(A m hm).obj
 have V:∀ m∈Ln.linkMods os bt bf bd,Valid m.obj:=valid_same (layout_obj _ bt bf bd) rv
 have low:∀ m∈Ln.linkMods os bt bf bd,MLow m:=layout_low rv (by omega) (by omega) (by omega) (by omega)
 have sl:=named_low os Ln.startN hv
 have sv:=valid_same (shorten_obj _) (valid_same (lay_obj _ bt bf bd) rv)
 have slen:(Ln.shorten (Ln.lay bt bf bd (Ln.resAll os (os.map Ln.bare)))).length=os.length:=by unfold Ln.shorten; rw [List.length_map,lay_len,len]
 have L:=layout_lens (ms:=Ln.shorten (Ln.lay bt bf bd (Ln.resAll os (os.map Ln.bare)))) (bt:=bt) (bf:=bf) (bd:=bd) sv (by omega) t f d
 refine ⟨V,layout_nice (fun m hm=>(A m hm).nice) rv (by omega) (by omega) (by omega) (by omega),low,mem_same Ln.Mod.means (P:=fun l=>∀ s∈l,SLow s) (layout_means _ bt bf bd) (fun m hm=>(A m hm).low),⟨?_,fun i hi=>named_lt os _ i hi⟩,?_⟩
 ·unfold SLow at sl; omega
 ·have s:=spotAddr_low low (Ln.named os Ln.startN) sl
  have r3:=dataEnd_fine _ bd sv d.1 (by omega)
  have r4:=bssEnd_range _ (Ln.dataEnd (Ln.shorten (Ln.lay bt bf bd (Ln.resAll os (os.map Ln.bare)))) bd) sv (by omega) (by omega)
  refine ⟨?_,?_,?_,?_,L,?_⟩
  ·show 0≤Ln.spotAddr _ _∧Ln.spotAddr _ _ < _
   exact ⟨s.1,by have:=s.2; omega⟩
  ·show 0≤bt∧bt < 4294967296; omega
  ·show 0≤bf∧bf < 4294967296; omega
  ·show 0≤bd∧bd < 4294967296; omega
  ·show 0≤Ln.noughts bd _∧Ln.noughts bd _≤65535
   unfold Ln.noughts
   omega

set_option maxRecDepth 100000 in
set_option maxHeartbeats 8000000 in
theorem checkPlaces_any (W0:World) (P:Nat) (bt bf bd:Int) (vm:Value) (bl gl:List Nat) (ms:List Ln.Mod) (st:Ln.Spot) (no:Int) (I:Nat) (img:Im.Img) (W:World) (h:ProgAt W0 P bt bf bd vm bl gl ms st no W) (hn:∀ m∈ms,MNice bl.length m) (hi:ImgAt W I img) (ht:Im.Tame img) :
  Calls Tryz.prog 45 #[ptrV P,ptrV I] W fun e W'=>e = .returned (lfA (Ln.placesFlt img ms))∧W.grownBy W' none:=by
 have HP:=hid h
 have HI:=hid hi
 have HN:=hid hn
 have HT:=hid ht
 have R:=hid (show Ln.placesFlt img ms=if ¬ Im.Fits img then ⟨36,0,[]⟩ else if (Ln.checkReach ms).e≠0 then Ln.checkReach ms else if (Im.code img img.start).isSome then Ln.ok else ⟨35,0,[]⟩ from rfl)
 have G0:=hid (World.grownBy_alloc W (.cells #[.int .i64 0,.int .i64 0,.string ⟨#[]⟩] 45) none)
 have B0:=hid (BlkAt.new W #[.int .i64 0,.int .i64 0,.string ⟨#[]⟩] 45)
 have cF:=hid (fun V (hg:W.grownBy V none)=>regionsFit_any I img V (HI.out.kept hg) ht)
 have cR:=hid (fun V (hg:W.grownBy V none)=>checkReach_any W0 P bt bf bd vm bl gl ms st no V (HP.out.kept hg) hn)
 have cC:=hid (fun V (hg:W.grownBy V none)=>code_any I img img.start V (HI.out.kept hg) ht ht.start.1 ht.start.2)
 clear h hn hi ht
 unfold ptrV at *
 go_enter Tryz.func45,Tryz.ntmps45
 go_wp2_with fail
 refine (cF.out _ G0.out).mono ?_
 rintro e V1 ⟨tv,h1⟩
 have G1:=hid (grown_trans G0.out h1)
 have BR:=hid (B0.out.grown h1 (by simp))
 clear h1 cF
 rcases tv.split with ⟨rfl,hp⟩ | ⟨rfl,hp⟩
 ·have E:=hid (show Ln.placesFlt img ms=⟨36,0,[]⟩ by rw [R.out,if_pos hp.out])
  clear tv hp
  have z0:V1.cell? ⟨W.heap.size,0,none⟩=some (.int .i64 0):=BR.out.cell 0
  have z1:V1.cell? ⟨W.heap.size,1,none⟩=some (.int .i64 0):=BR.out.cell 1
  have z2:V1.cell? ⟨W.heap.size,2,none⟩=some (.string ⟨#[]⟩):=BR.out.cell 2
  have f0:=BR.out.free 0
  have f1:=BR.out.free 1
  have f2:=BR.out.free 2
  go_wp2
  have F:=((BR.out.set 0 (.int .i64 36)).set 1 (.int .i64 0)).set 2 (.string ⟨#[]⟩)
  have h0:=F.cell 0
  have h1:=F.cell 1
  have h2:=F.cell 2
  simp only [List.setIfInBounds_toArray,List.set_cons_succ,List.set_cons_zero,List.getElem?_toArray,List.getElem?_cons_succ,List.getElem?_cons_zero] at h0 h1 h2
  refine bodyPost_ret (v:=lfA ⟨36,0,[]⟩) ?_ rfl ⟨by rw [E.out],sets3_grown G1.out _ (Nat.le_refl _) _ _ _⟩
  clear F z0 z1 z2 f0 f1 f2
  generalize World.setCell _ _ _=WF at *
  simp [results,Tryz.results45,go_sem,lfA,bs,h0,h1,h2]
 ·have R2:=hid (show Ln.placesFlt img ms=if (Ln.checkReach ms).e≠0 then Ln.checkReach ms else if (Im.code img img.start).isSome then Ln.ok else ⟨35,0,[]⟩ by rw [R.out,if_neg (not_not_intro hp.out)])
  clear tv hp R
  generalize Ln.checkReach ms=f at *
  obtain ⟨fe,fa,fn⟩:=f
  unfold lfA at cR
  dsimp only at *
  go_wp2_with fail
  refine (cR.out _ G1.out).mono ?_
  rintro e V2 ⟨rfl,h2⟩
  have A2:=World.grownBy_alloc V2 (.cells #[.int .i64 fe,.int .i64 fa,.string (bs fn)] 45) none
  have G2:=hid (grown_trans (grown_trans G1.out h2) A2)
  have BX:=hid (BlkAt.new V2 #[.int .i64 fe,.int .i64 fa,.string (bs fn)] 45)
  have BR2:=hid (BR.out.grown (grown_trans h2 A2) (by simp))
  have hlt:=hid (Nat.lt_of_lt_of_le BR.out.lt h2.size)
  clear h2 A2 cR BR
  have hne:W.heap.size≠V2.heap.size:=by have:=hlt.out; omega
  have BR:=BR2
  clear BR2
  by_cases he:fe=0
  ·subst he
   have R3:=hid (show Ln.placesFlt img ms=if (Im.code img img.start).isSome then Ln.ok else ⟨35,0,[]⟩ by rw [R2.out,if_neg (by simp)])
   have i0:(V2.alloc (.cells #[.int .i64 0,.int .i64 fa,.string (bs fn)] 45)).cell? ⟨I,0,none⟩=some (.int .i64 img.start):=by
    obtain ⟨vt,vf,vd,hb,-⟩:=HI.out
    exact gcell (hb.cell 0) G2.out
   go_wp2_with fail
   refine (cC.out _ G2.out).mono ?_
   rintro e V3 ⟨rfl,n,hw⟩
   subst hw
   have G3:=hid (grown_drewN G2.out n)
   have BR:=hid (BR.out.drewN n)
   clear i0 cC G2
   generalize (V2.alloc (.cells #[.int .i64 0,.int .i64 fa,.string (bs fn)] 45)).drewN n=V3 at *
   cases hc:(Im.code img img.start).isSome
   ·have E:=hid (show Ln.placesFlt img ms=⟨35,0,[]⟩ by rw [R3.out,hc]; rfl)
    clear hc
    have z0:V3.cell? ⟨W.heap.size,0,none⟩=some (.int .i64 0):=BR.out.cell 0
    have z1:V3.cell? ⟨W.heap.size,1,none⟩=some (.int .i64 0):=BR.out.cell 1
    have z2:V3.cell? ⟨W.heap.size,2,none⟩=some (.string ⟨#[]⟩):=BR.out.cell 2
    have f0:=BR.out.free 0
    have f1:=BR.out.free 1
    have f2:=BR.out.free 2
    go_wp2
    have F:=((BR.out.set 0 (.int .i64 35)).set 1 (.int .i64 0)).set 2 (.string ⟨#[]⟩)
    have h0:=F.cell 0
    have h1:=F.cell 1
    have h2:=F.cell 2
    simp only [List.setIfInBounds_toArray,List.set_cons_succ,List.set_cons_zero,List.getElem?_toArray,List.getElem?_cons_succ,List.getElem?_cons_zero] at h0 h1 h2
    refine bodyPost_ret (v:=lfA ⟨35,0,[]⟩) ?_ rfl ⟨by rw [E.out],sets3_grown G3.out _ (Nat.le_refl _) _ _ _⟩
    clear F z0 z1 z2 f0 f1 f2
    generalize World.setCell _ _ _=WF at *
    simp [results,Tryz.results45,go_sem,lfA,bs,h0,h1,h2]
   ·have E:=hid (show Ln.placesFlt img ms=Ln.ok by rw [R3.out,hc]; rfl)
    clear hc
    have z0:V3.cell? ⟨W.heap.size,0,none⟩=some (.int .i64 0):=BR.out.cell 0
    have z1:V3.cell? ⟨W.heap.size,1,none⟩=some (.int .i64 0):=BR.out.cell 1
    have z2:V3.cell? ⟨W.heap.size,2,none⟩=some (.string ⟨#[]⟩):=BR.out.cell 2
    have f0:=BR.out.free 0
    have f1:=BR.out.free 1
    have f2:=BR.out.free 2
    go_wp2
    have F:=((BR.out.set 0 (.int .i64 0)).set 1 (.int .i64 0)).set 2 (.string ⟨#[]⟩)
    have h0:=F.cell 0
    have h1:=F.cell 1
    have h2:=F.cell 2
    simp only [List.setIfInBounds_toArray,List.set_cons_succ,List.set_cons_zero,List.getElem?_toArray,List.getElem?_cons_succ,List.getElem?_cons_zero] at h0 h1 h2
    refine bodyPost_ret (v:=lfA Ln.ok) ?_ rfl ⟨by rw [E.out],sets3_grown G3.out _ (Nat.le_refl _) _ _ _⟩
    clear F z0 z1 z2 f0 f1 f2
    generalize World.setCell _ _ _=WF at *
    simp [results,Tryz.results45,go_sem,lfA,Ln.ok,bs,h0,h1,h2]
  ·have d1:(fe == 0)=false:=by simpa using he
   have d2:(fe != 0)=true:=by simpa using he
   have E:=hid (show Ln.placesFlt img ms=⟨fe,fa,fn⟩ by rw [R2.out,if_pos he])
   clear he
   have z0:(V2.alloc (.cells #[.int .i64 fe,.int .i64 fa,.string (bs fn)] 45)).cell? ⟨W.heap.size,0,none⟩=some (.int .i64 0):=BR.out.cell 0
   have z1:(V2.alloc (.cells #[.int .i64 fe,.int .i64 fa,.string (bs fn)] 45)).cell? ⟨W.heap.size,1,none⟩=some (.int .i64 0):=BR.out.cell 1
   have z2:(V2.alloc (.cells #[.int .i64 fe,.int .i64 fa,.string (bs fn)] 45)).cell? ⟨W.heap.size,2,none⟩=some (.string ⟨#[]⟩):=BR.out.cell 2
   have f0:=BR.out.free 0
   have f1:=BR.out.free 1
   have f2:=BR.out.free 2
   go_wp2
   have F:=((BR.out.set 0 (.int .i64 fe)).set 1 (.int .i64 fa)).set 2 (.string (bs fn))
   have h0:=F.cell 0
   have h1:=F.cell 1
   have h2:=F.cell 2
   simp only [List.setIfInBounds_toArray,List.set_cons_succ,List.set_cons_zero,List.getElem?_toArray,List.getElem?_cons_succ,List.getElem?_cons_zero] at h0 h1 h2
   refine bodyPost_ret (v:=lfA ⟨fe,fa,fn⟩) ?_ rfl ⟨by rw [E.out],sets3_grown G2.out _ (Nat.le_refl _) _ _ _⟩
   clear F z0 z1 z2 f0 f1 f2
   generalize World.setCell _ _ _=WF at *
   simp [results,Tryz.results45,go_sem,lfA,bs,h0,h1,h2]

end Go.Proofs.YtnfgdlkiialnnaaGreatDoor

namespace Go.Proofs.YtnfgdlkiialnnaaGreatDoor
open Go.RowKit

set_option maxHeartbeats 2000000 in
theorem writeReloc_any (b:Nat) (r:Lk.Rel) (l:List UInt8) (w:World) (h:WrAt w b l) (hl:l.length≤1048576) (hg:Lk.goodRel r) :
  Calls Tryz.prog 82 #[.pointer (some ⟨b,0,none⟩),.agg #[.int .i64 r.sect,.int .i64 r.off,.int .i64 r.kind,.int .i64 r.sym,.int .i64 r.addend]] w fun e w'=>e = .returned (.tuple #[])∧WrAt w' b (l ++ Lk.relB r)∧Wk b w w':=by
 obtain ⟨⟨hs0,hs1⟩,⟨hk0,hk1⟩,⟨ho0,ho1⟩,⟨hy0,hy1⟩,ha0,ha1⟩:=hg
 have hvb:w.heap.size≠b:=by obtain ⟨_,_,h1,_⟩:=h; have:=h1.lt; omega
 have S1:=hid (St3.begin h #[.int .i64 r.sect,.int .i64 r.off,.int .i64 r.kind,.int .i64 r.sym,.int .i64 r.addend] 139)
 have c1:=hid (fun W (h:WrAt W b (l))=>wNumber_lit b r.sect 1 1 rfl (l) W h (by omega) (by omega) (by omega) (by omega))
 have c2:=hid (fun W (h:WrAt W b (l ++ Lk.le r.sect 1))=>wNumber_lit b r.kind 1 1 rfl (l ++ Lk.le r.sect 1) W h (by simp only [List.length_append,Lk.le_length]; omega) (by omega) (by omega) (by omega))
 have c3:=hid (fun W (h:WrAt W b (l ++ Lk.le r.sect 1 ++ Lk.le r.kind 1))=>wNumber_lit b r.off 2 2 rfl (l ++ Lk.le r.sect 1 ++ Lk.le r.kind 1) W h (by simp only [List.length_append,Lk.le_length]; omega) (by omega) (by omega) (by omega))
 have c4:=hid (fun W (h:WrAt W b (l ++ Lk.le r.sect 1 ++ Lk.le r.kind 1 ++ Lk.le r.off 2))=>wNumber_lit b r.sym 1 1 rfl (l ++ Lk.le r.sect 1 ++ Lk.le r.kind 1 ++ Lk.le r.off 2) W h (by simp only [List.length_append,Lk.le_length]; omega) (by omega) (by omega) (by omega))
 have c5:=hid (fun W (h:WrAt W b (l ++ Lk.le r.sect 1 ++ Lk.le r.kind 1 ++ Lk.le r.off 2 ++ Lk.le r.sym 1))=>wNumber_lit b r.addend 2 2 rfl (l ++ Lk.le r.sect 1 ++ Lk.le r.kind 1 ++ Lk.le r.off 2 ++ Lk.le r.sym 1) W h (by simp only [List.length_append,Lk.le_length]; omega) (by omega) (by omega) (by omega))
 clear h
 go_enter Tryz.func82,Tryz.ntmps82
 go_wp2_with fail
 refine Calls.at_world (St3 w b w.heap.size 139 #[.int .i64 r.sect,.int .i64 r.off,.int .i64 r.kind,.int .i64 r.sym,.int .i64 r.addend] l) S1.out ?_
 clear S1
 intro W1 s1
 have S1:=hid s1
 clear s1
 refine (c1.out W1 S1.out.wr).mono ?_
 rintro e W2 ⟨rfl,hw,hk⟩
 have S2:=hid (S1.out.step hvb (by decide) hw hk)
 clear hw hk
 have k2:=S2.out.own.cell 2
 go_wp2_with fail
 refine (c2.out W2 S2.out.wr).mono ?_
 rintro e W3 ⟨rfl,hw,hk⟩
 have S3:=hid (S2.out.step hvb (by decide) hw hk)
 clear hw hk k2
 have k3:=S3.out.own.cell 1
 go_wp2_with fail
 refine (c3.out W3 S3.out.wr).mono ?_
 rintro e W4 ⟨rfl,hw,hk⟩
 have S4:=hid (S3.out.step hvb (by decide) hw hk)
 clear hw hk k3
 have k4:=S4.out.own.cell 3
 go_wp2_with fail
 refine (c4.out W4 S4.out.wr).mono ?_
 rintro e W5 ⟨rfl,hw,hk⟩
 have S5:=hid (S4.out.step hvb (by decide) hw hk)
 clear hw hk k4
 have k5:=S5.out.own.cell 4
 go_wp2_with fail
 refine (c5.out W5 S5.out.wr).mono ?_
 rintro e W6 ⟨rfl,hw,hk⟩
 have S6:=hid (S5.out.step hvb (by decide) hw hk)
 clear hw hk k5
 go_wp2
 go_end0
 refine ⟨rfl,?_,S6.out.wk⟩
 have:=S6.out.wr
 simpa [Lk.relB] using this

def SymsB (w:World) (b:Nat) (ao:Option Addr) (ys:List Lk.Sym):Prop :=
 0 < ys.length→∃ g cs,ao=some ⟨g,0,none⟩∧g≠b∧BlkAt w g cs 124∧∀ i (h:i < ys.length),cs[i * 4]?=some (.string (bs ys[i].name))∧cs[i * 4+1]?=some (.int .i64 ys[i].bind)∧cs[i * 4+2]?=some (.int .i64 ys[i].sect)∧cs[i * 4+3]?=some (.int .i64 ys[i].off)
theorem SymsB.kept {w w':World} {b:Nat} {ao:Option Addr} {xs:List Lk.Sym} (h:SymsB w b ao xs) (hk:Wk b w w'):SymsB w' b ao xs:=by
 intro h0
 obtain ⟨g,cs,h1,h2,h3,h4⟩:=h h0
 exact ⟨g,cs,h1,h2,hk.2 g cs _ h2 (by decide) h3,h4⟩
def RelsB (w:World) (b:Nat) (ao:Option Addr) (ys:List Lk.Rel):Prop :=
 0 < ys.length→∃ g cs,ao=some ⟨g,0,none⟩∧g≠b∧BlkAt w g cs 139∧∀ i (h:i < ys.length),cs[i * 5]?=some (.int .i64 ys[i].sect)∧cs[i * 5+1]?=some (.int .i64 ys[i].off)∧cs[i * 5+2]?=some (.int .i64 ys[i].kind)∧cs[i * 5+3]?=some (.int .i64 ys[i].sym)∧cs[i * 5+4]?=some (.int .i64 ys[i].addend)
theorem RelsB.kept {w w':World} {b:Nat} {ao:Option Addr} {xs:List Lk.Rel} (h:RelsB w b ao xs) (hk:Wk b w w'):RelsB w' b ao xs:=by
 intro h0
 obtain ⟨g,cs,h1,h2,h3,h4⟩:=h h0
 exact ⟨g,cs,h1,h2,hk.2 g cs _ h2 (by decide) h3,h4⟩

theorem own_blkX {w:World} {base b:Nat} {e:TypeId} {size:Nat} {ao:Option Addr} {n cap:Nat} {xs:List Value} (h:w.ownsRow base e size (.slice ao n cap) n xs) (hn:0 < n) (hb:∀ g,Value.ownBlock (.slice ao n cap)=some g→g≠b) :
  ∃ g cs,ao=some ⟨g,0,none⟩∧g≠b∧BlkAt w g cs e∧∀ j,j < n * size→cs[j]?=xs[j]?:=by
 rcases h.2 with ⟨h1,h2⟩ | ⟨g,cap',cur,hv,_,hh,_,_,hcs,htk⟩
 ·omega
 ·simp only [Value.slice.injEq] at hv
  obtain ⟨rfl,_,rfl⟩:=hv
  refine ⟨g,cur,rfl,hb g rfl,hh,fun j hj=>?_⟩
  have e:(cur.toList.take (n * size))[j]?=xs[j]?:=by rw [htk]
  rw [List.getElem?_take,if_pos hj] at e
  rw [← Array.getElem?_toList,e]

theorem flat_len {α:Type} (f:α→List Value) (size:Nat) (hf:∀ x,(f x).length=size) (l:List α):(l.flatMap f).length=l.length * size:=by
 induction l with
 | nil=>simp
 | cons y t ih=>rw [List.flatMap_cons,List.length_append,ih,hf,List.length_cons,Nat.succ_mul]; omega

theorem SymsB.of_own {w:World} {base b:Nat} {ao:Option Addr} {n cap:Nat} {ys:List Lk.Sym} (h:w.ownsRow base 124 4 (.slice ao n cap) n (ys.flatMap symV)) (hb:∀ g,Value.ownBlock (.slice ao n cap)=some g→g≠b):SymsB w b ao ys:=by
 intro h0
 have hl:=flat_len symV 4 (fun _=>rfl) ys
 have hn:ys.length=n:=by have:=h.1; omega
 obtain ⟨g,cs,h1,h2,h3,h4⟩:=own_blkX h (by omega) hb
 refine ⟨g,cs,h1,h2,h3,fun i hi=>?_⟩
 have q:=fun j (hj:j < 4)=>(h4 (i * 4+j) (by omega)).trans (flat_get symV 4 (fun _=>rfl) ys i j hi hj)
 exact ⟨q 0 (by omega),q 1 (by omega),q 2 (by omega),q 3 (by omega)⟩
theorem RelsB.of_own {w:World} {base b:Nat} {ao:Option Addr} {n cap:Nat} {ys:List Lk.Rel} (h:w.ownsRow base 139 5 (.slice ao n cap) n (ys.flatMap relV)) (hb:∀ g,Value.ownBlock (.slice ao n cap)=some g→g≠b):RelsB w b ao ys:=by
 intro h0
 have hl:=flat_len relV 5 (fun _=>rfl) ys
 have hn:ys.length=n:=by have:=h.1; omega
 obtain ⟨g,cs,h1,h2,h3,h4⟩:=own_blkX h (by omega) hb
 refine ⟨g,cs,h1,h2,h3,fun i hi=>?_⟩
 have q:=fun j (hj:j < 5)=>(h4 (i * 5+j) (by omega)).trans (flat_get relV 5 (fun _=>rfl) ys i j hi hj)
 exact ⟨q 0 (by omega),q 1 (by omega),q 2 (by omega),q 3 (by omega),q 4 (by omega)⟩

end Go.Proofs.YtnfgdlkiialnnaaGreatDoor
