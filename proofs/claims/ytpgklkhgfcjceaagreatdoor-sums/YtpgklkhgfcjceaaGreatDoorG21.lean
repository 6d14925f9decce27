/- Linking: what does not reach. -/
/- Walks over package image: regionsFit. -/
/- Linking: what takes part, and where it lies. -/
/- Walks over package object: writeReloc; what a Writer leaves as it was. -/
/- Walks over package object: Write. -/
import Derived.Test.YtpgklkhgfcjceaaGreatDoorG19
import Derived.Test.YtpgklkhgfcjceaaGreatDoorG05
import Derived.Test.YtpgklkhgfcjceaaGreatDoorG03
import Derived.Deep.RegionWith
import Derived.Deep.CutRange
import Derived.Test.YtpgklkhgfcjceaaGreatDoorG20
import Derived.Test.YtpgklkhgfcjceaaGreatDoorG09
import Derived.Test.YtpgklkhgfcjceaaGreatDoorG06
set_option maxHeartbeats 16000000
namespace Go.Proofs.YtpgklkhgfcjceaaGreatDoor
open Go.RowKit
namespace Ln
def reachesB (kind d:Int):Bool:=if kind=2 then decide (-4096<=d) && decide (d<=4095) else if kind=3 then decide (-1048576<=d) && decide (d<=1048575) else true
def symName (o:Lk.Obj) (i:Int):List UInt8:=if i < 0 then [] else match o.syms[i.toNat]? with
 | none=>[]
 | some y=>y.name
def reachIn (ms:List Mod) (m:Mod) (i:Nat):List Lk.Rel->Option Flt
 | []=>none
 | r :: rs=>if reachesB r.kind (distance ms m r) then reachIn ms m i rs else some ⟨37,i,symName m.obj r.sym⟩
def reachAt (ms:List Mod):Nat->List Mod->Flt
 | _,[]=>ok
 | i,m :: r=>match reachIn ms m i m.obj.rels with
  | some f=>f
  | none=>reachAt ms (i+1) r
def checkReach (ms:List Mod):Flt:=reachAt ms 0 ms
end Ln
theorem yjW (ms:List Ln.Mod) (m:Ln.Mod) (i:Nat) (rs:List Lk.Rel) (j:Nat) (h:j < rs.length):Ln.reachIn ms m i (rs.drop j)=if Ln.reachesB rs[j].kind (Ln.distance ms m rs[j]) then Ln.reachIn ms m i (rs.drop (j+1)) else some ⟨37,i,Ln.symName m.obj rs[j].sym⟩:=by
 rw [ysu h]
 rfl
theorem yjV (ms l:List Ln.Mod) (k:Nat) (h:k < l.length):Ln.reachAt ms k (l.drop k)=match Ln.reachIn ms l[k] k l[k].obj.rels with
  | some f=>f
  | none=>Ln.reachAt ms (k+1) (l.drop (k+1)):=by
 rw [ysu h]
 rfl
set_option maxRecDepth 100000 in
theorem yle (kind d:Int) (w:World) :
  Calls Tryz.prog 113 #[.int .i64 kind,.int .i64 d] w fun e w'=>e = .returned (.bool (Ln.reachesB kind d))/\w'=w:=by
 have R:=hid (show Ln.reachesB kind d=if kind=2 then decide (-4096<=d) && decide (d<=4095) else if kind=3 then decide (-1048576<=d) && decide (d<=1048575) else true from rfl)
 by_cases e2:kind=2
 ·subst e2
  by_cases a:-4096<=d
  ·have d1:decide (-4096<=d)=true:=by simpa using a
   have E:=hid (show Ln.reachesB 2 d=decide (d<=4095) by rw [R.o]; simp [a])
   clear a
   go_enter Tryz.func113,Tryz.ntmps113
   go_wp2
   go_ret
   exact ⟨by rw [E.o]; rfl,rfl⟩
  ·have d1:decide (-4096<=d)=false:=by simpa using a
   have E:=hid (show Ln.reachesB 2 d=false by rw [R.o]; simp [a])
   clear a
   go_enter Tryz.func113,Tryz.ntmps113
   go_wp2
   go_ret
   exact ⟨by rw [E.o]; rfl,rfl⟩
 ·by_cases e3:kind=3
  ·subst e3
   clear e2
   by_cases a:-1048576<=d
   ·have d1:decide (-1048576<=d)=true:=by simpa using a
    have E:=hid (show Ln.reachesB 3 d=decide (d<=1048575) by rw [R.o]; simp [a])
    clear a
    go_enter Tryz.func113,Tryz.ntmps113
    go_wp2
    go_ret
    exact ⟨by rw [E.o]; rfl,rfl⟩
   ·have d1:decide (-1048576<=d)=false:=by simpa using a
    have E:=hid (show Ln.reachesB 3 d=false by rw [R.o]; simp [a])
    clear a
    go_enter Tryz.func113,Tryz.ntmps113
    go_wp2
    go_ret
    exact ⟨by rw [E.o]; rfl,rfl⟩
  ·have E:=hid (show Ln.reachesB kind d=true by rw [R.o,if_neg e2,if_neg e3])
   have d2:(kind == 2)=false:=by simpa using e2
   have d3:(kind == 3)=false:=by simpa using e3
   clear e2 e3
   go_enter Tryz.func113,Tryz.ntmps113
   go_wp2
   go_ret
   exact ⟨by rw [E.o]; rfl,rfl⟩
set_option maxRecDepth 100000 in
theorem yhW (bl:List Nat) (b g:Nat) (m:Ln.Mod) (i:Int) (w:World) (h:yD w bl b g m) (hs:m.obj.syms.length<=65535) :
  Calls Tryz.prog 114 #[ptrV b,.int .i64 i] w fun e w'=>e = .returned (.string (bs (Ln.symName m.obj i)))/\w'=w:=by
 obtain ⟨v1,v2,v3,v4,q0,q1,-⟩:=h
 obtain ⟨at_,ct,af,cf,ad,cd,aa,ca,as_,cs,ar,cr,hb,-,-,-,-,p5,-⟩:=q1.open
 have S:=yag.of_own p5
 have k5:=hb.cell 5
 simp only [ysk,ysl,ysj] at k5
 have k0:w.cell? ⟨b,0,none⟩=some (.pointer (some ⟨g,0,none⟩)):=q0.cell 0
 clear q0 q1 hb p5
 have R:=hid (show Ln.symName m.obj i=if i < 0 then [] else match m.obj.syms[i.toNat]? with
  | none=>[]
  | some y=>y.name from rfl)
 generalize m.obj.syms=ys at *
 unfold ptrV
 by_cases h0:i < 0
 ·have d0:decide (i < 0)=true:=by simpa using h0
  have E:=hid (show Ln.symName m.obj i=[] by rw [R.o,if_pos h0])
  clear h0
  go_enter Tryz.func114,Tryz.ntmps114
  go_wp2
  go_ret
  exact ⟨by rw [E.o]; rfl,rfl⟩
 ·obtain ⟨k,rfl⟩:∃ k:Nat,i=(k:Int):=⟨i.toNat,by omega⟩
  have d0:decide ((k:Int) < 0)=false:=by simp
  clear h0
  by_cases hlt:k < ys.length
  ·have d1:decide ((ys.length:Int)<=(k:Int))=false:=by simp; omega
   obtain ⟨sg,hsg,hgs,hcs⟩:=S (by omega)
   subst hsg
   obtain ⟨q0,q1,q2,q3⟩:=hcs k hlt
   clear hcs
   have E:=hid (show Ln.symName m.obj k=ys[k].name by rw [R.o,if_neg (by omega),Int.toNat_natCast,yst hlt])
   generalize ys[k]=y at *
   go_enter Tryz.func114,Tryz.ntmps114
   go_wp2
   go_ret
   exact ⟨by rw [E.o]; rfl,rfl⟩
  ·have d1:decide ((ys.length:Int)<=(k:Int))=true:=by simp; omega
   have E:=hid (show Ln.symName m.obj k=[] by rw [R.o,if_neg (by omega),Int.toNat_natCast,List.getElem?_eq_none (by omega)])
   go_enter Tryz.func114,Tryz.ntmps114
   go_wp2
   go_ret
   exact ⟨by rw [E.o]; rfl,rfl⟩
set_option maxRecDepth 100000 in
theorem yhE (W0:World) (P:Nat) (bt bf bd:Int) (vm:Value) (bl gl:List Nat) (ms:List Ln.Mod) (st:Ln.Spot) (no:Int) (W:World) (h:ProgAt W0 P bt bf bd vm bl gl ms st no W) (hn:∀ m∈ms,yI bl.length m) :
  Calls Tryz.prog 75 #[ptrV P] W fun e W'=>e = .returned (lfA (Ln.checkReach ms))/\W.grownBy W' none:=by
 obtain ⟨am,cm,rfl⟩:=yh h.row
 have HP:=hid h
 have c3:W.cell? ⟨P,3,none⟩=some (.slice am bl.length cm):=h.blk.cell 3
 have hbl:=h.few
 have LO:=hid h.lenO
 have HN:=hid hn
 have G0:=hid (ysp W (.cells #[.int .i64 0,.int .i64 0,.string ⟨#[]⟩] 45) none)
 have B0:=hid (yc.new W #[.int .i64 0,.int .i64 0,.string ⟨#[]⟩] 45)
 have c3':=yd c3 G0.o
 clear h hn c3
 unfold ptrV
 go_enter Tryz.func75,Tryz.ntmps75
 go_wp2
 generalize W.alloc (.cells #[.int .i64 0,.int .i64 0,.string ⟨#[]⟩] 45)=W1 at *
 clear c3'
 go_loopw [12] (fun i wr=>∃ k:Nat,k<=bl.length/\i = .int .i64 k/\Ln.checkReach ms=Ln.reachAt ms k (ms.drop k)/\W1.grownBy wr none) (fun i _=>bl.length - (intOf i).toNat)
 case atStart=>exact ⟨0,Nat.zero_le _,rfl,rfl,World.grownBy.refl _ _⟩
 case round =>
  obtain ⟨k,hk,rfl,hf,hgr⟩:=hrel
  have HF:=hid hf
  have HG:=hid hgr
  clear hf hgr
  by_cases hlt:k < bl.length
  ·have hko:k < ms.length:=by rw [LO.o]; exact hlt
   have hkg:k < gl.length:=by rw [HP.o.lenG]; exact hlt
   have PR:=HP.o.kept (ya G0.o HG.o)
   obtain ⟨sg,off,hsg,hsc⟩:=PR.modsIn.ptrs (by omega)
   have ck:=hsc k hlt
   have HM:yD wr bl bl[k] (gl[k]'hkg) ms[k]:=PR.mods k hlt
   have MN:=HN.o _ (ysr hko)
   have MA:=hid (PR.modsAt HN.o)
   have HMH:=hid HM
   obtain ⟨v1,v2,v3,v4,q0,q1,-⟩:=HM
   obtain ⟨at_,ct,af,cf,ad,cd,aa,ca,as_,cs,ar,cr,hb,-,-,-,-,-,p6⟩:=q1.open
   have S:=hid (ycj.of_own p6)
   have k6:=hb.cell 6
   simp only [ysk,ysl,ysj] at k6
   have k0:wr.cell? ⟨bl[k],0,none⟩=some (.pointer (some ⟨gl[k]'hkg,0,none⟩)):=q0.cell 0
   have hrl:=MN.rels.1
   have hsy:=HP.o.syms _ (ysr hko)
   have FD:=hid (yjV ms ms k hko)
   have cD:=hid (fun W2 (hg:wr.grownBy W2 none) r (hr:r∈ms[k].obj.rels)=>ycS bl ms bl[k] (gl[k]'hkg) ms[k] r W2 (MA.o.kept hg) (HMH.o.kept hg) MN (MN.rels.2 r hr).2.1 (MN.rels.2 r hr).2.2)
   have cS:=hid (fun W2 (hg:wr.grownBy W2 none) i=>yhW bl bl[k] (gl[k]'hkg) ms[k] i W2 (HMH.o.kept hg) hsy)
   subst hsg
   clear hsc q0 q1 hb p6 PR MN hsy
   generalize (gl[k]'hkg)=gk at *
   generalize bl[k]=bk at *
   generalize ms[k]=m at *
   have g1:(k:Int) < (bl.length:Int):=by omega
   unfold ptrV relA at *
   go_wp2
   generalize wr=U at *
   clear ck k0 k6
   go_loopw [25] (fun i wr=>∃ j:Nat,j<=m.obj.rels.length/\i = .int .i64 j/\Ln.reachIn ms m k m.obj.rels=Ln.reachIn ms m k (m.obj.rels.drop j)/\U.grownBy wr none) (fun i _=>m.obj.rels.length - (intOf i).toNat)
   case atStart=>exact ⟨0,Nat.zero_le _,rfl,rfl,World.grownBy.refl _ _⟩
   case round =>
    obtain ⟨j,hj,rfl,hf2,hgr2⟩:=hrel
    have HF2:=hid hf2
    have HG2:=hid hgr2
    clear hf2 hgr2
    by_cases hlt2:j < m.obj.rels.length
    ·obtain ⟨sg2,hsg2,hgs,hcs⟩:=S.o.grown HG2.o (by omega)
     subst hsg2
     obtain ⟨q0,q1,q2,q3,q4⟩:=hcs j hlt2
     clear hcs
     have g2:(j:Int) < (m.obj.rels.length:Int):=by omega
     have FI:=hid (show Ln.reachIn ms m k m.obj.rels=_ from HF2.o.trans (yjW ms m k m.obj.rels j hlt2))
     have cE:=hid (fun W2 hg=>cD.o W2 hg m.obj.rels[j] (ysr hlt2))
     have hn2:m.obj.rels.length=m.obj.rels.length:=rfl
     generalize m.obj.rels[j]=r at *
     have BX:=hid (yc.new wr #[.int .i64 r.sect,.int .i64 r.off,.int .i64 r.kind,.int .i64 r.sym,.int .i64 r.addend] 102)
     have GA:=hid (ysp wr (.cells #[.int .i64 r.sect,.int .i64 r.off,.int .i64 r.kind,.int .i64 r.sym,.int .i64 r.addend] 102) none)
     have GW:=hid (ya HG2.o GA.o)
     have cRe:=hid (fun d W2=>yle r.kind d W2)
     generalize Ln.distance ms m r=ds at *
     go_upto_region 7 with fail
     clear q0 q1 q2 q3 q4
     generalize wr.alloc (.cells #[.int .i64 r.sect,.int .i64 r.off,.int .i64 r.kind,.int .i64 r.sym,.int .i64 r.addend] 102)=W2 at *
     generalize wr.heap.size=L at *
     have c0:W2.cell? ⟨L,0,none⟩=some (.int .i64 r.sect):=BX.o.cell 0
     have c1:W2.cell? ⟨L,1,none⟩=some (.int .i64 r.off):=BX.o.cell 1
     have c2:W2.cell? ⟨L,2,none⟩=some (.int .i64 r.kind):=BX.o.cell 2
     have c3:W2.cell? ⟨L,3,none⟩=some (.int .i64 r.sym):=BX.o.cell 3
     have c4:W2.cell? ⟨L,4,none⟩=some (.int .i64 r.addend):=BX.o.cell 4
     have BD:=hid (fun W (hq:W2.drew.grownBy W none)=>show yc W L #[.int .i64 r.sect,.int .i64 r.off,.int .i64 r.kind,.int .i64 r.sym,.int .i64 r.addend] 102 from (yaO BX.o).grown hq (by simp))
     go_region_held3 (fun w'=>w'.cell? ⟨L,0,none⟩=some (.int .i64 r.sect)/\w'.cell? ⟨L,1,none⟩=some (.int .i64 r.off)/\w'.cell? ⟨L,2,none⟩=some (.int .i64 r.kind)/\w'.cell? ⟨L,3,none⟩=some (.int .i64 r.sym)/\w'.cell? ⟨L,4,none⟩=some (.int .i64 r.addend))
      (go_keep)
      (first | (go_at_call 107; refine (cE.o _ (yi GW.o)).mono ?_; rintro e w' ⟨rfl,hq⟩; have bq:=BD.o _ hq; have s0:=bq.cell 0; have s1:=bq.cell 1; have s2:=bq.cell 2; have s3:=bq.cell 3; have s4:=bq.cell 4; simp only [ysk,ysl,ysj] at s0 s1 s2 s3 s4) | (go_at_call 113; refine (cRe.o _ _).mono ?_; rintro e w2 ⟨rfl,hw⟩; rw [hw]; clear hw w2))
     have GQ:=hid (ya (yi GW.o) hq)
     have BQ:=hid bq
     clear hq bq c0 c1 c2 c3 c4 s0 s1 s2 s3 s4 cE cRe GA
     generalize hrb:Ln.reachesB r.kind ds=rb at *
     have HRB:=hid hrb
     clear hrb
     cases rb
     ·have E:=hid (show Ln.checkReach ms=⟨37,k,Ln.symName m.obj r.sym⟩ by rw [HF.o,FD.o,FI.o]; rfl)
      have BR:=hid (B0.o.grown (ya HG.o GQ.o) (by simp))
      have cSy:=hid (cS.o _ GQ.o r.sym)
      generalize Ln.symName m.obj r.sym=nm at *
      have c3:w'.cell? ⟨L,3,none⟩=some (.int .i64 r.sym):=BQ.o.cell 3
      have z0:w'.cell? ⟨W.heap.size,0,none⟩=some (.int .i64 0):=BR.o.cell 0
      have z1:w'.cell? ⟨W.heap.size,1,none⟩=some (.int .i64 0):=BR.o.cell 1
      have z2:w'.cell? ⟨W.heap.size,2,none⟩=some (.string ⟨#[]⟩):=BR.o.cell 2
      have f0:=BR.o.free 0
      have f1:=BR.o.free 1
      have f2:=BR.o.free 2
      go_wp2_with fail
      refine cSy.o.mono ?_
      rintro e w2 ⟨rfl,hw⟩
      rw [hw]
      clear hw w2 cSy c3
      go_wp2
      have F:=((BR.o.set 0 (.int .i64 37)).set 1 (.int .i64 k)).set 2 (.string (bs nm))
      have h0:=F.cell 0
      have h1:=F.cell 1
      have h2:=F.cell 2
      simp only [yso,ysm,ysn,ysk,ysl,ysj] at h0 h1 h2
      refine bodyPost_ret (v:=lfA ⟨37,k,nm⟩) ?_ rfl ⟨by rw [E.o],yx (ya G0.o (ya HG.o GQ.o)) _ (Nat.le_refl _) _ _ _⟩
      clear F z0 z1 z2 f0 f1 f2
      generalize World.setCell _ _ _=WF at *
      simp [results,Tryz.results75,go_sem,lfA,h0,h1,h2]
     ·have E:=hid (show Ln.reachIn ms m k m.obj.rels=Ln.reachIn ms m k (m.obj.rels.drop (j+1)) from FI.o)
      go_wp2
      go_roundw
      case rel=>exact ⟨j+1,by omega,by go_num,E.o,GQ.o⟩
      case measure=>simp [intOf]; omega
    ·obtain rfl:j=m.obj.rels.length:=by omega
     have E:=hid (show Ln.reachIn ms m k m.obj.rels=none by rw [HF2.o,List.drop_length]; rfl)
     have g3:decide ((m.obj.rels.length:Int) < (m.obj.rels.length:Int))=false:=by simp
     go_wp2
     go_roundw
     case rel=>exact ⟨k+1,by omega,by go_num,by rw [HF.o,FD.o,E.o],ya HG.o HG2.o⟩
     case measure=>simp [intOf]; omega
  ·obtain rfl:k=bl.length:=by omega
   have E:=hid (show Ln.checkReach ms=Ln.ok by rw [HF.o,<- LO.o,List.drop_length]; rfl)
   have g3:decide ((bl.length:Int) < (bl.length:Int))=false:=by simp
   have BR:=hid (B0.o.grown HG.o (by simp))
   have z0:wr.cell? ⟨W.heap.size,0,none⟩=some (.int .i64 0):=BR.o.cell 0
   have z1:wr.cell? ⟨W.heap.size,1,none⟩=some (.int .i64 0):=BR.o.cell 1
   have z2:wr.cell? ⟨W.heap.size,2,none⟩=some (.string ⟨#[]⟩):=BR.o.cell 2
   have f0:=BR.o.free 0
   have f1:=BR.o.free 1
   have f2:=BR.o.free 2
   go_wp2
   have F:=((BR.o.set 0 (.int .i64 0)).set 1 (.int .i64 0)).set 2 (.string ⟨#[]⟩)
   have h0:=F.cell 0
   have h1:=F.cell 1
   have h2:=F.cell 2
   simp only [yso,ysm,ysn,ysk,ysl,ysj] at h0 h1 h2
   refine bodyPost_ret (v:=lfA Ln.ok) ?_ rfl ⟨by rw [E.o],yx (ya G0.o HG.o) _ (Nat.le_refl _) _ _ _⟩
   clear F z0 z1 z2 f0 f1 f2
   generalize World.setCell _ _ _=WF at *
   simp [results,Tryz.results75,go_sem,lfA,Ln.ok,bs,h0,h1,h2]
namespace Im
def endT (m:Img):Int:=m.text+4 * (m.T.length:Int)
def endF (m:Img):Int:=m.far+4 * (m.F.length:Int)
def endD (m:Img):Int:=m.data+4 * ((m.D.length:Int)+m.noughts)
def Fits (m:Img):Prop:=(endT m<=1073741824/\endF m<=1073741824/\endD m<=1073741824)/\(¬ Meet m.text (endT m) m.far (endF m)/\¬ Meet m.text (endT m) m.data (endD m)/\¬ Meet m.far (endF m) m.data (endD m))
end Im
def regC (a b:Int):Array Value:=#[.int .i64 a,.int .i64 b]
theorem yaw (w:World) (a b:Int):yc ((w.alloc (.cells (regC a b) 171)).alloc (.cells (regC a b) 171)).drew w.heap.size (regC a b) 171 /\
  yc ((w.alloc (.cells (regC a b) 171)).alloc (.cells (regC a b) 171)).drew (w.heap.size+1) (regC a b) 171/\w.grownBy ((w.alloc (.cells (regC a b) 171)).alloc (.cells (regC a b) 171)).drew none:=by
 have b1:=yc.new w (regC a b) 171
 have b2:=yc.new (w.alloc (.cells (regC a b) 171)) (regC a b) 171
 rw [show (w.alloc (.cells (regC a b) 171)).heap.size=w.heap.size+1 from Array.size_push _] at b2
 exact ⟨(b1.grown (ysp _ _ none) (by simp)).drewN 1,b2.drewN 1,yi (ya (ysp _ _ none) (ysp _ _ none))⟩
theorem yex (g:Nat) (m:Im.Img) (w:World) (h:yah w g m) (ht:Im.Tame m) :
  Calls Tryz.prog 74 #[.pointer (some ⟨g,0,none⟩)] w fun e w'=>yg e (Im.Fits m)/\w.grownBy w' none:=by
 obtain ⟨at_,ct,af,cf,ad,cd,hb,q1,q2,q3⟩:=h.open
 have HB:=hid hb
 have hl:=ht.lens
 have hn:=ht.noughts
 have r1:=ht.text
 have r2:=ht.far
 have r3:=ht.data
 have cT:=hid (fun W=>ydW m.text m.T.length W ht.text.1 ht.text.2 (by omega) (by omega))
 have cF:=hid (fun W=>ydW m.far m.F.length W ht.far.1 ht.far.2 (by omega) (by omega))
 have cD:=hid (fun W=>ydW m.data (m.D.length+m.noughts) W ht.data.1 ht.data.2 (by omega) (by omega))
 have F0:=hid (show Im.Fits m↔(Im.endT m<=1073741824/\Im.endF m<=1073741824/\Im.endD m<=1073741824)/\(¬ Im.Meet m.text (Im.endT m) m.far (Im.endF m)/\¬ Im.Meet m.text (Im.endT m) m.data (Im.endD m)/\¬ Im.Meet m.far (Im.endF m) m.data (Im.endD m)) from Iff.rfl)
 generalize Im.Fits m=Q at *
 have ww:IntKind.i64.wrap ((m.D.length:Int)+m.noughts)=(m.D.length:Int)+m.noughts:=IntWalk.i64_in _ ⟨by omega,by omega⟩
 clear h ht hb q1 q2 q3
 have k1:=HB.o.cell 1
 have k4:=HB.o.cell 4
 simp only [ysk,ysl,ysj] at k1 k4
 have hlt:=HB.o.lt
 have hne:g≠w.heap.size:=by omega
 go_enter Tryz.func74,Tryz.ntmps74
 go_upto_region 1 with fail
 go_cut [3] from 6 to 16 (fun v wx=>∃ r,v = .pointer (some ⟨r,0,none⟩)/\yc wx r (regC m.text (Im.endT m)) 171/\w.grownBy wx none)
 case first =>
  go_region_with (go_at_call 111; refine (cT.o _).mono ?_; rintro e w' ⟨rfl,rfl⟩)
  all_goals (go_wp2_with fail; go_meet; first | exact ⟨w.heap.size,rfl,(yaw w m.text (Im.endT m)).1,(yaw w m.text (Im.endT m)).2.2⟩ | exact ⟨w.heap.size+1,rfl,(yaw w m.text (Im.endT m)).2.1,(yaw w m.text (Im.endT m)).2.2⟩)
 case rest =>
 obtain ⟨ra,rfl,b1,g1⟩:=hcut
 clear k1 k4 hlt hne cT
 generalize wc=W1 at *
 have HB1:=hid (HB.o.grown g1 (by simp))
 have P1:=hid b1
 have G1:=hid g1
 clear b1 g1 HB
 have k2:=HB1.o.cell 2
 have k5:=HB1.o.cell 5
 simp only [ysk,ysl,ysj] at k2 k5
 have hlt:=HB1.o.lt
 have hne:g≠W1.heap.size:=by omega
 go_upto_region 2 with fail
 go_cut [4] from 17 to 27 (fun v wx=>∃ r,v = .pointer (some ⟨r,0,none⟩)/\yc wx r (regC m.far (Im.endF m)) 171/\W1.grownBy wx none)
 case first =>
  go_region_with (go_at_call 111; refine (cF.o _).mono ?_; rintro e w' ⟨rfl,rfl⟩)
  all_goals (go_wp2_with fail; go_meet; first | exact ⟨W1.heap.size,rfl,(yaw W1 m.far (Im.endF m)).1,(yaw W1 m.far (Im.endF m)).2.2⟩ | exact ⟨W1.heap.size+1,rfl,(yaw W1 m.far (Im.endF m)).2.1,(yaw W1 m.far (Im.endF m)).2.2⟩)
 case rest =>
 obtain ⟨rb,rfl,b1,g1⟩:=hcut
 clear k2 k5 hlt hne cF
 generalize wc=W2 at *
 have HB2:=hid (HB1.o.grown g1 (by simp))
 have P1':=hid (P1.o.grown g1 (by simp))
 have P2:=hid b1
 have G2:=hid (ya G1.o g1)
 clear b1 g1 HB1 P1 G1
 have k3:=HB2.o.cell 3
 have k6:=HB2.o.cell 6
 have k7:=HB2.o.cell 7
 simp only [ysk,ysl,ysj] at k3 k6 k7
 have hlt:=HB2.o.lt
 have hne:g≠W2.heap.size:=by omega
 go_upto_region 3 with fail
 go_cut [5] from 28 to 43 (fun v wx=>∃ r,v = .pointer (some ⟨r,0,none⟩)/\yc wx r (regC m.data (Im.endD m)) 171/\W2.grownBy wx none)
 case first =>
  go_region_with (go_at_call 111; refine (cD.o _).mono ?_; rintro e w' ⟨rfl,rfl⟩)
  all_goals (go_wp2_with fail; go_meet; first | exact ⟨W2.heap.size,rfl,(yaw W2 m.data (Im.endD m)).1,(yaw W2 m.data (Im.endD m)).2.2⟩ | exact ⟨W2.heap.size+1,rfl,(yaw W2 m.data (Im.endD m)).2.1,(yaw W2 m.data (Im.endD m)).2.2⟩)
 case rest =>
 obtain ⟨rc,rfl,b1,g1⟩:=hcut
 clear k3 k6 k7 hlt hne cD
 generalize wc=W3 at *
 have B1:=hid (P1'.o.grown g1 (by simp))
 have B2:=hid (P2.o.grown g1 (by simp))
 have B3:=hid b1
 have G:=hid (ya G2.o g1)
 clear b1 g1 HB2 P1' P2 G2
 generalize Im.endT m=eT at *
 generalize Im.endF m=eF at *
 generalize Im.endD m=eD at *
 have a0:=B1.o.cell 0
 have a1:=B1.o.cell 1
 have c0:=B2.o.cell 0
 have c1:=B2.o.cell 1
 have d0:=B3.o.cell 0
 have d1:=B3.o.cell 1
 simp only [regC,ysk,ysl,ysj] at a0 a1 c0 c1 d0 d1
 by_cases z1:1073741824 < eT
 ·have e1:decide (1073741824 < eT)=true:=by simpa using z1
  have N:=hid (show ¬ Q from fun q=>by have:=(F0.o.1 q).1.1; omega)
  clear z1
  go_wp2
  go_ret
  exact ⟨yg.no N.o,G.o⟩
 ·have e1:decide (1073741824 < eT)=false:=by simpa using z1
  by_cases z2:1073741824 < eF
  ·have e2:decide (1073741824 < eF)=true:=by simpa using z2
   have N:=hid (show ¬ Q from fun q=>by have:=(F0.o.1 q).1.2.1; omega)
   clear z1 z2
   go_wp2
   go_ret
   exact ⟨yg.no N.o,G.o⟩
  ·have e2:decide (1073741824 < eF)=false:=by simpa using z2
   by_cases z3:1073741824 < eD
   ·have e3:decide (1073741824 < eD)=true:=by simpa using z3
    have N:=hid (show ¬ Q from fun q=>by have:=(F0.o.1 q).1.2.2; omega)
    clear z1 z2 z3
    go_wp2
    go_ret
    exact ⟨yg.no N.o,G.o⟩
   ·have e3:decide (1073741824 < eD)=false:=by simpa using z3
    have LE:=hid (show eT<=1073741824/\eF<=1073741824/\eD<=1073741824 by omega)
    clear z1 z2 z3
    go_wp2_with fail
    refine (ygx m.text eT m.far eF W3).mono ?_
    rintro e V1 ⟨t1,h1⟩
    have G1:=hid (ya G.o h1)
    replace a0:=yd a0 h1
    replace a1:=yd a1 h1
    replace c0:=yd c0 h1
    replace c1:=yd c1 h1
    replace d0:=yd d0 h1
    replace d1:=yd d1 h1
    rcases t1.split with ⟨rfl,p1⟩ | ⟨rfl,p1⟩ <;> clear t1 h1
    ·go_wp2_with fail
     refine (ygx m.text eT m.data eD V1).mono ?_
     rintro e V2 ⟨t2,h2⟩
     have G2:=hid (ya G1.o h2)
     replace a0:=yd a0 h2
     replace a1:=yd a1 h2
     replace c0:=yd c0 h2
     replace c1:=yd c1 h2
     replace d0:=yd d0 h2
     replace d1:=yd d1 h2
     rcases t2.split with ⟨rfl,p2⟩ | ⟨rfl,p2⟩ <;> clear t2 h2
     ·go_wp2_with fail
      refine (ygx m.far eF m.data eD V2).mono ?_
      rintro e V3 ⟨t3,h3⟩
      have G3:=hid (ya G2.o h3)
      rcases t3.split with ⟨rfl,p3⟩ | ⟨rfl,p3⟩ <;> clear t3 h3
      ·go_wp2
       go_ret
       exact ⟨yg.yes (F0.o.2 ⟨LE.o,p1.o,p2.o,p3.o⟩),G3.o⟩
      ·go_wp2
       go_ret
       exact ⟨yg.no fun q=>(F0.o.1 q).2.2.2 p3.o,G3.o⟩
     ·go_wp2
      go_ret
      exact ⟨yg.no fun q=>(F0.o.1 q).2.2.1 p2.o,G2.o⟩
    ·go_wp2
     go_ret
     exact ⟨yg.no fun q=>(F0.o.1 q).2.1 p1.o,G1.o⟩
theorem ypr:∀ (ms:List (Lk.Obj×Bool)) (os:List Lk.Obj),(Ln.pass ms os).1.map Prod.fst=ms.map Prod.fst:=by
 intro ms
 induction ms with
 | nil=>intro os; rfl
 | cons m ms ih =>
  intro os
  obtain ⟨o,t⟩:=m
  unfold Ln.pass
  split
  ·rw [List.map_cons,ih,List.map_cons]
  ·rw [List.map_cons,ih,List.map_cons]
theorem ypq (P:Lk.Obj->Prop):∀ (ms:List (Lk.Obj×Bool)) (os:List Lk.Obj),(∀ m∈ms,P m.1)->(∀ o∈os,P o)->∀ o∈(Ln.pass ms os).2.1,P o:=by
 intro ms
 induction ms with
 | nil=>intro os _ h; exact h
 | cons m ms ih =>
  intro os hm ho
  obtain ⟨o,t⟩:=m
  unfold Ln.pass
  have h0:=hm (o,t) (by simp)
  split
  ·exact ih _ (fun x hx=>hm x (by simp [hx])) (fun x hx=>by
    rcases List.mem_append.1 hx with q | q
    ·exact ho x q
    ·simp at q; subst q; exact h0)
  ·exact ih _ (fun x hx=>hm x (by simp [hx])) ho
theorem yps:∀ (ms:List (Lk.Obj×Bool)) (os:List Lk.Obj),(Ln.pass ms os).2.1.length+yaq (Ln.pass ms os).1=os.length+yaq ms:=by
 intro ms
 induction ms with
 | nil=>intro os; rfl
 | cons m ms ih =>
  intro os
  obtain ⟨o,t⟩:=m
  unfold Ln.pass
  split
  ·rename_i h
   have:=ih (os ++ [o])
   rw [ysq,List.length_singleton] at this
   unfold yaq at this ⊢
   rw [List.filter_cons_of_neg (by simp),List.filter_cons_of_pos (by simp [h.1]),yss]
   dsimp only
   omega
  ·have:=ih os
   unfold yaq at this ⊢
   cases t
   ·rw [List.filter_cons_of_pos (by simp),List.filter_cons_of_pos (by simp),yss,yss]
    dsimp only
    omega
   ·rw [List.filter_cons_of_neg (by simp),List.filter_cons_of_neg (by simp)]
    exact this
theorem ykj (P:Lk.Obj->Prop):∀ (k:Nat) (ms:List (Lk.Obj×Bool)) (os:List Lk.Obj),(∀ m∈ms,P m.1)->(∀ o∈os,P o)->∀ o∈Ln.takeArch k ms os,P o:=by
 intro k
 induction k with
 | zero=>intro ms os _ h; exact h
 | succ k ih =>
  intro ms os hm ho
  have q:=ypq P ms os hm ho
  unfold Ln.takeArch
  split
  ·refine ih _ _ (fun m hx=>?_) q
   have:m.1∈ms.map Prod.fst:=by rw [<- ypr ms os]; exact List.mem_map_of_mem hx
   obtain ⟨y,hy,e⟩:=List.mem_map.1 this
   rw [<- e]
   exact hm y hy
  ·exact q
theorem ykk:∀ (k:Nat) (ms:List (Lk.Obj×Bool)) (os:List Lk.Obj),(Ln.takeArch k ms os).length<=os.length+yaq ms:=by
 intro k
 induction k with
 | zero=>intro ms os; unfold Ln.takeArch; omega
 | succ k ih =>
  intro ms os
  have q:=yps ms os
  unfold Ln.takeArch
  split
  ·have:=ih (Ln.pass ms os).1 (Ln.pass ms os).2.1
   omega
  ·omega
theorem ykl (P:Lk.Obj->Prop) (os:List Lk.Obj) (x:Bool×List Lk.Obj) (hx:∀ o∈x.2,P o) (ho:∀ o∈os,P o):∀ o∈Ln.takeFile os x,P o:=by
 unfold Ln.takeFile
 split
 ·refine ykj P _ _ _ (fun m hm=>?_) ho
  unfold yaG at hm
  obtain ⟨y,hy,rfl⟩:=List.mem_map.1 hm
  exact hx y hy
 ·intro o h
  rcases List.mem_append.1 h with q | q
  ·exact ho o q
  ·exact hx o q
theorem ykn (os:List Lk.Obj) (x:Bool×List Lk.Obj):(Ln.takeFile os x).length<=os.length+x.2.length:=by
 unfold Ln.takeFile
 split
 ·have:=ykk (x.2.length+1) (yaG x.2) os
  rw [ydB] at this
  exact this
 ·rw [ysq]; omega
theorem ylw (P:Lk.Obj->Prop):∀ (xs:List (Bool×List Lk.Obj)) (os:List Lk.Obj),(∀ x∈xs,∀ o∈x.2,P o)->(∀ o∈os,P o)->∀ o∈xs.foldl Ln.takeFile os,P o:=by
 intro xs
 induction xs with
 | nil=>intro os _ h; exact h
 | cons x xs ih =>
  intro os hx ho
  exact ih _ (fun y hy=>hx y (by simp [hy])) (ykl P os x (hx x (by simp)) ho)
theorem ylx:∀ (xs:List (Bool×List Lk.Obj)) (os:List Lk.Obj),(∀ x∈xs,x.2.length<=6)->(xs.foldl Ln.takeFile os).length<=os.length+6 * xs.length:=by
 intro xs
 induction xs with
 | nil=>intro os _; simp
 | cons x xs ih =>
  intro os hx
  have a:=ykn os x
  have b:=hx x (by simp)
  have c:=ih (Ln.takeFile os x) (fun y hy=>hx y (by simp [hy]))
  rw [ysz,yss]
  omega
theorem yjs {l:List UInt8} {a:Bool} {os:List Lk.Obj} (h:yaU l a os):(∀ o∈os,yv o)/\os.length<=6:=by
 rcases h with ⟨-,h1,rfl⟩ | ⟨-,-,ms,h1,rfl⟩
 ·exact ⟨fun o ho=>by simp at ho; subst ho; exact h1.1,by simp⟩
 ·refine ⟨fun o ho=>?_,by rw [ysv]; exact h1.1.2⟩
  obtain ⟨m,hm,rfl⟩:=List.mem_map.1 ho
  exact (h1.2.1 m hm).1
instance im_meet_dec (a b c d:Int):Decidable (Im.Meet a b c d):=by unfold Im.Meet; infer_instance
instance im_fits_dec (m:Im.Img):Decidable (Im.Fits m):=by unfold Im.Fits; infer_instance
namespace Ln
def placesFlt (img:Im.Img) (ms:List Mod):Flt:=if ¬ Im.Fits img then ⟨36,0,[]⟩ else if (checkReach ms).e≠0 then checkReach ms else if (Im.code img img.start).isSome then ok else ⟨35,0,[]⟩
def linkMods (os:List Lk.Obj) (bt bf bd:Int):List Mod:=layout bt bf bd (resAll os (os.map bare))
def linkImg (os:List Lk.Obj) (bt bf bd:Int):Im.Img:=image (linkMods os bt bf bd) (named os startN) bt bf bd (noughts bd (shorten (lay bt bf bd (resAll os (os.map bare)))))
end Ln
theorem ykO {ms:List Ln.Mod} (st:Ln.Spot) (bt bf bd no:Int) (hv:∀ m∈ms,yv m.obj):W32 (Ln.image ms st bt bf bd no).T/\W32 (Ln.image ms st bt bf bd no).F/\W32 (Ln.image ms st bt bf bd no).D :=
 ⟨yfD ms 1 bt 19 (by omega) ms [] hv (fun x hx=>by simp at hx),yfD ms 2 bf 19 (by omega) ms [] hv (fun x hx=>by simp at hx),yfD ms 3 bd 0 (by omega) ms [] hv (fun x hx=>by simp at hx)⟩
theorem ykT {ms:List Ln.Mod} {bt bf bd:Int} (hv:∀ m∈ms,yv m.obj) (hl:ms.length<=48) (ht:0<=bt/\bt<=1073741824/\bt % 4=0) (hf:0<=bf/\bf<=1073741824/\bf % 4=0) (hd:0<=bd/\bd<=1073741824/\bd % 4=0) :
  (Ln.region (Ln.lay bt bf bd ms) 1 bt 19 (Ln.lay bt bf bd ms) []).length<=65535/\(Ln.region (Ln.lay bt bf bd ms) 2 bf 19 (Ln.lay bt bf bd ms) []).length<=65535/\(Ln.region (Ln.lay bt bf bd ms) 3 bd 0 (Ln.lay bt bf bd ms) []).length<=65535:=by
 have hv2:=yaJ (ydh ms bt bf bd) hv
 have ll:=yfU ms bt bf bd
 have ch:=yiD ms bt bf bd
 have c1:yco 1 Ln.Mod.text (Ln.lay bt bf bd ms) bt (ycc 1 ms bt):=yfw 1 Ln.Mod.text (fun _ _=>rfl) _ _ _ _ ch.1
 have c2:yco 2 Ln.Mod.far (Ln.lay bt bf bd ms) bf (ycc 2 ms bf):=yfw 2 Ln.Mod.far (fun _ _=>rfl) _ _ _ _ ch.2
 have c3:yci (Ln.lay bt bf bd ms) bd (Ln.dataEnd ms bd):=yiC _ _ _ _ (yhK ms bt bf bd)
 have e1:=yhj (Ln.lay bt bf bd ms) 1 (.inl rfl) Ln.Mod.text bt 19 ht.2.2 yja (Ln.lay bt bf bd ms) [] bt _ hv2 ht.1 (by rw [ll]; omega) (by simp) c1
 have e2:=yhj (Ln.lay bt bf bd ms) 2 (.inr rfl) Ln.Mod.far bf 19 hf.2.2 ykC (Ln.lay bt bf bd ms) [] bf _ hv2 hf.1 (by rw [ll]; omega) (by simp) c2
 have e3:=ylf (Ln.lay bt bf bd ms) bd 0 hd.2.2 (Ln.lay bt bf bd ms) [] bd _ hv2 hd.1 (by rw [ll]; omega) (by simp) c3
 have r1:=yff 1 (.inl rfl) ms bt hv ht.1 (by omega)
 have r2:=yff 2 (.inr rfl) ms bf hv hf.1 (by omega)
 have r3:=yfs ms bd hv hd.1 (by omega)
 simp only [Int.cast_ofNat_Int] at e1 e2
 omega
theorem ycJ {a:Int} (h:Im.Base a):0<=a/\a<=1073741824/\a % 4=0:=by
 obtain ⟨⟨h1,h2⟩,h3⟩:=h
 omega
structure yqL (os:List Lk.Obj) (bt bf bd:Int):Prop where
 valid:∀ m∈Ln.linkMods os bt bf bd,yv m.obj
 nice:∀ m∈Ln.linkMods os bt bf bd,yI os.length m
 low:∀ m∈Ln.linkMods os bt bf bd,MLow m
 mean:∀ m∈Ln.linkMods os bt bf bd,∀ s∈m.means,SLow s
 start:yiW os.length (Ln.named os Ln.startN)
 tame:Im.Tame (Ln.linkImg os bt bf bd)
theorem yqy {os:List Lk.Obj} {bt bf bd:Int} (hv:∀ o∈os,yv o) (hl:os.length<=48) (ht:Im.Base bt) (hf:Im.Base bf) (hd:Im.Base bd):yqL os bt bf bd:=by
 have A:=yip os hv
 have t:=ycJ ht
 have f:=ycJ hf
 have d:=ycJ hd
 have len:(Ln.resAll os (os.map Ln.bare)).length=os.length:=by simp [Ln.resAll]
 have rv:∀ m∈Ln.resAll os (os.map Ln.bare),yv m.obj:=fun m hm=>(A m hm).obj
 have V:∀ m∈Ln.linkMods os bt bf bd,yv m.obj:=yaJ (ymz _ bt bf bd) rv
 have low:∀ m∈Ln.linkMods os bt bf bd,MLow m:=ymy rv (by omega) (by omega) (by omega) (by omega)
 have sl:=yin os Ln.startN hv
 have sv:=yaJ (ycA _) (yaJ (ydh _ bt bf bd) rv)
 have slen:(Ln.shorten (Ln.lay bt bf bd (Ln.resAll os (os.map Ln.bare)))).length=os.length:=by unfold Ln.shorten; rw [ysv,yfU,len]
 have L:=ykT (ms:=Ln.shorten (Ln.lay bt bf bd (Ln.resAll os (os.map Ln.bare)))) (bt:=bt) (bf:=bf) (bd:=bd) sv (by omega) t f d
 refine ⟨V,ykU (fun m hm=>(A m hm).nice) rv (by omega) (by omega) (by omega) (by omega),low,ype Ln.Mod.means (P:=fun l=>∀ s∈l,SLow s) (yjG _ bt bf bd) (fun m hm=>(A m hm).low),⟨?_,fun i hi=>ygy os _ i hi⟩,?_⟩
 ·unfold SLow at sl; omega
 ·have s:=yfF low (Ln.named os Ln.startN) sl
  have r3:=yfs _ bd sv d.1 (by omega)
  have r4:=yjj _ (Ln.dataEnd (Ln.shorten (Ln.lay bt bf bd (Ln.resAll os (os.map Ln.bare)))) bd) sv (by omega) (by omega)
  refine ⟨?_,?_,?_,?_,L,?_⟩
  ·show 0<=Ln.spotAddr _ _/\Ln.spotAddr _ _ < _
   exact ⟨s.1,by have:=s.2; omega⟩
  ·show 0<=bt/\bt < 4294967296; omega
  ·show 0<=bf/\bf < 4294967296; omega
  ·show 0<=bd/\bd < 4294967296; omega
  ·show 0<=Ln.noughts bd _/\Ln.noughts bd _<=65535
   unfold Ln.noughts
   omega
set_option maxRecDepth 100000 in
theorem ygL (W0:World) (P:Nat) (bt bf bd:Int) (vm:Value) (bl gl:List Nat) (ms:List Ln.Mod) (st:Ln.Spot) (no:Int) (I:Nat) (img:Im.Img) (W:World) (h:ProgAt W0 P bt bf bd vm bl gl ms st no W) (hn:∀ m∈ms,yI bl.length m) (hi:yah W I img) (ht:Im.Tame img) :
  Calls Tryz.prog 41 #[ptrV P,ptrV I] W fun e W'=>e = .returned (lfA (Ln.placesFlt img ms))/\W.grownBy W' none:=by
 have HP:=hid h
 have HI:=hid hi
 have HN:=hid hn
 have HT:=hid ht
 have R:=hid (show Ln.placesFlt img ms=if ¬ Im.Fits img then ⟨36,0,[]⟩ else if (Ln.checkReach ms).e≠0 then Ln.checkReach ms else if (Im.code img img.start).isSome then Ln.ok else ⟨35,0,[]⟩ from rfl)
 have G0:=hid (ysp W (.cells #[.int .i64 0,.int .i64 0,.string ⟨#[]⟩] 45) none)
 have B0:=hid (yc.new W #[.int .i64 0,.int .i64 0,.string ⟨#[]⟩] 45)
 have cF:=hid (fun V (hg:W.grownBy V none)=>yex I img V (HI.o.kept hg) ht)
 have cR:=hid (fun V (hg:W.grownBy V none)=>yhE W0 P bt bf bd vm bl gl ms st no V (HP.o.kept hg) hn)
 have cC:=hid (fun V (hg:W.grownBy V none)=>yeM I img img.start V (HI.o.kept hg) ht ht.start.1 ht.start.2)
 clear h hn hi ht
 unfold ptrV at *
 go_enter Tryz.func41,Tryz.ntmps41
 go_wp2_with fail
 refine (cF.o _ G0.o).mono ?_
 rintro e V1 ⟨tv,h1⟩
 have G1:=hid (ya G0.o h1)
 have BR:=hid (B0.o.grown h1 (by simp))
 clear h1 cF
 rcases tv.split with ⟨rfl,hp⟩ | ⟨rfl,hp⟩
 ·have E:=hid (show Ln.placesFlt img ms=⟨36,0,[]⟩ by rw [R.o,if_pos hp.o])
  clear tv hp
  have z0:V1.cell? ⟨W.heap.size,0,none⟩=some (.int .i64 0):=BR.o.cell 0
  have z1:V1.cell? ⟨W.heap.size,1,none⟩=some (.int .i64 0):=BR.o.cell 1
  have z2:V1.cell? ⟨W.heap.size,2,none⟩=some (.string ⟨#[]⟩):=BR.o.cell 2
  have f0:=BR.o.free 0
  have f1:=BR.o.free 1
  have f2:=BR.o.free 2
  go_wp2
  have F:=((BR.o.set 0 (.int .i64 36)).set 1 (.int .i64 0)).set 2 (.string ⟨#[]⟩)
  have h0:=F.cell 0
  have h1:=F.cell 1
  have h2:=F.cell 2
  simp only [yso,ysm,ysn,ysk,ysl,ysj] at h0 h1 h2
  refine bodyPost_ret (v:=lfA ⟨36,0,[]⟩) ?_ rfl ⟨by rw [E.o],yx G1.o _ (Nat.le_refl _) _ _ _⟩
  clear F z0 z1 z2 f0 f1 f2
  generalize World.setCell _ _ _=WF at *
  simp [results,Tryz.results41,go_sem,lfA,bs,h0,h1,h2]
 ·have R2:=hid (show Ln.placesFlt img ms=if (Ln.checkReach ms).e≠0 then Ln.checkReach ms else if (Im.code img img.start).isSome then Ln.ok else ⟨35,0,[]⟩ by rw [R.o,if_neg (not_not_intro hp.o)])
  clear tv hp R
  generalize Ln.checkReach ms=f at *
  obtain ⟨fe,fa,fn⟩:=f
  unfold lfA at cR
  dsimp only at *
  go_wp2_with fail
  refine (cR.o _ G1.o).mono ?_
  rintro e V2 ⟨rfl,h2⟩
  have A2:=ysp V2 (.cells #[.int .i64 fe,.int .i64 fa,.string (bs fn)] 45) none
  have G2:=hid (ya (ya G1.o h2) A2)
  have BX:=hid (yc.new V2 #[.int .i64 fe,.int .i64 fa,.string (bs fn)] 45)
  have BR2:=hid (BR.o.grown (ya h2 A2) (by simp))
  have hlt:=hid (Nat.lt_of_lt_of_le BR.o.lt h2.size)
  clear h2 A2 cR BR
  have hne:W.heap.size≠V2.heap.size:=by have:=hlt.o; omega
  have BR:=BR2
  clear BR2
  by_cases he:fe=0
  ·subst he
   have R3:=hid (show Ln.placesFlt img ms=if (Im.code img img.start).isSome then Ln.ok else ⟨35,0,[]⟩ by rw [R2.o,if_neg (by simp)])
   have i0:(V2.alloc (.cells #[.int .i64 0,.int .i64 fa,.string (bs fn)] 45)).cell? ⟨I,0,none⟩=some (.int .i64 img.start):=by
    obtain ⟨vt,vf,vd,hb,-⟩:=HI.o
    exact yd (hb.cell 0) G2.o
   go_wp2_with fail
   refine (cC.o _ G2.o).mono ?_
   rintro e V3 ⟨rfl,n,hw⟩
   subst hw
   have G3:=hid (ye G2.o n)
   have BR:=hid (BR.o.drewN n)
   clear i0 cC G2
   generalize (V2.alloc (.cells #[.int .i64 0,.int .i64 fa,.string (bs fn)] 45)).drewN n=V3 at *
   cases hc:(Im.code img img.start).isSome
   ·have E:=hid (show Ln.placesFlt img ms=⟨35,0,[]⟩ by rw [R3.o,hc]; rfl)
    clear hc
    have z0:V3.cell? ⟨W.heap.size,0,none⟩=some (.int .i64 0):=BR.o.cell 0
    have z1:V3.cell? ⟨W.heap.size,1,none⟩=some (.int .i64 0):=BR.o.cell 1
    have z2:V3.cell? ⟨W.heap.size,2,none⟩=some (.string ⟨#[]⟩):=BR.o.cell 2
    have f0:=BR.o.free 0
    have f1:=BR.o.free 1
    have f2:=BR.o.free 2
    go_wp2
    have F:=((BR.o.set 0 (.int .i64 35)).set 1 (.int .i64 0)).set 2 (.string ⟨#[]⟩)
    have h0:=F.cell 0
    have h1:=F.cell 1
    have h2:=F.cell 2
    simp only [yso,ysm,ysn,ysk,ysl,ysj] at h0 h1 h2
    refine bodyPost_ret (v:=lfA ⟨35,0,[]⟩) ?_ rfl ⟨by rw [E.o],yx G3.o _ (Nat.le_refl _) _ _ _⟩
    clear F z0 z1 z2 f0 f1 f2
    generalize World.setCell _ _ _=WF at *
    simp [results,Tryz.results41,go_sem,lfA,bs,h0,h1,h2]
   ·have E:=hid (show Ln.placesFlt img ms=Ln.ok by rw [R3.o,hc]; rfl)
    clear hc
    have z0:V3.cell? ⟨W.heap.size,0,none⟩=some (.int .i64 0):=BR.o.cell 0
    have z1:V3.cell? ⟨W.heap.size,1,none⟩=some (.int .i64 0):=BR.o.cell 1
    have z2:V3.cell? ⟨W.heap.size,2,none⟩=some (.string ⟨#[]⟩):=BR.o.cell 2
    have f0:=BR.o.free 0
    have f1:=BR.o.free 1
    have f2:=BR.o.free 2
    go_wp2
    have F:=((BR.o.set 0 (.int .i64 0)).set 1 (.int .i64 0)).set 2 (.string ⟨#[]⟩)
    have h0:=F.cell 0
    have h1:=F.cell 1
    have h2:=F.cell 2
    simp only [yso,ysm,ysn,ysk,ysl,ysj] at h0 h1 h2
    refine bodyPost_ret (v:=lfA Ln.ok) ?_ rfl ⟨by rw [E.o],yx G3.o _ (Nat.le_refl _) _ _ _⟩
    clear F z0 z1 z2 f0 f1 f2
    generalize World.setCell _ _ _=WF at *
    simp [results,Tryz.results41,go_sem,lfA,Ln.ok,bs,h0,h1,h2]
  ·have d1:(fe == 0)=false:=by simpa using he
   have d2:(fe != 0)=true:=by simpa using he
   have E:=hid (show Ln.placesFlt img ms=⟨fe,fa,fn⟩ by rw [R2.o,if_pos he])
   clear he
   have z0:(V2.alloc (.cells #[.int .i64 fe,.int .i64 fa,.string (bs fn)] 45)).cell? ⟨W.heap.size,0,none⟩=some (.int .i64 0):=BR.o.cell 0
   have z1:(V2.alloc (.cells #[.int .i64 fe,.int .i64 fa,.string (bs fn)] 45)).cell? ⟨W.heap.size,1,none⟩=some (.int .i64 0):=BR.o.cell 1
   have z2:(V2.alloc (.cells #[.int .i64 fe,.int .i64 fa,.string (bs fn)] 45)).cell? ⟨W.heap.size,2,none⟩=some (.string ⟨#[]⟩):=BR.o.cell 2
   have f0:=BR.o.free 0
   have f1:=BR.o.free 1
   have f2:=BR.o.free 2
   go_wp2
   have F:=((BR.o.set 0 (.int .i64 fe)).set 1 (.int .i64 fa)).set 2 (.string (bs fn))
   have h0:=F.cell 0
   have h1:=F.cell 1
   have h2:=F.cell 2
   simp only [yso,ysm,ysn,ysk,ysl,ysj] at h0 h1 h2
   refine bodyPost_ret (v:=lfA ⟨fe,fa,fn⟩) ?_ rfl ⟨by rw [E.o],yx G2.o _ (Nat.le_refl _) _ _ _⟩
   clear F z0 z1 z2 f0 f1 f2
   generalize World.setCell _ _ _=WF at *
   simp [results,Tryz.results41,go_sem,lfA,bs,h0,h1,h2]
theorem yie (b:Nat) (r:Lk.Rel) (l:List UInt8) (w:World) (h:WrAt w b l) (hl:l.length<=1048576) (hg:Lk.goodRel r) :
  Calls Tryz.prog 61 #[.pointer (some ⟨b,0,none⟩),.agg #[.int .i64 r.sect,.int .i64 r.off,.int .i64 r.kind,.int .i64 r.sym,.int .i64 r.addend]] w fun e w'=>e = .returned (.tuple #[])/\WrAt w' b (l ++ Lk.relB r)/\Wk b w w':=by
 obtain ⟨⟨hs0,hs1⟩,⟨hk0,hk1⟩,⟨ho0,ho1⟩,⟨hy0,hy1⟩,ha0,ha1⟩:=hg
 have hvb:w.heap.size≠b:=by obtain ⟨_,_,h1,_⟩:=h; have:=h1.lt; omega
 have S1:=hid (St3.begin h #[.int .i64 r.sect,.int .i64 r.off,.int .i64 r.kind,.int .i64 r.sym,.int .i64 r.addend] 102)
 have c1:=hid (fun W (h:WrAt W b (l))=>yG b r.sect 1 1 rfl (l) W h (by omega) (by omega) (by omega) (by omega))
 have c2:=hid (fun W (h:WrAt W b (l ++ Lk.le r.sect 1))=>yG b r.kind 1 1 rfl (l ++ Lk.le r.sect 1) W h (by simp only [ysq,Lk.le_length]; omega) (by omega) (by omega) (by omega))
 have c3:=hid (fun W (h:WrAt W b (l ++ Lk.le r.sect 1 ++ Lk.le r.kind 1))=>yG b r.off 2 2 rfl (l ++ Lk.le r.sect 1 ++ Lk.le r.kind 1) W h (by simp only [ysq,Lk.le_length]; omega) (by omega) (by omega) (by omega))
 have c4:=hid (fun W (h:WrAt W b (l ++ Lk.le r.sect 1 ++ Lk.le r.kind 1 ++ Lk.le r.off 2))=>yG b r.sym 1 1 rfl (l ++ Lk.le r.sect 1 ++ Lk.le r.kind 1 ++ Lk.le r.off 2) W h (by simp only [ysq,Lk.le_length]; omega) (by omega) (by omega) (by omega))
 have c5:=hid (fun W (h:WrAt W b (l ++ Lk.le r.sect 1 ++ Lk.le r.kind 1 ++ Lk.le r.off 2 ++ Lk.le r.sym 1))=>yG b r.addend 2 2 rfl (l ++ Lk.le r.sect 1 ++ Lk.le r.kind 1 ++ Lk.le r.off 2 ++ Lk.le r.sym 1) W h (by simp only [ysq,Lk.le_length]; omega) (by omega) (by omega) (by omega))
 clear h
 go_enter Tryz.func61,Tryz.ntmps61
 go_wp2_with fail
 refine Calls.at_world (St3 w b w.heap.size 102 #[.int .i64 r.sect,.int .i64 r.off,.int .i64 r.kind,.int .i64 r.sym,.int .i64 r.addend] l) S1.o ?_
 clear S1
 intro W1 s1
 have S1:=hid s1
 clear s1
 refine (c1.o W1 S1.o.wr).mono ?_
 rintro e W2 ⟨rfl,hw,hk⟩
 have S2:=hid (S1.o.step hvb (by decide) hw hk)
 clear hw hk
 have k2:=S2.o.own.cell 2
 go_wp2_with fail
 refine (c2.o W2 S2.o.wr).mono ?_
 rintro e W3 ⟨rfl,hw,hk⟩
 have S3:=hid (S2.o.step hvb (by decide) hw hk)
 clear hw hk k2
 have k3:=S3.o.own.cell 1
 go_wp2_with fail
 refine (c3.o W3 S3.o.wr).mono ?_
 rintro e W4 ⟨rfl,hw,hk⟩
 have S4:=hid (S3.o.step hvb (by decide) hw hk)
 clear hw hk k3
 have k4:=S4.o.own.cell 3
 go_wp2_with fail
 refine (c4.o W4 S4.o.wr).mono ?_
 rintro e W5 ⟨rfl,hw,hk⟩
 have S5:=hid (S4.o.step hvb (by decide) hw hk)
 clear hw hk k4
 have k5:=S5.o.own.cell 4
 go_wp2_with fail
 refine (c5.o W5 S5.o.wr).mono ?_
 rintro e W6 ⟨rfl,hw,hk⟩
 have S6:=hid (S5.o.step hvb (by decide) hw hk)
 clear hw hk k5
 go_wp2
 go_end0
 refine ⟨rfl,?_,S6.o.wk⟩
 have:=S6.o.wr
 simpa [Lk.relB] using this
def yeL (w:World) (b:Nat) (ao:Option Addr) (ys:List Lk.Sym):Prop :=
 0 < ys.length->∃ g cs,ao=some ⟨g,0,none⟩/\g≠b/\yc w g cs 100/\∀ i (h:i < ys.length),cs[i * 4]?=some (.string (bs ys[i].name))/\cs[i * 4+1]?=some (.int .i64 ys[i].bind)/\cs[i * 4+2]?=some (.int .i64 ys[i].sect)/\cs[i * 4+3]?=some (.int .i64 ys[i].off)
theorem yeL.kept {w w':World} {b:Nat} {ao:Option Addr} {xs:List Lk.Sym} (h:yeL w b ao xs) (hk:Wk b w w'):yeL w' b ao xs:=by
 intro h0
 obtain ⟨g,cs,h1,h2,h3,h4⟩:=h h0
 exact ⟨g,cs,h1,h2,hk.2 g cs _ h2 (by decide) h3,h4⟩
def yeH (w:World) (b:Nat) (ao:Option Addr) (ys:List Lk.Rel):Prop :=
 0 < ys.length->∃ g cs,ao=some ⟨g,0,none⟩/\g≠b/\yc w g cs 102/\∀ i (h:i < ys.length),cs[i * 5]?=some (.int .i64 ys[i].sect)/\cs[i * 5+1]?=some (.int .i64 ys[i].off)/\cs[i * 5+2]?=some (.int .i64 ys[i].kind)/\cs[i * 5+3]?=some (.int .i64 ys[i].sym)/\cs[i * 5+4]?=some (.int .i64 ys[i].addend)
theorem yeH.kept {w w':World} {b:Nat} {ao:Option Addr} {xs:List Lk.Rel} (h:yeH w b ao xs) (hk:Wk b w w'):yeH w' b ao xs:=by
 intro h0
 obtain ⟨g,cs,h1,h2,h3,h4⟩:=h h0
 exact ⟨g,cs,h1,h2,hk.2 g cs _ h2 (by decide) h3,h4⟩
theorem yjQ {w:World} {base b:Nat} {e:TypeId} {size:Nat} {ao:Option Addr} {n cap:Nat} {xs:List Value} (h:w.ownsRow base e size (.slice ao n cap) n xs) (hn:0 < n) (hb:∀ g,Value.ownBlock (.slice ao n cap)=some g->g≠b) :
  ∃ g cs,ao=some ⟨g,0,none⟩/\g≠b/\yc w g cs e/\∀ j,j < n * size->cs[j]?=xs[j]?:=by
 rcases h.2 with ⟨h1,h2⟩ | ⟨g,cap',cur,hv,_,hh,_,_,hcs,htk⟩
 ·omega
 ·simp only [Value.slice.injEq] at hv
  obtain ⟨rfl,_,rfl⟩:=hv
  refine ⟨g,cur,rfl,hb g rfl,hh,fun j hj=>?_⟩
  have e:(cur.toList.take (n * size))[j]?=xs[j]?:=by rw [htk]
  rw [List.getElem?_take,if_pos hj] at e
  rw [<- Array.getElem?_toList,e]
theorem yjw {α:Type} (f:α->List Value) (size:Nat) (hf:∀ x,(f x).length=size) (l:List α):(l.flatMap f).length=l.length * size:=by
 induction l with
 | nil=>simp
 | cons y t ih=>rw [List.flatMap_cons,ysq,ih,hf,yss,Nat.succ_mul]; omega
theorem yeL.of_own {w:World} {base b:Nat} {ao:Option Addr} {n cap:Nat} {ys:List Lk.Sym} (h:w.ownsRow base 100 4 (.slice ao n cap) n (ys.flatMap symV)) (hb:∀ g,Value.ownBlock (.slice ao n cap)=some g->g≠b):yeL w b ao ys:=by
 intro h0
 have hl:=yjw symV 4 (fun _=>rfl) ys
 have hn:ys.length=n:=by have:=h.1; omega
 obtain ⟨g,cs,h1,h2,h3,h4⟩:=yjQ h (by omega) hb
 refine ⟨g,cs,h1,h2,h3,fun i hi=>?_⟩
 have q:=fun j (hj:j < 4)=>(h4 (i * 4+j) (by omega)).trans (yde symV 4 (fun _=>rfl) ys i j hi hj)
 exact ⟨q 0 (by omega),q 1 (by omega),q 2 (by omega),q 3 (by omega)⟩
theorem yeH.of_own {w:World} {base b:Nat} {ao:Option Addr} {n cap:Nat} {ys:List Lk.Rel} (h:w.ownsRow base 102 5 (.slice ao n cap) n (ys.flatMap relV)) (hb:∀ g,Value.ownBlock (.slice ao n cap)=some g->g≠b):yeH w b ao ys:=by
 intro h0
 have hl:=yjw relV 5 (fun _=>rfl) ys
 have hn:ys.length=n:=by have:=h.1; omega
 obtain ⟨g,cs,h1,h2,h3,h4⟩:=yjQ h (by omega) hb
 refine ⟨g,cs,h1,h2,h3,fun i hi=>?_⟩
 have q:=fun j (hj:j < 5)=>(h4 (i * 5+j) (by omega)).trans (yde relV 5 (fun _=>rfl) ys i j hi hj)
 exact ⟨q 0 (by omega),q 1 (by omega),q 2 (by omega),q 3 (by omega),q 4 (by omega)⟩
structure ObjB (W:World) (b g:Nat) (o:Lk.Obj) (at_:Option Addr) (ct:Nat) (af:Option Addr) (cf:Nat) (ad:Option Addr) (cd:Nat) (aa:Option Addr) (ca:Nat) (as_:Option Addr) (cs:Nat) (ar:Option Addr) (cr:Nat):Prop where
 blk:yc W g #[.slice at_ o.text.length ct,.slice af o.far.length cf,.slice ad o.data.length cd,.int .i64 o.bss,.slice aa o.align.length ca,.slice as_ o.syms.length cs,.slice ar o.rels.length cr] 71
 ne:g≠b
 text:ybc W b at_ o.text
 far:ybc W b af o.far
 data:ybc W b ad o.data
 align:ybc W b aa o.align
 syms:yeL W b as_ o.syms
 rels:yeH W b ar o.rels
section
variable {W W':World} {b g:Nat} {o:Lk.Obj} {at_ af ad aa as_ ar:Option Addr} {ct cf cd ca cs cr:Nat}
theorem ObjB.kept (h:ObjB W b g o at_ ct af cf ad cd aa ca as_ cs ar cr) (hk:Wk b W W'):ObjB W' b g o at_ ct af cf ad cd aa ca as_ cs ar cr :=
 ⟨hk.2 g _ _ h.ne (by decide) h.blk,h.ne,h.text.kept hk,h.far.kept hk,h.data.kept hk,h.align.kept hk,h.syms.kept hk,h.rels.kept hk⟩
end
theorem yr.toB {W:World} {g:Nat} {o:Lk.Obj} (h:yr W g o) (ob:Obj):∃ at_ ct af cf ad cd aa ca as_ cs ar cr,ObjB (W.alloc ob) W.heap.size g o at_ ct af cf ad cd aa ca as_ cs ar cr:=by
 obtain ⟨at_,ct,af,cf,ad,cd,aa,ca,as_,cs,ar,cr,hb,h1,h2,h3,h4,h5,h6⟩:=h.open
 have ne:∀ {e:TypeId} {size:Nat} {ao:Option Addr} {n cap:Nat} {xs:List Value},W.ownsRow 0 e size (.slice ao n cap) n xs->∀ k,Value.ownBlock (.slice ao n cap)=some k->k≠W.heap.size:=fun h k hk=>by have:=(h.lt k hk).2; omega
 refine ⟨at_,ct,af,cf,ad,cd,aa,ca,as_,cs,ar,cr,hb.grown (ysp _ _ none) (by simp),by have:=hb.lt; omega,?_,?_,?_,?_,?_,?_⟩
 ·exact ybc.of_own (h1.alloc _) (ne h1)
 ·exact ybc.of_own (h2.alloc _) (ne h2)
 ·exact ybc.of_own (h3.alloc _) (ne h3)
 ·exact ybc.of_own (h4.alloc _) (ne h4)
 ·exact yeL.of_own (h5.alloc _) (ne h5)
 ·exact yeH.of_own (h6.alloc _) (ne h6)
structure St4 (w:World) (b g:Nat) (o:Lk.Obj) (at_:Option Addr) (ct:Nat) (af:Option Addr) (cf:Nat) (ad:Option Addr) (cd:Nat) (aa:Option Addr) (ca:Nat) (as_:Option Addr) (cs:Nat) (ar:Option Addr) (cr:Nat) (l:List UInt8) (W:World):Prop where
 wr:WrAt W b l
 ob:ObjB W b g o at_ ct af cf ad cd aa ca as_ cs ar cr
 be:Below b w W
section
variable {w W W':World} {b g:Nat} {o:Lk.Obj} {at_ af ad aa as_ ar:Option Addr} {ct cf cd ca cs cr:Nat} {l l':List UInt8}
theorem St4.step (h:St4 w b g o at_ ct af cf ad cd aa ca as_ cs ar cr l W) (hw:WrAt W' b l') (hk:Wk b W W'):St4 w b g o at_ ct af cf ad cd aa ca as_ cs ar cr l' W' :=
 ⟨hw,h.ob.kept hk,h.be.trans hk.1⟩
end
theorem yis {α:Type} (f:α->List UInt8) (ys:List α) (k:Nat) (h:k < ys.length):(ys.take (k+1)).flatMap f=(ys.take k).flatMap f ++ f ys[k]:=by
 rw [List.take_succ_eq_append_getElem h,List.flatMap_append]
 simp
theorem yhH {α:Type} (f:α->List UInt8) (c:Nat) (ys:List α) (hf:∀ y∈ys,(f y).length<=c):(ys.flatMap f).length<=ys.length * c:=by
 induction ys with
 | nil=>simp
 | cons y t ih =>
  have h1:=hf y (by simp)
  have h2:=ih (fun z hz=>hf z (by simp [hz]))
  rw [List.flatMap_cons,ysq,yss,Nat.succ_mul]
  omega
theorem yfu {α:Type} (f:α->List UInt8) (c k:Nat) (ys:List α) (hf:∀ y∈ys,(f y).length<=c):((ys.take k).flatMap f).length<=ys.length * c:=by
 have h1:=yhH f c (ys.take k) (fun y hy=>hf y (List.mem_of_mem_take hy))
 have h2:(ys.take k).length * c<=ys.length * c:=Nat.mul_le_mul_right c (by simp; omega)
 omega
theorem ylV (y:Lk.Sym) (h:Lk.goodSym y):(Lk.symB y).length<=260:=by
 have:=h.1
 simp only [Lk.symB,ysq,Lk.le_length]
 omega
theorem ylQ (r:Lk.Rel):(Lk.relB r).length<=7:=by
 simp only [Lk.relB,ysq,Lk.le_length]
 omega
theorem you (g:Nat) (o:Lk.Obj) (w:World) (ht:Tabs w) (h:yr w g o) (hgood:Lk.goodObj o) (hv:yv o) :
  Calls Tryz.prog 36 #[.pointer (some ⟨g,0,none⟩)] w fun e w'=>e = .returned (.tuple #[.string (bs (Lk.objB o)),.int .i64 0])/\w.grownBy w' none:=by
 have cV:=hid (yfJ g o w ht h (ydw hgood))
 have HV:=hid hv
 have HO:=hid h
 have HGO:=hid hgood
 obtain ⟨z1,z2,z3,z4,z5,z6,z7,z8,z9,z10,z11,z12,z13⟩:=hgood
 obtain ⟨⟨s1,s2,s3⟩,s4,s5,s6⟩:=hv.1
 have HS:=hid z9
 have HRL:=hid z10
 have HW1:=hid z6
 have HWt:=hid z11
 have HWf:=hid z12
 have HWd:=hid z13
 have z5a:o.align.length<=4:=by omega
 clear ht h hv z9 z10 z6 z11 z12 z13 z5
 go_enter Tryz.func36,Tryz.ntmps36
 go_wp2_with fail
 refine cV.o.mono ?_
 rintro e W1 ⟨tv,q1⟩
 obtain rfl:=yfI tv HV.o
 have Q1:=hid q1
 have HO1:=hid (HO.o.kept q1)
 clear tv q1 cV
 go_wp2_with fail
 obtain ⟨at_,ct,af,cf,ad,cd,aa,ca,as_,cs,ar,cr,hob⟩:=HO1.o.toB (.cells #[.slice none 0 0] 105)
 have S0:Hd (St4 W1 W1.heap.size g o at_ ct af cf ad cd aa ca as_ cs ar cr [] (W1.alloc (.cells #[.slice none 0 0] 105))):=⟨yky W1,hob,(Below.refl _ _).alloc (Nat.le_refl _) _⟩
 clear hob
 generalize hbb:W1.heap.size=b at *
 have HBB:=hid hbb
 clear hbb
 refine Calls.at_world (St4 W1 b g o at_ ct af cf ad cd aa ca as_ cs ar cr []) S0.o ?_
 clear S0
 intro V0 h0
 have S0:=hid h0
 clear h0
 refine (yfK b ⟨#[76,75]⟩ [] V0 S0.o.wr (by simp) (by decide)).mono ?_
 rintro e V1 ⟨rfl,hw,hk⟩
 have S1:=hid (S0.o.step hw hk)
 clear S0
 generalize hE1:[] ++ sl ⟨#[76,75]⟩=l1 at *
 have n1:l1.length<=2:=by rw [<- hE1]; decide
 have E1:=hid hE1
 clear hE1 hw hk
 have k0:=S1.o.ob.blk.cell 0
 go_wp2_with fail
 refine (yG b (o.text.length:Int) 2 2 rfl l1 V1 S1.o.wr (by omega) (by omega) (by omega) (by omega)).mono ?_
 rintro e V2 ⟨rfl,hw,hk⟩
 have S2:=hid (S1.o.step hw hk)
 clear S1 k0
 generalize hE2:l1 ++ Lk.le (o.text.length:Int) 2=l2 at *
 have n2:l2.length<=4:=by rw [<- hE2,ysq,Lk.le_length]; omega
 have E2:=hid hE2
 clear hE2 hw hk
 have k0:=S2.o.ob.blk.cell 1
 go_wp2_with fail
 refine (yG b (o.far.length:Int) 2 2 rfl l2 V2 S2.o.wr (by omega) (by omega) (by omega) (by omega)).mono ?_
 rintro e V3 ⟨rfl,hw,hk⟩
 have S3:=hid (S2.o.step hw hk)
 clear S2 k0
 generalize hE3:l2 ++ Lk.le (o.far.length:Int) 2=l3 at *
 have n3:l3.length<=6:=by rw [<- hE3,ysq,Lk.le_length]; omega
 have E3:=hid hE3
 clear hE3 hw hk
 have k0:=S3.o.ob.blk.cell 2
 go_wp2_with fail
 refine (yG b (o.data.length:Int) 2 2 rfl l3 V3 S3.o.wr (by omega) (by omega) (by omega) (by omega)).mono ?_
 rintro e V4 ⟨rfl,hw,hk⟩
 have S4:=hid (S3.o.step hw hk)
 clear S3 k0
 generalize hE4:l3 ++ Lk.le (o.data.length:Int) 2=l4 at *
 have n4:l4.length<=8:=by rw [<- hE4,ysq,Lk.le_length]; omega
 have E4:=hid hE4
 clear hE4 hw hk
 have k0:=S4.o.ob.blk.cell 3
 go_wp2_with fail
 refine (yG b o.bss 2 2 rfl l4 V4 S4.o.wr (by omega) (by omega) (by omega) (by omega)).mono ?_
 rintro e V5 ⟨rfl,hw,hk⟩
 have S5:=hid (S4.o.step hw hk)
 clear S4 k0
 generalize hE5:l4 ++ Lk.le o.bss 2=l5 at *
 have n5:l5.length<=10:=by rw [<- hE5,ysq,Lk.le_length]; omega
 have E5:=hid hE5
 clear hE5 hw hk
 have k0:=S5.o.ob.blk.cell 4
 go_wp2_with fail
 refine (yaK b aa ca 1 1 rfl o.align l5 V5 S5.o.wr S5.o.ob.align (by omega) (by omega) (by omega) (fun i hi=>by have:=HW1.o _ (ysr hi); simp only [Int.reducePow] at this; omega)).mono ?_
 rintro e V6 ⟨rfl,hw,hk⟩
 have S6:=hid (S5.o.step hw hk)
 clear S5 k0
 generalize hE6:l5 ++ Lk.nums o.align 1=l6 at *
 have n6:l6.length<=14:=by rw [<- hE6,ysq,ybn]; omega
 have E6:=hid hE6
 clear hE6 hw hk
 have k0:=S6.o.ob.blk.cell 5
 go_wp2_with fail
 refine (yG b (o.syms.length:Int) 1 1 rfl l6 V6 S6.o.wr (by omega) (by omega) (by omega) (by omega)).mono ?_
 rintro e V7 ⟨rfl,hw,hk⟩
 have S7:=hid (S6.o.step hw hk)
 clear S6 k0
 generalize hE7:l6 ++ Lk.le (o.syms.length:Int) 1=l7 at *
 have n7:l7.length<=15:=by rw [<- hE7,ysq,Lk.le_length]; omega
 have E7:=hid hE7
 clear hE7 hw hk
 have k0:=S7.o.ob.blk.cell 6
 go_wp2_with fail
 refine (yG b (o.rels.length:Int) 1 1 rfl l7 V7 S7.o.wr (by omega) (by omega) (by omega) (by omega)).mono ?_
 rintro e V8 ⟨rfl,hw,hk⟩
 have S8:=hid (S7.o.step hw hk)
 clear S7 k0
 generalize hE8:l7 ++ Lk.le (o.rels.length:Int) 1=l8 at *
 have n8:l8.length<=16:=by rw [<- hE8,ysq,Lk.le_length]; omega
 have E8:=hid hE8
 clear hE8 hw hk
 have k0:=S8.o.ob.blk.cell 5
 go_wp2
 go_loopw [63] (fun i wr=>∃ n:Nat,n<=o.syms.length/\i = .int .i64 n/\St4 W1 b g o at_ ct af cf ad cd aa ca as_ cs ar cr (l8 ++ (o.syms.take n).flatMap Lk.symB) wr) (fun i _=>o.syms.length - (intOf i).toNat)
 case atStart=>exact ⟨0,Nat.zero_le _,rfl,by simpa using S8.o⟩
 case round =>
  obtain ⟨n,hn,rfl,hst⟩:=hrel
  have ST:=hid hst
  clear hst
  by_cases hlt:n < o.syms.length
  ·obtain ⟨sg,bs0,hao,hne,hbk,hc⟩:=ST.o.ob.syms (by omega)
   subst hao
   obtain ⟨q0,q1,q2,q3⟩:=hc n hlt
   have m0:=(hbk.cell (n * 4)).trans q0
   have m1:=(hbk.cell (n * 4+1)).trans q1
   have m2:=(hbk.cell (n * 4+2)).trans q2
   have m3:=(hbk.cell (n * 4+3)).trans q3
   have hgl:=hbk.lt
   have hwb:b < wr.heap.size:=by obtain ⟨_,_,x1,_⟩:=ST.o.wr; exact x1.lt
   have hgd:=HS.o _ (ysr hlt)
   have hlen:(l8 ++ (o.syms.take n).flatMap Lk.symB).length<=1048576:=by
    have:=yfu Lk.symB 260 n o.syms (fun y hy=>ylV y (HS.o y hy))
    rw [ysq]
    omega
   have STA:=hid (St3.begin ST.o.wr #[.string (bs o.syms[n].name),.int .i64 o.syms[n].bind,.int .i64 o.syms[n].sect,.int .i64 o.syms[n].off] 100)
   have cW:=hid (fun W hW=>yhw b o.syms[n] (l8 ++ (o.syms.take n).flatMap Lk.symB) W hW hlen hgd)
   clear hbk hc q0 q1 q2 q3 hgd hlen k0
   go_wp2_with fail
   refine (cW.o _ STA.o.wr).mono ?_
   rintro e W2 ⟨rfl,hw,hk⟩
   have S2:=hid (ST.o.step hw (STA.o.wk.trans hk))
   clear hw hk
   go_wp2
   go_roundw
   case rel=>exact ⟨n+1,by omega,by go_num,by rw [yis Lk.symB o.syms n hlt,<- List.append_assoc]; exact S2.o⟩
   case measure=>simp [intOf]; omega
  ·have S9':=ST.o
   rw [List.take_of_length_le (show o.syms.length<=n by omega)] at S9'
   have S9:=hid S9'
   clear S9' ST k0 S8
   generalize hE9:l8 ++ o.syms.flatMap Lk.symB=l9 at *
   have n9:l9.length<=4176:=by
    have:=yhH Lk.symB 260 o.syms (fun y hy=>ylV y (HS.o y hy))
    rw [<- hE9,ysq]
    omega
   have E9:=hid hE9
   clear hE9
   have k0:=S9.o.ob.blk.cell 6
   go_wp2
   go_loopw [75] (fun i wr=>∃ n:Nat,n<=o.rels.length/\i = .int .i64 n/\St4 W1 b g o at_ ct af cf ad cd aa ca as_ cs ar cr (l9 ++ (o.rels.take n).flatMap Lk.relB) wr) (fun i _=>o.rels.length - (intOf i).toNat)
   case atStart=>exact ⟨0,Nat.zero_le _,rfl,by simpa using S9.o⟩
   case round =>
    obtain ⟨n,hn,rfl,hst⟩:=hrel
    have ST:=hid hst
    clear hst
    by_cases hlt:n < o.rels.length
    ·obtain ⟨sg,bs0,hao,hne,hbk,hc⟩:=ST.o.ob.rels (by omega)
     subst hao
     obtain ⟨q0,q1,q2,q3,q4⟩:=hc n hlt
     have m0:=(hbk.cell (n * 5)).trans q0
     have m1:=(hbk.cell (n * 5+1)).trans q1
     have m2:=(hbk.cell (n * 5+2)).trans q2
     have m3:=(hbk.cell (n * 5+3)).trans q3
     have m4:=(hbk.cell (n * 5+4)).trans q4
     have hgl:=hbk.lt
     have hwb:b < wr.heap.size:=by obtain ⟨_,_,x1,_⟩:=ST.o.wr; exact x1.lt
     have hgd:=HRL.o _ (ysr hlt)
     have hlen:(l9 ++ (o.rels.take n).flatMap Lk.relB).length<=1048576:=by
      have:=yfu Lk.relB 7 n o.rels (fun y hy=>ylQ y)
      rw [ysq]
      omega
     have STA:=hid (St3.begin ST.o.wr #[.int .i64 o.rels[n].sect,.int .i64 o.rels[n].off,.int .i64 o.rels[n].kind,.int .i64 o.rels[n].sym,.int .i64 o.rels[n].addend] 102)
     have cW:=hid (fun W hW=>yie b o.rels[n] (l9 ++ (o.rels.take n).flatMap Lk.relB) W hW hlen hgd)
     clear hbk hc q0 q1 q2 q3 q4 hgd hlen k0
     go_wp2_with fail
     refine (cW.o _ STA.o.wr).mono ?_
     rintro e W2 ⟨rfl,hw,hk⟩
     have S2:=hid (ST.o.step hw (STA.o.wk.trans hk))
     clear hw hk
     go_wp2
     go_roundw
     case rel=>exact ⟨n+1,by omega,by go_num,by rw [yis Lk.relB o.rels n hlt,<- List.append_assoc]; exact S2.o⟩
     case measure=>simp [intOf]; omega
    ·have S10':=ST.o
     rw [List.take_of_length_le (show o.rels.length<=n by omega)] at S10'
     have S10:=hid S10'
     clear S10' ST k0 S9
     generalize hE10:l9 ++ o.rels.flatMap Lk.relB=l10 at *
     have n10:l10.length<=4400:=by
      have:=yhH Lk.relB 7 o.rels (fun y hy=>ylQ y)
      rw [<- hE10,ysq]
      omega
     have E10:=hid hE10
     clear hE10
     have k0:=S10.o.ob.blk.cell 0
     go_wp2_with fail
     refine (yaK b at_ ct 4 4 rfl o.text l10 wr S10.o.wr S10.o.ob.text (by omega) (by omega) (by omega) (fun i hi=>by have:=HWt.o _ (ysr hi); simp only [Int.reducePow] at this; omega)).mono ?_
     rintro e V11 ⟨rfl,hw,hk⟩
     have S11:=hid (S10.o.step hw hk)
     clear S10 k0
     generalize hE11:l10 ++ Lk.nums o.text 4=l11 at *
     have n11:l11.length<=9200:=by rw [<- hE11,ysq,ybn]; omega
     have E11:=hid hE11
     clear hE11 hw hk
     have k0:=S11.o.ob.blk.cell 1
     go_wp2_with fail
     refine (yaK b af cf 4 4 rfl o.far l11 V11 S11.o.wr S11.o.ob.far (by omega) (by omega) (by omega) (fun i hi=>by have:=HWf.o _ (ysr hi); simp only [Int.reducePow] at this; omega)).mono ?_
     rintro e V12 ⟨rfl,hw,hk⟩
     have S12:=hid (S11.o.step hw hk)
     clear S11 k0
     generalize hE12:l11 ++ Lk.nums o.far 4=l12 at *
     have n12:l12.length<=14000:=by rw [<- hE12,ysq,ybn]; omega
     have E12:=hid hE12
     clear hE12 hw hk
     have k0:=S12.o.ob.blk.cell 2
     go_wp2_with fail
     refine (yaK b ad cd 4 4 rfl o.data l12 V12 S12.o.wr S12.o.ob.data (by omega) (by omega) (by omega) (fun i hi=>by have:=HWd.o _ (ysr hi); simp only [Int.reducePow] at this; omega)).mono ?_
     rintro e V13 ⟨rfl,hw,hk⟩
     have S13:=hid (S12.o.step hw hk)
     clear S12 k0
     generalize hE13:l12 ++ Lk.nums o.data 4=l13 at *
     have n13:l13.length<=14256:=by rw [<- hE13,ysq,ybn]; omega
     have E13:=hid hE13
     clear hE13 hw hk
     go_wp2_with fail
     refine (yhr b l13 V13 S13.o.wr).mono ?_
     rintro e V14 ⟨rfl,hv14⟩
     subst hv14
     go_wp2
     go_ret2
     have hfin:l13=Lk.objB o:=by
      rw [<- E13.o,<- E12.o,<- E11.o,<- E10.o,<- E9.o,<- E8.o,<- E7.o,<- E6.o,<- E5.o,<- E4.o,<- E3.o,<- E2.o,<- E1.o]
      simp [Lk.objB,sl]
     refine ⟨by rw [hfin]; rfl,?_⟩
     have hb:=S13.o.be
     exact ⟨hb.os.trans Q1.o.os,hb.tape.trans Q1.o.tape,hb.output.trans Q1.o.output,Nat.le_trans Q1.o.size hb.size,fun i hi _=>(hb.block i (by have:=Q1.o.size; have:=HBB.o; omega)).trans (Q1.o.block i hi (by simp))⟩
end Go.Proofs.YtpgklkhgfcjceaaGreatDoor
