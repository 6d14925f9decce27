
import Derived.Test.YtpgklkhgfcjceaaGreatDoorV21
set_option maxHeartbeats 16000000
namespace Go.Proofs.YtpgklkhgfcjceaaGreatDoor
open Go.RowKit
namespace Ln
def eH (os:List Lk.Obj) (bt bf bd:Int):List UInt8×pO :=
 if (bJ os).e≠0 then ([],bJ os)
 else if (bP (eG os bt bf bd) (bZ os bt bf bd)).e≠0 then ([],bP (eG os bt bf bd) (bZ os bt bf bd))
 else (Im.bytes (eG os bt bf bd),ok)
end Ln
def Ga (bt bf bd:Int) (fs:List (List UInt8)) (e:Ending):Prop :=
 (∃ f:Ln.pO,f.e≠0/\e = .returned (.tuple #[.string (bs []),fF f]) /\
  (f=nZ bt bf bd \/
  (nZ bt bf bd=Ln.ok/\(fs.length < 1\/8 < fs.length)/\f=⟨31,0,[]⟩) \/
  (nZ bt bf bd=Ln.ok/\1<=fs.length/\fs.length<=8/\∃ i,∃ h:i < fs.length,f=⟨32,i,[]⟩/\Kk fs[i]/\∀ j (hj:j < i),∃ a os,rX (fs[j]'(by omega)) a os))) \/
 (nZ bt bf bd=Ln.ok/\1<=fs.length/\fs.length<=8/\∃ (xs:List (Bool×List Lk.Obj)) (hx:xs.length=fs.length),(∀ i (h:i < fs.length),rX fs[i] (xs[i]'(by omega)).1 (xs[i]'(by omega)).2)/\e = .returned (.tuple #[.string (bs (Ln.eH (Ln.bD xs) bt bf bd).1),fF (Ln.eH (Ln.bD xs) bt bf bd).2]))
theorem yml {bt bf bd:Int} (h:nZ bt bf bd=Ln.ok):Im.Base bt/\Im.Base bf/\Im.Base bd:=by
 have e:(nZ bt bf bd).e=0:=by rw [h]; rfl
 unfold nZ at e
 by_cases h1:¬ Im.Base bt
 ·rw [if_pos h1] at e; cases e
 rw [if_neg h1] at e
 by_cases h2:¬ Im.Base bf
 ·rw [if_pos h2] at e; cases e
 rw [if_neg h2] at e
 by_cases h3:¬ Im.Base bd
 ·rw [if_pos h3] at e; cases e
 exact ⟨Classical.not_not.1 h1,Classical.not_not.1 h2,Classical.not_not.1 h3⟩
theorem ykX {fs:List (List UInt8)} {xs:List (Bool×List Lk.Obj)} (hx:xs.length=fs.length) (h8:fs.length<=8) (h:∀ i (h:i < fs.length),rX fs[i] (xs[i]'(by omega)).1 (xs[i]'(by omega)).2):(∀ o∈Ln.bD xs,yw o)/\(Ln.bD xs).length<=48:=by
 have q:∀ x∈xs,(∀ o∈x.2,yw o)/\x.2.length<=6:=by
  intro x hm
  obtain ⟨i,hi,rfl⟩:=List.getElem_of_mem hm
  exact yjD (h i (by omega))
 refine ⟨ylF yw xs [] (fun x hm=>(q x hm).1) (by simp),?_⟩
 have:=ylG xs [] (fun x hm=>(q x hm).2)
 unfold Ln.bD
 simp only [List.length_nil] at this
 omega
theorem lJ.flt {W:World} {I R:Nat} {img:Im.dK} {cs:Array Value} (h:lJ W I img) (hb:yc W R cs 45) (a b c:Value):lJ (((W.setCell ⟨R,0,none⟩ a).setCell ⟨R,1,none⟩ b).setCell ⟨R,2,none⟩ c) I img:=by
 have G:=World.grownBy.trans (World.grownBy.trans (yf W R 0 a) (yf _ R 1 b)) (yf _ R 2 c)
 obtain ⟨vt,vf,vd,q0,q1,q2,q3⟩:=h
 have RT:=bI.blk hb
 exact ⟨vt,vf,vd,yK q0 G RT (by decide),yy q1 G RT (by decide),yy q2 G RT (by decide),yy q3 G RT (by decide)⟩
theorem Wn {W:World} {R:Nat} {x y z:Value} (h:yc W R #[x,y,z] 45) (a b c:Value):yc (((W.setCell ⟨R,0,none⟩ a).setCell ⟨R,1,none⟩ b).setCell ⟨R,2,none⟩ c) R #[a,b,c] 45:=by
 simpa using ((h.set 0 a).set 1 b).set 2 c
theorem Qu {xs:List Int} (h:qc xs):Mr xs:=fun i hi=>by
 have:=h _ (gW hi)
 omega
set_option maxRecDepth 100000 in
theorem ypk (bt bf bd:Int) (af:Option Addr) (cf:Nat) (fs:List (List UInt8)) (w:World) (hin:Aw w af fs) (hsz:∀ f∈fs,f.length<=1048576) (ht:dz w) (hn:fs.length<=1048576) :
  Calls Tryz.prog 28 #[.slice af fs.length cf,.agg #[.int .i64 bt,.int .i64 bf,.int .i64 bd]] w fun e w'=>Ga bt bf bd fs e/\w.grownBy w' none:=by
 have HT:=hid ht
 have HI:=hid hin
 have cG:=hid (fun W (hg:w.grownBy W none)=>ymv bt bf bd af cf fs W (HI.o.kept hg) hsz (HT.o.grown hg) hn)
 have hs1:(w.alloc (.cells #[.int .i64 bt,.int .i64 bf,.int .i64 bd] 33)).heap.size=w.heap.size+1:=Array.size_push _
 have A1:=aH (w.alloc (.cells #[.int .i64 bt,.int .i64 bf,.int .i64 bd] 33)) (.cells #[.int .i64 0,.int .i64 0,.string ⟨#[]⟩] 45) none
 have G1:=hid (ya (aH w (.cells #[.int .i64 bt,.int .i64 bf,.int .i64 bd] 33) none) A1)
 have BR:=hid (yc.new (w.alloc (.cells #[.int .i64 bt,.int .i64 bf,.int .i64 bd] 33)) #[.int .i64 0,.int .i64 0,.string ⟨#[]⟩] 45)
 rw [hs1] at BR
 clear hin ht A1 hs1
 go_enter Tryz.func28,Tryz.ntmps28
 go_wp2_with fail
 generalize (w.alloc (.cells #[.int .i64 bt,.int .i64 bf,.int .i64 bd] 33)).alloc (.cells #[.int .i64 0,.int .i64 0,.string ⟨#[]⟩] 45)=W1 at *
 have Dw:w.heap.size<=w.heap.size+1:=by omega
 generalize w.heap.size+1=R at *
 refine (cG.o _ G1.o).mono ?_
 rintro e W2 ⟨hg,h2⟩
 have G2:=hid (ya G1.o h2)
 have tL:=hid (BR.o.grown h2 (by simp))
 have SH:=BR.o.lt
 have hR2:=tL.o.lt
 have XA:=hid h2
 clear h2 cG BR
 rcases hg with ⟨f,hf,rfl,hc⟩ | ⟨hb,hl1,hl2,xs,hx,P,vm,bl,gl,hfi,rfl,hga⟩
 ·have BI:=hid (show Ga bt bf bd fs (.returned (.tuple #[.string (bs []),fF f])) from .inl ⟨f,hf,rfl,hc⟩)
  obtain ⟨fe,fa,fn⟩:=f
  unfold fF
  dsimp only at *
  have d1:(fe == 0)=false:=by simpa using hf
  have d2:(fe != 0)=true:=by simpa using hf
  have BX:=hid (yc.new W2 #[.int .i64 fe,.int .i64 fa,.string (bs fn)] 45)
  have AX:=hid (aH W2 (.cells #[.int .i64 fe,.int .i64 fa,.string (bs fn)] 45) none)
  have BF:=hid (tL.o.grown AX.o (by simp))
  have G3:=hid (ya G2.o AX.o)
  clear hf hc
  go_wp2
  generalize W2.alloc (.cells #[.int .i64 fe,.int .i64 fa,.string (bs fn)] 45)=V at *
  have Od:R≠W2.heap.size:=by omega
  generalize W2.heap.size=X at *
  have x0:V.cell? ⟨X,0,none⟩=some (.int .i64 fe):=BX.o.cell 0
  have x1:V.cell? ⟨X,1,none⟩=some (.int .i64 fa):=BX.o.cell 1
  have x2:V.cell? ⟨X,2,none⟩=some (.string (bs fn)):=BX.o.cell 2
  have z0:V.cell? ⟨R,0,none⟩=some (.int .i64 0):=BF.o.cell 0
  have z1:V.cell? ⟨R,1,none⟩=some (.int .i64 0):=BF.o.cell 1
  have z2:V.cell? ⟨R,2,none⟩=some (.string ⟨#[]⟩):=BF.o.cell 2
  have f0:=BF.o.free 0
  have f1:=BF.o.free 1
  have f2:=BF.o.free 2
  go_region_held3 (fun w'=>w'.cell? ⟨X,0,none⟩=some (.int .i64 fe)/\w'.cell? ⟨X,1,none⟩=some (.int .i64 fa)/\w'.cell? ⟨X,2,none⟩=some (.string (bs fn)))
   (go_keep)
   (fail)
  go_wp2
  have F:=vM (((BF.o.set 0 (.int .i64 fe)).set 1 (.int .i64 fa)).set 2 (.string (bs fn)))
  have h0:=F.cell 0
  have h1:=F.cell 1
  have h2:=F.cell 2
  simp only [fQ,fT,fP,bC,bG,bE] at h0 h1 h2
  refine bodyPost_ret (v:=.tuple #[.string (bs []),fF ⟨fe,fa,fn⟩]) ?_ rfl ⟨BI.o,yi (yx G3.o _ Dw _ _ _)⟩
  clear F z0 z1 z2 f0 f1 f2
  generalize World.drew _=WF at *
  simp [results,Tryz.results28,go_sem,fF,bs,h0,h1,h2]
 ·have LV:=ykX hx hl2 hfi
  have FIN:=hid (fun (b:List UInt8) (f:Ln.pO) (h:Ln.eH (Ln.bD xs) bt bf bd=(b,f))=>show Ga bt bf bd fs (.returned (.tuple #[.string (bs b),fF f])) from .inr ⟨hb,hl1,hl2,xs,hx,hfi,by rw [h]⟩)
  have hbs:=yml hb
  clear hb hl1 hl2 hfi
  generalize Ln.bD xs=os at *
  have OK:=hid (yqN LV.1 LV.2 hbs.1 hbs.2.1 hbs.2.2)
  have RA:=hid (Vu os LV.1)
  have t:=GV hbs.1
  have f:=GV hbs.2.1
  have d:=GV hbs.2.2
  have LO:=hga.gy
  have AX:=aH W2 (.cells #[.int .i64 0,.int .i64 0,.string (bs [])] 45) none
  have HP:=hid ((hga.prog.kept AX).f)
  have BX:=hid (yc.new W2 #[.int .i64 0,.int .i64 0,.string (bs [])] 45)
  have BF:=hid (tL.o.grown AX (by simp))
  have Od:R≠W2.heap.size:=by omega
  have hX1:=hid XA.o.size
  have RS:=hid (show Ln.eH os bt bf bd=if (Ln.bJ os).e≠0 then ([],Ln.bJ os) else if (Ln.bP (Ln.eG os bt bf bd) (Ln.bZ os bt bf bd)).e≠0 then ([],Ln.bP (Ln.eG os bt bf bd) (Ln.bZ os bt bf bd)) else (Im.bytes (Ln.eG os bt bf bd),Ln.ok) from rfl)
  have M5:=hid LV.2
  clear hga AX hx LV hbs
  unfold fF Ln.ok
  dsimp only
  go_upto_region 4 with fail
  generalize W2.alloc (.cells #[.int .i64 0,.int .i64 0,.string (bs [])] 45)=V at *
  generalize W2.heap.size=X at *
  have Et:=hid (ylu V W1 P bt bf bd vm bl gl os V HP.o)
  generalize Ln.bJ os=tf at *
  obtain ⟨te,ta,tn⟩:=tf
  unfold fF aT at Et
  unfold aT
  dsimp only at *
  go_wp2_with fail
  refine Et.o.mono ?_
  rintro e V3 ⟨rfl,h3⟩
  have P3:=hid h3.toProgAt
  have Bq:=hid (h3.kf _ _ BX.o)
  have rU:=hid (h3.kf _ _ BF.o)
  clear h3 Et HP BX BF tL
  have P4:=hid (P3.o.flt Bq.o hX1.o (.int .i64 te) (.int .i64 ta) (.string (bs tn)))
  have Ii:=hid (Wn Bq.o (.int .i64 te) (.int .i64 ta) (.string (bs tn)))
  have BF:=hid (Mg rU.o Od (.int .i64 te) (.int .i64 ta) (.string (bs tn)))
  have x0:V3.cell? ⟨X,0,none⟩=some (.int .i64 0):=Bq.o.cell 0
  have x1:V3.cell? ⟨X,1,none⟩=some (.int .i64 0):=Bq.o.cell 1
  have x2:V3.cell? ⟨X,2,none⟩=some (.string (bs [])):=Bq.o.cell 2
  have y0:V3.frozen? ⟨X,0,none⟩=false:=Bq.o.free 0
  have y1:V3.frozen? ⟨X,1,none⟩=false:=Bq.o.free 1
  have y2:V3.frozen? ⟨X,2,none⟩=false:=Bq.o.free 2
  go_upto_region 5 with fail
  clear x0 x1 x2 y0 y1 y2 P3 Bq rU
  generalize (((V3.setCell ⟨X,0,none⟩ (.int .i64 te)).setCell ⟨X,1,none⟩ (.int .i64 ta)).setCell ⟨X,2,none⟩ (.string (bs tn)))=V4 at *
  have x0:V4.cell? ⟨X,0,none⟩=some (.int .i64 te):=Ii.o.cell 0
  have x1:V4.cell? ⟨X,1,none⟩=some (.int .i64 ta):=Ii.o.cell 1
  have x2:V4.cell? ⟨X,2,none⟩=some (.string (bs tn)):=Ii.o.cell 2
  have G3:=hid (ya G1.o P4.o.gr)
  by_cases he:te=0
  case neg =>
   have d1:(te == 0)=false:=by simpa using he
   have d2:(te != 0)=true:=by simpa using he
   have BI:=hid (FIN.o [] ⟨te,ta,tn⟩ (by rw [RS.o,if_pos he]))
   clear he
   go_wp2
   have z0:V4.cell? ⟨R,0,none⟩=some (.int .i64 0):=BF.o.cell 0
   have z1:V4.cell? ⟨R,1,none⟩=some (.int .i64 0):=BF.o.cell 1
   have z2:V4.cell? ⟨R,2,none⟩=some (.string ⟨#[]⟩):=BF.o.cell 2
   have f0:=BF.o.free 0
   have f1:=BF.o.free 1
   have f2:=BF.o.free 2
   go_region_held3 (fun w'=>w'.cell? ⟨X,0,none⟩=some (.int .i64 te)/\w'.cell? ⟨X,1,none⟩=some (.int .i64 ta)/\w'.cell? ⟨X,2,none⟩=some (.string (bs tn)))
    (go_keep)
    (fail)
   go_wp2
   have F:=vM (((BF.o.set 0 (.int .i64 te)).set 1 (.int .i64 ta)).set 2 (.string (bs tn)))
   have h0:=F.cell 0
   have h1:=F.cell 1
   have h2:=F.cell 2
   simp only [fQ,fT,fP,bC,bG,bE] at h0 h1 h2
   refine bodyPost_ret (v:=.tuple #[.string (bs []),fF ⟨te,ta,tn⟩]) ?_ rfl ⟨BI.o,yi (yx G3.o _ Dw _ _ _)⟩
   clear F z0 z1 z2 f0 f1 f2
   generalize World.drew _=WF at *
   simp [results,Tryz.results28,go_sem,fF,bs,h0,h1,h2]
  case pos =>
   subst he
   have xu:=hid (show Ln.eH os bt bf bd=if (Ln.bP (Ln.eG os bt bf bd) (Ln.bZ os bt bf bd)).e≠0 then ([],Ln.bP (Ln.eG os bt bf bd) (Ln.bZ os bt bf bd)) else (Im.bytes (Ln.eG os bt bf bd),Ln.ok) by rw [RS.o,if_neg (by simp)])
   have Es:=hid (ymE V4 W1 P bt bf bd vm bl gl _ _ 0 V4 P4.o.f (fun m hm=>by rw [<- LO]; exact (RA.o m hm).nice) (fun m hm=>(RA.o m hm).obj) (fun m hm=>(RA.o m hm).short) (by omega) (by omega) (by omega))
   clear RS RA
   unfold aT at Es
   go_wp2_with fail
   refine Es.o.mono ?_
   rintro e V5 ⟨rfl,h5⟩
   have P5:=hid (show ProgAt W1 P bt bf bd vm bl gl (Ln.bZ os bt bf bd) (Ln.named os Ln.dU) (Ln.noughts bd (Ln.shorten (Ln.lay bt bf bd (Ln.bO os (os.map Ln.bare))))) V5 from h5.toProgAt)
   have QK:=hid (h5.kf _ _ Ii.o)
   have tY:=hid (h5.kf _ _ BF.o)
   clear h5 Es x0 x1 x2 P4 Ii BF G3
   have cB:=hid (ynv W1 P bt bf bd vm bl gl _ _ _ V5 (HT.o.grown (ya G1.o P5.o.gr)) P5.o (by rw [<- LO]; exact OK.o.nice) OK.o.valid OK.o.low OK.o.mean (by rw [<- LO]; exact OK.o.start) (by rw [<- LO]; exact M5.o) (by omega) (by omega) (by omega))
   unfold aT at cB
   go_wp2_with fail
   refine cB.o.mono ?_
   rintro e V6 ⟨I,rfl,hI,h6⟩
   have I6:=hid (show lJ V6 I (Ln.eG os bt bf bd) from hI)
   have P6:=hid (P5.o.kept h6)
   have QL:=hid (QK.o.grown h6 (by simp))
   have QH:=hid (tY.o.grown h6 (by simp))
   clear hI h6 cB P5 QK tY
   have cC:=hid (Y6 W1 P bt bf bd vm bl gl _ _ _ I _ V6 P6.o (by rw [<- LO]; exact OK.o.nice) I6.o OK.o.FE)
   generalize Ln.bP (Ln.eG os bt bf bd) (Ln.bZ os bt bf bd)=pf at *
   obtain ⟨pe,pa,pn⟩:=pf
   unfold aT fF at cC
   dsimp only at *
   go_wp2_with fail
   refine cC.o.mono ?_
   rintro e V7 ⟨rfl,h7⟩
   have I7:=hid (I6.o.kept h7)
   have P7:=hid (P6.o.kept h7)
   have AO:=hid (QL.o.grown h7 (by simp))
   have QJ:=hid (QH.o.grown h7 (by simp))
   clear h7 cC I6 P6 QL QH
   have I8:=hid (I7.o.flt AO.o (.int .i64 pe) (.int .i64 pa) (.string (bs pn)))
   have P8:=hid (P7.o.flt AO.o hX1.o (.int .i64 pe) (.int .i64 pa) (.string (bs pn)))
   have Kt:=hid (Wn AO.o (.int .i64 pe) (.int .i64 pa) (.string (bs pn)))
   have BF:=hid (Mg QJ.o Od (.int .i64 pe) (.int .i64 pa) (.string (bs pn)))
   have x0:V7.cell? ⟨X,0,none⟩=some (.int .i64 0):=AO.o.cell 0
   have x1:V7.cell? ⟨X,1,none⟩=some (.int .i64 ta):=AO.o.cell 1
   have x2:V7.cell? ⟨X,2,none⟩=some (.string (bs tn)):=AO.o.cell 2
   have y0:V7.frozen? ⟨X,0,none⟩=false:=AO.o.free 0
   have y1:V7.frozen? ⟨X,1,none⟩=false:=AO.o.free 1
   have y2:V7.frozen? ⟨X,2,none⟩=false:=AO.o.free 2
   go_upto_region 10 with fail
   clear x0 x1 x2 y0 y1 y2 P7 AO QJ I7
   generalize (((V7.setCell ⟨X,0,none⟩ (.int .i64 pe)).setCell ⟨X,1,none⟩ (.int .i64 pa)).setCell ⟨X,2,none⟩ (.string (bs pn)))=V8 at *
   have x0:V8.cell? ⟨X,0,none⟩=some (.int .i64 pe):=Kt.o.cell 0
   have x1:V8.cell? ⟨X,1,none⟩=some (.int .i64 pa):=Kt.o.cell 1
   have x2:V8.cell? ⟨X,2,none⟩=some (.string (bs pn)):=Kt.o.cell 2
   have G3:=hid (ya G1.o P8.o.gr)
   by_cases he:pe=0
   case neg =>
    have d1:(pe == 0)=false:=by simpa using he
    have d2:(pe != 0)=true:=by simpa using he
    have BI:=hid (FIN.o [] ⟨pe,pa,pn⟩ (by rw [xu.o,if_pos he]))
    clear he
    go_wp2
    have z0:V8.cell? ⟨R,0,none⟩=some (.int .i64 0):=BF.o.cell 0
    have z1:V8.cell? ⟨R,1,none⟩=some (.int .i64 0):=BF.o.cell 1
    have z2:V8.cell? ⟨R,2,none⟩=some (.string ⟨#[]⟩):=BF.o.cell 2
    have f0:=BF.o.free 0
    have f1:=BF.o.free 1
    have f2:=BF.o.free 2
    go_region_held3 (fun w'=>w'.cell? ⟨X,0,none⟩=some (.int .i64 pe)/\w'.cell? ⟨X,1,none⟩=some (.int .i64 pa)/\w'.cell? ⟨X,2,none⟩=some (.string (bs pn)))
     (go_keep)
     (fail)
    go_wp2
    have F:=vM (((BF.o.set 0 (.int .i64 pe)).set 1 (.int .i64 pa)).set 2 (.string (bs pn)))
    have h0:=F.cell 0
    have h1:=F.cell 1
    have h2:=F.cell 2
    simp only [fQ,fT,fP,bC,bG,bE] at h0 h1 h2
    refine bodyPost_ret (v:=.tuple #[.string (bs []),fF ⟨pe,pa,pn⟩]) ?_ rfl ⟨BI.o,yi (yx G3.o _ Dw _ _ _)⟩
    clear F z0 z1 z2 f0 f1 f2
    generalize World.drew _=WF at *
    simp [results,Tryz.results28,go_sem,fF,bs,h0,h1,h2]
   case pos =>
    subst he
    have BI:=hid (FIN.o (Im.bytes (Ln.eG os bt bf bd)) Ln.ok (by rw [xu.o,if_neg (by simp)]))
    have iw:=Us (Ln.named os Ln.dU) bt bf bd (Ln.noughts bd (Ln.shorten (Ln.lay bt bf bd (Ln.bO os (os.map Ln.bare))))) OK.o.valid
    have cW:=hid (yjL I (Ln.eG os bt bf bd) V8 I8.o OK.o.FE (Qu iw.1) (Qu iw.2.1) (Qu iw.2.2))
    clear iw
    go_wp2_with fail
    refine cW.o.mono ?_
    rintro e V9 ⟨rfl,h9⟩
    have G9:=hid (ya G3.o h9)
    have BR:=hid (BF.o.grown h9 (by simp))
    clear h9 cW x0 x1 x2 P8 Kt I8 BF
    have z0:V9.cell? ⟨R,0,none⟩=some (.int .i64 0):=BR.o.cell 0
    have z1:V9.cell? ⟨R,1,none⟩=some (.int .i64 0):=BR.o.cell 1
    have z2:V9.cell? ⟨R,2,none⟩=some (.string ⟨#[]⟩):=BR.o.cell 2
    have f0:=BR.o.free 0
    have f1:=BR.o.free 1
    have f2:=BR.o.free 2
    go_wp2
    have F:=((BR.o.set 0 (.int .i64 0)).set 1 (.int .i64 0)).set 2 (.string ⟨#[]⟩)
    have h0:=F.cell 0
    have h1:=F.cell 1
    have h2:=F.cell 2
    simp only [fQ,fT,fP,bC,bG,bE] at h0 h1 h2
    refine bodyPost_ret (v:=.tuple #[.string (bs (Im.bytes (Ln.eG os bt bf bd))),fF Ln.ok]) ?_ rfl ⟨BI.o,yx G9.o _ Dw _ _ _⟩
    clear F z0 z1 z2 f0 f1 f2
    generalize World.setCell _ _ _=WF at *
    simp [results,Tryz.results28,go_sem,fF,Ln.ok,bs,h0,h1,h2]
end Go.Proofs.YtpgklkhgfcjceaaGreatDoor

namespace Go.Proofs.YtpgklkhgfcjceaaGreatDoor
namespace As
def iF (t:List UInt8):Nat :=
 if t=[46,116,101,120,116] then 15 else
 if t=[46,102,97,114] then 15 else
 if t=[46,100,97,116,97] then 15 else
 if t=[46,98,115,115] then 15 else
 if t=[46,119,111,114,100] then 16 else
 if t=[46,115,112,97,99,101] then 17 else
 if t=[46,97,108,105,103,110] then 18 else
 if t=[46,103,108,111,98,108] then 19 else
 if t=[46,119,101,97,107] then 19 else
 0
def shapeOf (t:List UInt8):Nat :=
 if t=[97,100,100] then 1 else
 if t=[115,117,98] then 1 else
 if t=[115,108,116] then 1 else
 if t=[115,108,116,117] then 1 else
 if t=[120,111,114] then 1 else
 if t=[111,114] then 1 else
 if t=[97,110,100] then 1 else
 if t=[97,100,100,105] then 2 else
 if t=[115,108,116,105] then 2 else
 if t=[120,111,114,105] then 2 else
 if t=[111,114,105] then 2 else
 if t=[97,110,100,105] then 2 else
 if t=[108,117,105] then 3 else
 if t=[108,119] then 4 else
 if t=[115,119] then 5 else
 if t=[106,97,108,114] then 6 else
 if t=[101,99,97,108,108] then 7 else
 if t=[114,101,116] then 7 else
 if t=[110,111,112] then 7 else
 if t=[98,101,113] then 8 else
 if t=[98,110,101] then 8 else
 if t=[98,108,116] then 8 else
 if t=[98,103,101] then 8 else
 if t=[98,108,116,117] then 8 else
 if t=[98,103,101,117] then 8 else
 if t=[106,97,108] then 9 else
 if t=[106] then 10 else
 if t=[109,118] then 11 else
 if t=[108,105] then 12 else
 if t=[99,97,108,108] then 13 else
 if t=[116,97,105,108] then 13 else
 if t=[108,97] then 14 else
 iF t
def names:List (List UInt8):=[[],[108,117,105],[97,117,105,112,99],[106,97,108],[106,97,108,114],[98,101,113],[98,110,101],[98,108,116],[98,103,101],[98,108,116,117],[98,103,101,117],[108,119],[115,119],[97,100,100,105],[115,108,116,105],[120,111,114,105],[111,114,105],[97,110,100,105],[97,100,100],[115,117,98],[115,108,116],[115,108,116,117],[120,111,114],[111,114],[97,110,100],[101,99,97,108,108]]
def named (t:List UInt8):Nat:=((List.range 26).find? fun k=>decide (1<=k) && names.getD k [] == t).getD 0
def instruction (s:List UInt8) (shape op:Nat) (st:St):St :=
 if shape=1 then gK s op st else if shape=2 then fO s op st else if shape=3 then upper s st else if shape=4 then load s st
 else if shape=5 then store s st else if shape=6 then dR s st else if shape=7 then bare st else if shape=8 then branch s op st
 else if shape=9 then iG s st else if shape=10 then iH s 0 st else if shape=11 then move s st else if shape=12 then fJ s st
 else if shape=13 then call s st else if shape=14 then eO s st else st
def directive (s:List UInt8) (shape:Nat) (st:St):St :=
 if shape=15 then iN st else if shape=16 then word s st else if shape=17 then space s st else if shape=18 then align s st
 else if shape=19 then binding s st else st
def jW (shape ah:Nat):Bool:=if shape<=14 then lU ah else !(shape == 16) || !(ah == 4)
def operation (s:List UInt8) (t:Tok) (st:St):St :=
 if shapeOf t.text=0 then refuse 6 t.pos st
 else if !jW (shapeOf t.text) st.ah then refuse 9 t.pos st
 else if shapeOf t.text<=14 then instruction s (shapeOf t.text) (named t.text) { st with op:=t }
 else directive s (shapeOf t.text) { st with op:=t }
def jO (s:List UInt8) (t:Tok) (st:St):St :=
 let st1:=if t.kind == 1 then operation s t st else st
 if st1.tok.kind == 4 then st1 else refuse 3 st1.tok.pos st1
def line (s:List UInt8) (st:St):St :=
 let w:=dP s (advance s st)
 if w.1.kind == 1 && w.2.tok.is [58] then
  let v:=dP s (advance s (label w.1 w.2))
  jO s v.1 v.2
 else jO s w.1 w.2
def lines (s:List UInt8):Nat->St->St
 | 0,st=>st
 | n+1,st =>
  let r:=dN s (line s st)
  if r.1 then lines s n r.2 else r.2
def jS (ys:List Lk.Sym):List Lk.Sym:=ys.map fun y=>if y.ah=0/\y.bind=0 then ⟨y.name,1,y.ah,y.off⟩ else y
def gI (rs:List Lk.Rel):List Lk.Rel:=(rs.filter fun r=>r.ah=1) ++ (rs.filter fun r=>r.ah=2) ++ (rs.filter fun r=>r.ah=3)
def start:St:=⟨0,Tok.nil,0,0,Tok.nil,1,⟨[],[],[],0,[2,2,2,2],[],[]⟩⟩
def finish (o:Lk.Obj):Lk.Obj:={ o with syms:=jS o.syms,aj:=gI o.aj }
def assemble (s:List UInt8):(Nat×Nat)×Lk.Obj :=
 if 1000 < s.length then ((1,0),start.obj)
 else ((( lines s (s.length+1) start).fe,(lines s (s.length+1) start).fa),finish (lines s (s.length+1) start).obj)
end As
end Go.Proofs.YtpgklkhgfcjceaaGreatDoor

namespace Go.Proofs.YtpgklkhgfcjceaaGreatDoor
open Go.RowKit
theorem UW (B:Nat) (s:ByteArray) (b g:Nat) (st:As.St) (W:World) (h:yl B s b g st W) :
  Calls Tryz.prog 138 #[.pointer (some ⟨b,0,none⟩)] W fun e W'=>e = .returned (.bool (As.lU st.ah))/\W'=W:=by
 have c:=tH h
 have hs:=h.ok.ah
 clear h
 generalize st.ah=ah at *
 rcases (show ah=1\/ah=2\/ah=3\/ah=4 by omega) with rfl | rfl | rfl | rfl
 all_goals
  go_enter Tryz.func138,Tryz.ntmps138
  go_wp2
  go_ret
  exact ⟨rfl,rfl⟩
theorem ykR {B:Nat} {s:ByteArray} {b g:Nat} {V:World} {st:As.St} (h:yl B s b g st V) (i:Nat) (hi:i < 4):∃ vt vf vd ag cs vs vr x,qy B V b g st.obj vt vf vd (.slice (some ⟨ag,0,none⟩) 4 cs) vs vr/\V.cell? ⟨g,4,none⟩=some (.slice (some ⟨ag,0,none⟩) 4 cs) /\
  st.obj.align[i]?=some x/\V.cell? ⟨ag,i,none⟩=some (.int .i64 x)/\(∀ o,V.frozen? ⟨ag,o,none⟩=false)/\4<=cs:=by
 have h4:=h.ok.align
 obtain ⟨vt,vf,vd,va,vs,vr,ho⟩:=h.own
 obtain ⟨fU,cs,rfl⟩:=yh ho.align
 obtain ⟨ag,cur,rfl,hb,-,-,hcs⟩:=Wv ho.align (by omega)
 obtain ⟨ag',off,hag,hc⟩:=yz.aR ho.align (by omega)
 simp only [Option.some.injEq,Addr.mk.injEq] at hag
 obtain ⟨rfl,rfl,-⟩:=hag
 have k:=hc i (by omega)
 rw [Nat.zero_add] at k
 have g4:=ho.blk.cell 4
 simp only [bC,bG,bE] at g4
 rw [h4] at ho g4 hcs
 exact ⟨vt,vf,vd,ag,cs,vs,vr,st.obj.align[i]'(by omega),ho,g4,jF (by omega),k,fun o=>hb.free o,hcs⟩
set_option maxRecDepth 100000 in
theorem GL (B:Nat) (s:ByteArray) (b g:Nat) (st:As.St) (k:Int) (W:World) (h:yl B s b g st W) :
  Calls Tryz.prog 200 #[.pointer (some ⟨b,0,none⟩),.int .i64 k] W fun en W'=>en = .returned (.tuple #[])/\Does B s b g W (As.dF k st) W':=by
 have HW:=hid h
 have c13:=tH h
 have c14:=rQ h
 have hs:=h.ok.ah
 obtain ⟨i,hi⟩:∃ i,i+1=st.ah:=⟨st.ah - 1,by omega⟩
 have hi4:i < 4:=by omega
 obtain ⟨vt,vf,vd,ag,cs,vs,vr,x,ho,g4,hx,kx,hfz,hcs⟩:=ykR h i hi4
 have fz:=hfz i
 have HO:=hid ho
 clear h ho hfz
 have RS:=hid (show As.dF k st=if x < k then { st with obj:={ st.obj with align:=st.obj.align.set i k } } else st from by
  unfold As.dF
  rw [show st.ah - 1=i by omega,hx]
  rfl)
 generalize As.dF k st=X at *
 have e1:(st.ah:Int)=(i:Int)+1:=by omega
 rw [e1] at c13
 have d1:decide ((i:Int) < 0)=false:=by simp
 have d2:decide ((4:Int)<=(i:Int))=false:=by simp; omega
 have d3:decide (4<=i)=false:=by simp; omega
 have g1:(0:Int)<=(i:Int):=by omega
 have g2:(i:Int) < 4:=by omega
 clear hs hi hx e1
 by_cases c:x < k
 ·have d:decide (x < k)=true:=by simp [c]
  rw [if_pos c] at RS
  have P:=hid (HW.o.does.after (HW.o.zQ HO.o i hi4 k))
  clear c
  go_enter Tryz.func200,Tryz.ntmps200
  go_wp2
  go_end0
  rw [RS.o]
  exact ⟨rfl,P.o⟩
 ·have d:decide (x < k)=false:=by simp; omega
  rw [if_neg c] at RS
  clear c
  go_enter Tryz.func200,Tryz.ntmps200
  go_wp2
  go_end0
  rw [RS.o]
  exact ⟨rfl,HW.o.does⟩
theorem yon (s:List UInt8) (lo hi:Int) (st:As.St) (h:As.failed (As.number s lo hi st).2=false):lo<=(As.number s lo hi st).1/\(As.number s lo hi st).1<=hi:=by
 have key:∀ neg pos st,As.failed (As.bB s neg pos lo hi st).2=false->lo<=(As.bB s neg pos lo hi st).1/\(As.bB s neg pos lo hi st).1<=hi:=by
  intro neg pos st hf
  unfold As.bB at hf ⊢
  generalize (if neg then -(st.tok.n:Int) else (st.tok.n:Int))=x at *
  split at hf
  ·rename_i hk
   rw [if_pos hk]
   by_cases h:x < lo\/hi < x
   ·rw [if_pos h] at hf
    rw [Lf _ _ _ (by omega)] at hf
    cases hf
   ·rw [if_neg h]; simp only; omega
  ·rw [Lf _ _ _ (by omega)] at hf
   cases hf
 unfold As.number at h ⊢
 split at h
 ·rename_i hm; rw [if_pos hm]; exact key _ _ _ h
 ·rename_i hm; rw [if_neg hm]; exact key _ _ _ h
set_option maxRecDepth 100000 in
theorem ynt (B:Nat) (s:ByteArray) (b g:Nat) (st0:As.St) (W:World) (h:yl B s b g st0 W) :
  Calls Tryz.prog 156 #[.pointer (some ⟨b,0,none⟩)] W fun en W'=>en = .returned (.tuple #[])/\Does B s b g W (As.align (sl s) st0) W':=by
 have D0:=hid h.does
 clear h
 obtain ⟨X,hX⟩:∃ X,X=As.align (sl s) st0:=⟨_,rfl⟩
 rw [<- hX]
 unfold As.align at hX
 dsimp only at hX
 have RS:=hid hX
 clear hX
 have NO:=hid (yon (sl s) 2 4 st0)
 go_enter Tryz.func156,Tryz.ntmps156
 go_wp2_with fail
 refine (CZ B s b g st0 2 4 _ D0.o.1).mono ?_
 rintro e V1 ⟨rfl,hh⟩
 have D1:=hid (D0.o.aO hh)
 clear hh D0
 generalize As.number (sl s) 2 4 st0=R1 at *
 obtain ⟨n,st1⟩:=R1
 dsimp only at RS D1 NO ⊢
 go_wp2_with fail
 refine (AZ B s b g st1 V1 D1.o.1).mono ?_
 rintro e w1 ⟨rfl,rfl⟩
 cases hf:As.failed st1
 ·rw [hf,if_neg (by simp)] at RS
  have hn:=NO.o hf
  clear hf NO
  have cI:=hid (fun V hV=>UW B s b g st1 V hV)
  have hsb:=Px D1.o.1.ok
  rcases (show n=2\/n=3\/n=4 by omega) with rfl | rfl | rfl
  ·clear hn
   have xu:=hid (show X=As.dF 2 (As.dH 4 st1) from RS.o)
   clear RS
   go_wp2_with fail
   refine (cI.o w1 D1.o.1).mono ?_
   rintro e w2 ⟨rfl,rfl⟩
   cases hc:As.lU st1.ah
   ·have RT:=hid (show As.dH 4 st1=As.lay (List.replicate (((4:Int) - 4 * As.bK st1.obj st1.ah % 4) % 4 / 4).toNat 0) st1 from by unfold As.dH; rw [hc]; rfl)
    clear hc
    have cL:=hid (fun V hV=>Hl B s b g st1 V hV)
    have HD0:=hid (fun n=>D1.o.drewN n)
    have c13:=tH D1.o.1
    have c14:=rQ D1.o.1
    generalize As.bK st1.obj st1.ah=q at *
    obtain ⟨qn,rfl⟩:=Int.eq_ofNat_of_zero_le hsb.1
    have hq2:(qn:Int)<=1200:=hsb.2
    have hq3:(0:Int)<=4 * (qn:Int):=by omega
    have EC:=hid (show (((4:Int) - 4 * (qn:Int) % 4) % 4 / 4)=(((((4:Int) - 4 * (qn:Int) % 4) % 4 / 4).toNat:Nat):Int) by omega)
    have HC:=hid (show (((4:Int) - 4 * (qn:Int) % 4) % 4 / 4).toNat<=4096 by omega)
    have r0:(0:Int)<=4 * (qn:Int) % 4:=by omega
    have r1:4 * (qn:Int) % 4 < 4:=by omega
    generalize (((4:Int) - 4 * (qn:Int) % 4) % 4 / 4).toNat=cnt at *
    go_wp2
    go_quiet ((go_at_call 87; exact Calls.quiet_of_same (cL.o _ (HD0.o _).1)))
    have D2:=hid (HD0.o nq)
    clear HD0 c13 c14 cL
    generalize w2.drewN nq=V2 at *
    go_wp2_with fail
    refine (GJ 0 cnt _ (by have e:=EC.o; omega) _ HC.o).mono ?_
    rintro e V3 ⟨⟨ao,cap,rfl,hw⟩,hg⟩
    have D3:=hid (D2.o.grown hg)
    have sD:=hid hw
    clear hg hw D2
    go_wp2_with fail
    refine (MC B s b g st1 0 cnt ao cap V3 D3.o.1 sD.o HC.o).mono ?_
    rintro e V4 ⟨rfl,h4⟩
    have D4:=hid (D3.o.after h4)
    clear h4
    rw [<- RT.o] at D4
    go_wp2_with fail
    refine (GL B s b g _ 2 V4 D4.o.1).mono ?_
    rintro e V5 ⟨rfl,h5⟩
    have D5:=hid (D4.o.after h5)
    clear h5
    go_wp2
    go_end0
    rw [xu.o]
    exact ⟨rfl,D5.o⟩
   ·have RT:=hid (show As.dH 4 st1=st1 from by unfold As.dH; rw [hc]; rfl)
    clear hc
    rw [RT.o] at xu
    go_wp2_with fail
    refine (GL B s b g _ 2 w2 D1.o.1).mono ?_
    rintro e V5 ⟨rfl,h5⟩
    have D5:=hid (D1.o.after h5)
    clear h5
    go_wp2
    go_end0
    rw [xu.o]
    exact ⟨rfl,D5.o⟩
  ·clear hn
   have xu:=hid (show X=As.dF 3 (As.dH 8 st1) from RS.o)
   clear RS
   go_wp2_with fail
   refine (cI.o w1 D1.o.1).mono ?_
   rintro e w2 ⟨rfl,rfl⟩
   cases hc:As.lU st1.ah
   ·have RT:=hid (show As.dH 8 st1=As.lay (List.replicate (((8:Int) - 4 * As.bK st1.obj st1.ah % 8) % 8 / 4).toNat 0) st1 from by unfold As.dH; rw [hc]; rfl)
    clear hc
    have cL:=hid (fun V hV=>Hl B s b g st1 V hV)
    have HD0:=hid (fun n=>D1.o.drewN n)
    have c13:=tH D1.o.1
    have c14:=rQ D1.o.1
    generalize As.bK st1.obj st1.ah=q at *
    obtain ⟨qn,rfl⟩:=Int.eq_ofNat_of_zero_le hsb.1
    have hq2:(qn:Int)<=1200:=hsb.2
    have hq3:(0:Int)<=4 * (qn:Int):=by omega
    have EC:=hid (show (((8:Int) - 4 * (qn:Int) % 8) % 8 / 4)=(((((8:Int) - 4 * (qn:Int) % 8) % 8 / 4).toNat:Nat):Int) by omega)
    have HC:=hid (show (((8:Int) - 4 * (qn:Int) % 8) % 8 / 4).toNat<=4096 by omega)
    have r0:(0:Int)<=4 * (qn:Int) % 8:=by omega
    have r1:4 * (qn:Int) % 8 < 8:=by omega
    generalize (((8:Int) - 4 * (qn:Int) % 8) % 8 / 4).toNat=cnt at *
    go_wp2
    go_quiet ((go_at_call 87; exact Calls.quiet_of_same (cL.o _ (HD0.o _).1)))
    have D2:=hid (HD0.o nq)
    clear HD0 c13 c14 cL
    generalize w2.drewN nq=V2 at *
    go_wp2_with fail
    refine (GJ 0 cnt _ (by have e:=EC.o; omega) _ HC.o).mono ?_
    rintro e V3 ⟨⟨ao,cap,rfl,hw⟩,hg⟩
    have D3:=hid (D2.o.grown hg)
    have sD:=hid hw
    clear hg hw D2
    go_wp2_with fail
    refine (MC B s b g st1 0 cnt ao cap V3 D3.o.1 sD.o HC.o).mono ?_
    rintro e V4 ⟨rfl,h4⟩
    have D4:=hid (D3.o.after h4)
    clear h4
    rw [<- RT.o] at D4
    go_wp2_with fail
    refine (GL B s b g _ 3 V4 D4.o.1).mono ?_
    rintro e V5 ⟨rfl,h5⟩
    have D5:=hid (D4.o.after h5)
    clear h5
    go_wp2
    go_end0
    rw [xu.o]
    exact ⟨rfl,D5.o⟩
   ·have RT:=hid (show As.dH 8 st1=As.dS 6 0 4 (List.replicate 1 19) st1 from by unfold As.dH; rw [hc]; rfl)
    clear hc
    go_wp2_with fail
    refine (GJ 19 1 _ rfl _ (by omega)).mono ?_
    rintro e V3 ⟨⟨ao,cap,rfl,hw⟩,hg⟩
    have D3:=hid (D1.o.grown hg)
    have sD:=hid hw
    clear hg hw
    go_wp2_with fail
    refine (Ux B s b g st1 6 0 4 19 1 ao cap V3 D3.o.1 sD.o (by omega)).mono ?_
    rintro e V4 ⟨rfl,h4⟩
    have D4:=hid (D3.o.after h4)
    clear h4
    rw [<- RT.o] at D4
    go_wp2_with fail
    refine (GL B s b g _ 3 V4 D4.o.1).mono ?_
    rintro e V5 ⟨rfl,h5⟩
    have D5:=hid (D4.o.after h5)
    clear h5
    go_wp2
    go_end0
    rw [xu.o]
    exact ⟨rfl,D5.o⟩
  ·clear hn
   have xu:=hid (show X=As.dF 4 (As.dH 16 st1) from RS.o)
   clear RS
   go_wp2_with fail
   refine (cI.o w1 D1.o.1).mono ?_
   rintro e w2 ⟨rfl,rfl⟩
   cases hc:As.lU st1.ah
   ·have RT:=hid (show As.dH 16 st1=As.lay (List.replicate (((16:Int) - 4 * As.bK st1.obj st1.ah % 16) % 16 / 4).toNat 0) st1 from by unfold As.dH; rw [hc]; rfl)
    clear hc
    have cL:=hid (fun V hV=>Hl B s b g st1 V hV)
    have HD0:=hid (fun n=>D1.o.drewN n)
    have c13:=tH D1.o.1
    have c14:=rQ D1.o.1
    generalize As.bK st1.obj st1.ah=q at *
    obtain ⟨qn,rfl⟩:=Int.eq_ofNat_of_zero_le hsb.1
    have hq2:(qn:Int)<=1200:=hsb.2
    have hq3:(0:Int)<=4 * (qn:Int):=by omega
    have EC:=hid (show (((16:Int) - 4 * (qn:Int) % 16) % 16 / 4)=(((((16:Int) - 4 * (qn:Int) % 16) % 16 / 4).toNat:Nat):Int) by omega)
    have HC:=hid (show (((16:Int) - 4 * (qn:Int) % 16) % 16 / 4).toNat<=4096 by omega)
    have r0:(0:Int)<=4 * (qn:Int) % 16:=by omega
    have r1:4 * (qn:Int) % 16 < 16:=by omega
    generalize (((16:Int) - 4 * (qn:Int) % 16) % 16 / 4).toNat=cnt at *
    go_wp2
    go_quiet ((go_at_call 87; exact Calls.quiet_of_same (cL.o _ (HD0.o _).1)))
    have D2:=hid (HD0.o nq)
    clear HD0 c13 c14 cL
    generalize w2.drewN nq=V2 at *
    go_wp2_with fail
    refine (GJ 0 cnt _ (by have e:=EC.o; omega) _ HC.o).mono ?_
    rintro e V3 ⟨⟨ao,cap,rfl,hw⟩,hg⟩
    have D3:=hid (D2.o.grown hg)
    have sD:=hid hw
    clear hg hw D2
    go_wp2_with fail
    refine (MC B s b g st1 0 cnt ao cap V3 D3.o.1 sD.o HC.o).mono ?_
    rintro e V4 ⟨rfl,h4⟩
    have D4:=hid (D3.o.after h4)
    clear h4
    rw [<- RT.o] at D4
    go_wp2_with fail
    refine (GL B s b g _ 4 V4 D4.o.1).mono ?_
    rintro e V5 ⟨rfl,h5⟩
    have D5:=hid (D4.o.after h5)
    clear h5
    go_wp2
    go_end0
    rw [xu.o]
    exact ⟨rfl,D5.o⟩
   ·have RT:=hid (show As.dH 16 st1=As.dS 6 0 12 (List.replicate 3 19) st1 from by unfold As.dH; rw [hc]; rfl)
    clear hc
    go_wp2_with fail
    refine (GJ 19 3 _ rfl _ (by omega)).mono ?_
    rintro e V3 ⟨⟨ao,cap,rfl,hw⟩,hg⟩
    have D3:=hid (D1.o.grown hg)
    have sD:=hid hw
    clear hg hw
    go_wp2_with fail
    refine (Ux B s b g st1 6 0 12 19 3 ao cap V3 D3.o.1 sD.o (by omega)).mono ?_
    rintro e V4 ⟨rfl,h4⟩
    have D4:=hid (D3.o.after h4)
    clear h4
    rw [<- RT.o] at D4
    go_wp2_with fail
    refine (GL B s b g _ 4 V4 D4.o.1).mono ?_
    rintro e V5 ⟨rfl,h5⟩
    have D5:=hid (D4.o.after h5)
    clear h5
    go_wp2
    go_end0
    rw [xu.o]
    exact ⟨rfl,D5.o⟩
 ·rw [hf,if_pos rfl] at RS
  clear hf
  go_wp2
  (try simp only [Exit.inBlock,Exit.then]); refine bodyPost_ret (results_none rfl _ _ _) rfl ?_
  rw [RS.o]
  exact ⟨rfl,D1.o⟩
set_option maxRecDepth 100000 in
theorem yjz (t:List UInt8) (w:World) :
  Calls Tryz.prog 137 #[.string (bs t)] w fun e w'=>e = .returned (.int .i64 (As.iF t:Nat))/\w'=w:=by
 have RS:=hid (show As.iF t=(
 if t=[46,116,101,120,116] then 15 else
 if t=[46,102,97,114] then 15 else
 if t=[46,100,97,116,97] then 15 else
 if t=[46,98,115,115] then 15 else
 if t=[46,119,111,114,100] then 16 else
 if t=[46,115,112,97,99,101] then 17 else
 if t=[46,97,108,105,103,110] then 18 else
 if t=[46,103,108,111,98,108] then 19 else
 if t=[46,119,101,97,107] then 19 else
 0) from rfl)
 generalize As.iF t=X at *
 have e:∀ l:List UInt8,((bs t).toList == l)=decide (t=l):=fun l=>by rw [yG,Bool.eq_iff_iff,beq_iff_eq,decide_eq_true_iff]
 by_cases h:t=[46,116,101,120,116]
 ·rw [if_pos h] at RS
  have d0:=e [46,116,101,120,116]
  rw [decide_eq_true h] at d0
  clear h e
  go_enter Tryz.func137,Tryz.ntmps137
  go_wp2
  go_ret
  exact ⟨by rw [RS.o]; rfl,rfl⟩
 have d0:=e [46,116,101,120,116]
 rw [if_neg h] at RS
 rw [decide_eq_false h] at d0
 clear h
 by_cases h:t=[46,102,97,114]
 ·rw [if_pos h] at RS
  have d1:=e [46,102,97,114]
  rw [decide_eq_true h] at d1
  clear h e
  go_enter Tryz.func137,Tryz.ntmps137
  go_wp2
  go_ret
  exact ⟨by rw [RS.o]; rfl,rfl⟩
 have d1:=e [46,102,97,114]
 rw [if_neg h] at RS
 rw [decide_eq_false h] at d1
 clear h
 by_cases h:t=[46,100,97,116,97]
 ·rw [if_pos h] at RS
  have d2:=e [46,100,97,116,97]
  rw [decide_eq_true h] at d2
  clear h e
  go_enter Tryz.func137,Tryz.ntmps137
  go_wp2
  go_ret
  exact ⟨by rw [RS.o]; rfl,rfl⟩
 have d2:=e [46,100,97,116,97]
 rw [if_neg h] at RS
 rw [decide_eq_false h] at d2
 clear h
 by_cases h:t=[46,98,115,115]
 ·rw [if_pos h] at RS
  have d3:=e [46,98,115,115]
  rw [decide_eq_true h] at d3
  clear h e
  go_enter Tryz.func137,Tryz.ntmps137
  go_wp2
  go_ret
  exact ⟨by rw [RS.o]; rfl,rfl⟩
 have d3:=e [46,98,115,115]
 rw [if_neg h] at RS
 rw [decide_eq_false h] at d3
 clear h
 by_cases h:t=[46,119,111,114,100]
 ·rw [if_pos h] at RS
  have d4:=e [46,119,111,114,100]
  rw [decide_eq_true h] at d4
  clear h e
  go_enter Tryz.func137,Tryz.ntmps137
  go_wp2
  go_ret
  exact ⟨by rw [RS.o]; rfl,rfl⟩
 have d4:=e [46,119,111,114,100]
 rw [if_neg h] at RS
 rw [decide_eq_false h] at d4
 clear h
 by_cases h:t=[46,115,112,97,99,101]
 ·rw [if_pos h] at RS
  have d5:=e [46,115,112,97,99,101]
  rw [decide_eq_true h] at d5
  clear h e
  go_enter Tryz.func137,Tryz.ntmps137
  go_wp2
  go_ret
  exact ⟨by rw [RS.o]; rfl,rfl⟩
 have d5:=e [46,115,112,97,99,101]
 rw [if_neg h] at RS
 rw [decide_eq_false h] at d5
 clear h
 by_cases h:t=[46,97,108,105,103,110]
 ·rw [if_pos h] at RS
  have d6:=e [46,97,108,105,103,110]
  rw [decide_eq_true h] at d6
  clear h e
  go_enter Tryz.func137,Tryz.ntmps137
  go_wp2
  go_ret
  exact ⟨by rw [RS.o]; rfl,rfl⟩
 have d6:=e [46,97,108,105,103,110]
 rw [if_neg h] at RS
 rw [decide_eq_false h] at d6
 clear h
 by_cases h:t=[46,103,108,111,98,108]
 ·rw [if_pos h] at RS
  have d7:=e [46,103,108,111,98,108]
  rw [decide_eq_true h] at d7
  clear h e
  go_enter Tryz.func137,Tryz.ntmps137
  go_wp2
  go_ret
  exact ⟨by rw [RS.o]; rfl,rfl⟩
 have d7:=e [46,103,108,111,98,108]
 rw [if_neg h] at RS
 rw [decide_eq_false h] at d7
 clear h
 by_cases h:t=[46,119,101,97,107]
 ·rw [if_pos h] at RS
  have d8:=e [46,119,101,97,107]
  rw [decide_eq_true h] at d8
  clear h e
  go_enter Tryz.func137,Tryz.ntmps137
  go_wp2
  go_ret
  exact ⟨by rw [RS.o]; rfl,rfl⟩
 have d8:=e [46,119,101,97,107]
 rw [if_neg h] at RS
 rw [decide_eq_false h] at d8
 clear h
 clear e
 go_enter Tryz.func137,Tryz.ntmps137
 go_wp2
 go_ret
 exact ⟨by rw [RS.o]; rfl,rfl⟩
set_option maxRecDepth 100000 in
theorem ylA (t:List UInt8) (w:World) :
  Calls Tryz.prog 88 #[.string (bs t)] w fun e w'=>e = .returned (.int .i64 (As.shapeOf t:Nat))/\w'=w:=by
 have RS:=hid (show As.shapeOf t=(
 if t=[97,100,100] then 1 else
 if t=[115,117,98] then 1 else
 if t=[115,108,116] then 1 else
 if t=[115,108,116,117] then 1 else
 if t=[120,111,114] then 1 else
 if t=[111,114] then 1 else
 if t=[97,110,100] then 1 else
 if t=[97,100,100,105] then 2 else
 if t=[115,108,116,105] then 2 else
 if t=[120,111,114,105] then 2 else
 if t=[111,114,105] then 2 else
 if t=[97,110,100,105] then 2 else
 if t=[108,117,105] then 3 else
 if t=[108,119] then 4 else
 if t=[115,119] then 5 else
 if t=[106,97,108,114] then 6 else
 if t=[101,99,97,108,108] then 7 else
 if t=[114,101,116] then 7 else
 if t=[110,111,112] then 7 else
 if t=[98,101,113] then 8 else
 if t=[98,110,101] then 8 else
 if t=[98,108,116] then 8 else
 if t=[98,103,101] then 8 else
 if t=[98,108,116,117] then 8 else
 if t=[98,103,101,117] then 8 else
 if t=[106,97,108] then 9 else
 if t=[106] then 10 else
 if t=[109,118] then 11 else
 if t=[108,105] then 12 else
 if t=[99,97,108,108] then 13 else
 if t=[116,97,105,108] then 13 else
 if t=[108,97] then 14 else
 As.iF t) from rfl)
 generalize As.shapeOf t=X at *
 have e:∀ l:List UInt8,((bs t).toList == l)=decide (t=l):=fun l=>by rw [yG,Bool.eq_iff_iff,beq_iff_eq,decide_eq_true_iff]
 by_cases h:t=[97,100,100]
 ·rw [if_pos h] at RS
  have d0:=e [97,100,100]
  rw [decide_eq_true h] at d0
  clear h e
  go_enter Tryz.func88,Tryz.ntmps88
  go_wp2
  go_ret
  exact ⟨by rw [RS.o]; rfl,rfl⟩
 have d0:=e [97,100,100]
 rw [if_neg h] at RS
 rw [decide_eq_false h] at d0
 clear h
 by_cases h:t=[115,117,98]
 ·rw [if_pos h] at RS
  have d1:=e [115,117,98]
  rw [decide_eq_true h] at d1
  clear h e
  go_enter Tryz.func88,Tryz.ntmps88
  go_wp2
  go_ret
  exact ⟨by rw [RS.o]; rfl,rfl⟩
 have d1:=e [115,117,98]
 rw [if_neg h] at RS
 rw [decide_eq_false h] at d1
 clear h
 by_cases h:t=[115,108,116]
 ·rw [if_pos h] at RS
  have d2:=e [115,108,116]
  rw [decide_eq_true h] at d2
  clear h e
  go_enter Tryz.func88,Tryz.ntmps88
  go_wp2
  go_ret
  exact ⟨by rw [RS.o]; rfl,rfl⟩
 have d2:=e [115,108,116]
 rw [if_neg h] at RS
 rw [decide_eq_false h] at d2
 clear h
 by_cases h:t=[115,108,116,117]
 ·rw [if_pos h] at RS
  have d3:=e [115,108,116,117]
  rw [decide_eq_true h] at d3
  clear h e
  go_enter Tryz.func88,Tryz.ntmps88
  go_wp2
  go_ret
  exact ⟨by rw [RS.o]; rfl,rfl⟩
 have d3:=e [115,108,116,117]
 rw [if_neg h] at RS
 rw [decide_eq_false h] at d3
 clear h
 by_cases h:t=[120,111,114]
 ·rw [if_pos h] at RS
  have d4:=e [120,111,114]
  rw [decide_eq_true h] at d4
  clear h e
  go_enter Tryz.func88,Tryz.ntmps88
  go_wp2
  go_ret
  exact ⟨by rw [RS.o]; rfl,rfl⟩
 have d4:=e [120,111,114]
 rw [if_neg h] at RS
 rw [decide_eq_false h] at d4
 clear h
 by_cases h:t=[111,114]
 ·rw [if_pos h] at RS
  have d5:=e [111,114]
  rw [decide_eq_true h] at d5
  clear h e
  go_enter Tryz.func88,Tryz.ntmps88
  go_wp2
  go_ret
  exact ⟨by rw [RS.o]; rfl,rfl⟩
 have d5:=e [111,114]
 rw [if_neg h] at RS
 rw [decide_eq_false h] at d5
 clear h
 by_cases h:t=[97,110,100]
 ·rw [if_pos h] at RS
  have d6:=e [97,110,100]
  rw [decide_eq_true h] at d6
  clear h e
  go_enter Tryz.func88,Tryz.ntmps88
  go_wp2
  go_ret
  exact ⟨by rw [RS.o]; rfl,rfl⟩
 have d6:=e [97,110,100]
 rw [if_neg h] at RS
 rw [decide_eq_false h] at d6
 clear h
 by_cases h:t=[97,100,100,105]
 ·rw [if_pos h] at RS
  have d7:=e [97,100,100,105]
  rw [decide_eq_true h] at d7
  clear h e
  go_enter Tryz.func88,Tryz.ntmps88
  go_wp2
  go_ret
  exact ⟨by rw [RS.o]; rfl,rfl⟩
 have d7:=e [97,100,100,105]
 rw [if_neg h] at RS
 rw [decide_eq_false h] at d7
 clear h
 by_cases h:t=[115,108,116,105]
 ·rw [if_pos h] at RS
  have d8:=e [115,108,116,105]
  rw [decide_eq_true h] at d8
  clear h e
  go_enter Tryz.func88,Tryz.ntmps88
  go_wp2
  go_ret
  exact ⟨by rw [RS.o]; rfl,rfl⟩
 have d8:=e [115,108,116,105]
 rw [if_neg h] at RS
 rw [decide_eq_false h] at d8
 clear h
 by_cases h:t=[120,111,114,105]
 ·rw [if_pos h] at RS
  have d9:=e [120,111,114,105]
  rw [decide_eq_true h] at d9
  clear h e
  go_enter Tryz.func88,Tryz.ntmps88
  go_wp2
  go_ret
  exact ⟨by rw [RS.o]; rfl,rfl⟩
 have d9:=e [120,111,114,105]
 rw [if_neg h] at RS
 rw [decide_eq_false h] at d9
 clear h
 by_cases h:t=[111,114,105]
 ·rw [if_pos h] at RS
  have Du:=e [111,114,105]
  rw [decide_eq_true h] at Du
  clear h e
  go_enter Tryz.func88,Tryz.ntmps88
  go_wp2
  go_ret
  exact ⟨by rw [RS.o]; rfl,rfl⟩
 have Du:=e [111,114,105]
 rw [if_neg h] at RS
 rw [decide_eq_false h] at Du
 clear h
 by_cases h:t=[97,110,100,105]
 ·rw [if_pos h] at RS
  have Dv:=e [97,110,100,105]
  rw [decide_eq_true h] at Dv
  clear h e
  go_enter Tryz.func88,Tryz.ntmps88
  go_wp2
  go_ret
  exact ⟨by rw [RS.o]; rfl,rfl⟩
 have Dv:=e [97,110,100,105]
 rw [if_neg h] at RS
 rw [decide_eq_false h] at Dv
 clear h
 by_cases h:t=[108,117,105]
 ·rw [if_pos h] at RS
  have Ck:=e [108,117,105]
  rw [decide_eq_true h] at Ck
  clear h e
  go_enter Tryz.func88,Tryz.ntmps88
  go_wp2
  go_ret
  exact ⟨by rw [RS.o]; rfl,rfl⟩
 have Ck:=e [108,117,105]
 rw [if_neg h] at RS
 rw [decide_eq_false h] at Ck
 clear h
 by_cases h:t=[108,119]
 ·rw [if_pos h] at RS
  have Nu:=e [108,119]
  rw [decide_eq_true h] at Nu
  clear h e
  go_enter Tryz.func88,Tryz.ntmps88
  go_wp2
  go_ret
  exact ⟨by rw [RS.o]; rfl,rfl⟩
 have Nu:=e [108,119]
 rw [if_neg h] at RS
 rw [decide_eq_false h] at Nu
 clear h
 by_cases h:t=[115,119]
 ·rw [if_pos h] at RS
  have Nv:=e [115,119]
  rw [decide_eq_true h] at Nv
  clear h e
  go_enter Tryz.func88,Tryz.ntmps88
  go_wp2
  go_ret
  exact ⟨by rw [RS.o]; rfl,rfl⟩
 have Nv:=e [115,119]
 rw [if_neg h] at RS
 rw [decide_eq_false h] at Nv
 clear h
 by_cases h:t=[106,97,108,114]
 ·rw [if_pos h] at RS
  have Nw:=e [106,97,108,114]
  rw [decide_eq_true h] at Nw
  clear h e
  go_enter Tryz.func88,Tryz.ntmps88
  go_wp2
  go_ret
  exact ⟨by rw [RS.o]; rfl,rfl⟩
 have Nw:=e [106,97,108,114]
 rw [if_neg h] at RS
 rw [decide_eq_false h] at Nw
 clear h
 by_cases h:t=[101,99,97,108,108]
 ·rw [if_pos h] at RS
  have Ny:=e [101,99,97,108,108]
  rw [decide_eq_true h] at Ny
  clear h e
  go_enter Tryz.func88,Tryz.ntmps88
  go_wp2
  go_ret
  exact ⟨by rw [RS.o]; rfl,rfl⟩
 have Ny:=e [101,99,97,108,108]
 rw [if_neg h] at RS
 rw [decide_eq_false h] at Ny
 clear h
 by_cases h:t=[114,101,116]
 ·rw [if_pos h] at RS
  have Nz:=e [114,101,116]
  rw [decide_eq_true h] at Nz
  clear h e
  go_enter Tryz.func88,Tryz.ntmps88
  go_wp2
  go_ret
  exact ⟨by rw [RS.o]; rfl,rfl⟩
 have Nz:=e [114,101,116]
 rw [if_neg h] at RS
 rw [decide_eq_false h] at Nz
 clear h
 by_cases h:t=[110,111,112]
 ·rw [if_pos h] at RS
  have NC:=e [110,111,112]
  rw [decide_eq_true h] at NC
  clear h e
  go_enter Tryz.func88,Tryz.ntmps88
  go_wp2
  go_ret
  exact ⟨by rw [RS.o]; rfl,rfl⟩
 have NC:=e [110,111,112]
 rw [if_neg h] at RS
 rw [decide_eq_false h] at NC
 clear h
 by_cases h:t=[98,101,113]
 ·rw [if_pos h] at RS
  have NG:=e [98,101,113]
  rw [decide_eq_true h] at NG
  clear h e
  go_enter Tryz.func88,Tryz.ntmps88
  go_wp2
  go_ret
  exact ⟨by rw [RS.o]; rfl,rfl⟩
 have NG:=e [98,101,113]
 rw [if_neg h] at RS
 rw [decide_eq_false h] at NG
 clear h
 by_cases h:t=[98,110,101]
 ·rw [if_pos h] at RS
  have NH:=e [98,110,101]
  rw [decide_eq_true h] at NH
  clear h e
  go_enter Tryz.func88,Tryz.ntmps88
  go_wp2
  go_ret
  exact ⟨by rw [RS.o]; rfl,rfl⟩
 have NH:=e [98,110,101]
 rw [if_neg h] at RS
 rw [decide_eq_false h] at NH
 clear h
 by_cases h:t=[98,108,116]
 ·rw [if_pos h] at RS
  have NJ:=e [98,108,116]
  rw [decide_eq_true h] at NJ
  clear h e
  go_enter Tryz.func88,Tryz.ntmps88
  go_wp2
  go_ret
  exact ⟨by rw [RS.o]; rfl,rfl⟩
 have NJ:=e [98,108,116]
 rw [if_neg h] at RS
 rw [decide_eq_false h] at NJ
 clear h
 by_cases h:t=[98,103,101]
 ·rw [if_pos h] at RS
  have NP:=e [98,103,101]
  rw [decide_eq_true h] at NP
  clear h e
  go_enter Tryz.func88,Tryz.ntmps88
  go_wp2
  go_ret
  exact ⟨by rw [RS.o]; rfl,rfl⟩
 have NP:=e [98,103,101]
 rw [if_neg h] at RS
 rw [decide_eq_false h] at NP
 clear h
 by_cases h:t=[98,108,116,117]
 ·rw [if_pos h] at RS
  have NQ:=e [98,108,116,117]
  rw [decide_eq_true h] at NQ
  clear h e
  go_enter Tryz.func88,Tryz.ntmps88
  go_wp2
  go_ret
  exact ⟨by rw [RS.o]; rfl,rfl⟩
 have NQ:=e [98,108,116,117]
 rw [if_neg h] at RS
 rw [decide_eq_false h] at NQ
 clear h
 by_cases h:t=[98,103,101,117]
 ·rw [if_pos h] at RS
  have NR:=e [98,103,101,117]
  rw [decide_eq_true h] at NR
  clear h e
  go_enter Tryz.func88,Tryz.ntmps88
  go_wp2
  go_ret
  exact ⟨by rw [RS.o]; rfl,rfl⟩
 have NR:=e [98,103,101,117]
 rw [if_neg h] at RS
 rw [decide_eq_false h] at NR
 clear h
 by_cases h:t=[106,97,108]
 ·rw [if_pos h] at RS
  have NS:=e [106,97,108]
  rw [decide_eq_true h] at NS
  clear h e
  go_enter Tryz.func88,Tryz.ntmps88
  go_wp2
  go_ret
  exact ⟨by rw [RS.o]; rfl,rfl⟩
 have NS:=e [106,97,108]
 rw [if_neg h] at RS
 rw [decide_eq_false h] at NS
 clear h
 by_cases h:t=[106]
 ·rw [if_pos h] at RS
  have NT:=e [106]
  rw [decide_eq_true h] at NT
  clear h e
  go_enter Tryz.func88,Tryz.ntmps88
  go_wp2
  go_ret
  exact ⟨by rw [RS.o]; rfl,rfl⟩
 have NT:=e [106]
 rw [if_neg h] at RS
 rw [decide_eq_false h] at NT
 clear h
 by_cases h:t=[109,118]
 ·rw [if_pos h] at RS
  have NU:=e [109,118]
  rw [decide_eq_true h] at NU
  clear h e
  go_enter Tryz.func88,Tryz.ntmps88
  go_wp2
  go_ret
  exact ⟨by rw [RS.o]; rfl,rfl⟩
 have NU:=e [109,118]
 rw [if_neg h] at RS
 rw [decide_eq_false h] at NU
 clear h
 by_cases h:t=[108,105]
 ·rw [if_pos h] at RS
  have NV:=e [108,105]
  rw [decide_eq_true h] at NV
  clear h e
  go_enter Tryz.func88,Tryz.ntmps88
  go_wp2
  go_ret
  exact ⟨by rw [RS.o]; rfl,rfl⟩
 have NV:=e [108,105]
 rw [if_neg h] at RS
 rw [decide_eq_false h] at NV
 clear h
 by_cases h:t=[99,97,108,108]
 ·rw [if_pos h] at RS
  have NW:=e [99,97,108,108]
  rw [decide_eq_true h] at NW
  clear h e
  go_enter Tryz.func88,Tryz.ntmps88
  go_wp2
  go_ret
  exact ⟨by rw [RS.o]; rfl,rfl⟩
 have NW:=e [99,97,108,108]
 rw [if_neg h] at RS
 rw [decide_eq_false h] at NW
 clear h
 by_cases h:t=[116,97,105,108]
 ·rw [if_pos h] at RS
  have NY:=e [116,97,105,108]
  rw [decide_eq_true h] at NY
  clear h e
  go_enter Tryz.func88,Tryz.ntmps88
  go_wp2
  go_ret
  exact ⟨by rw [RS.o]; rfl,rfl⟩
 have NY:=e [116,97,105,108]
 rw [if_neg h] at RS
 rw [decide_eq_false h] at NY
 clear h
 by_cases h:t=[108,97]
 ·rw [if_pos h] at RS
  have NZ:=e [108,97]
  rw [decide_eq_true h] at NZ
  clear h e
  go_enter Tryz.func88,Tryz.ntmps88
  go_wp2
  go_ret
  exact ⟨by rw [RS.o]; rfl,rfl⟩
 have NZ:=e [108,97]
 rw [if_neg h] at RS
 rw [decide_eq_false h] at NZ
 clear h
 clear e
 have c:=hid (yjz t w)
 go_enter Tryz.func88,Tryz.ntmps88
 go_wp2_with fail
 refine c.o.mono ?_
 rintro e w1 ⟨rfl,rfl⟩
 go_wp2
 go_ret
 exact ⟨by rw [RS.o]; rfl,rfl⟩
def mh (W:World):Prop:=∀ i,i < 26->W.cell? ⟨2,i,none⟩=some (.string (bs (As.names.getD i [])))
theorem mh.below {B:Nat} {W W':World} (h:mh W) (hb:Below B W W') (hB:3<=B):mh W':=fun i hi=>(hb.cell (show 2 < B by omega)).trans (h i hi)
theorem ypu (k:Nat) (h1:1<=k) (h2:k<=25):As.named (As.names.getD k [])=k:=by
 rcases (show k=1\/k=2\/k=3\/k=4\/k=5\/k=6\/k=7\/k=8\/k=9\/k=10\/k=11\/k=12\/k=13\/k=14\/k=15\/k=16\/k=17\/k=18\/k=19\/k=20\/k=21\/k=22\/k=23\/k=24\/k=25 by omega) with rfl | rfl | rfl | rfl | rfl | rfl | rfl | rfl | rfl | rfl | rfl | rfl | rfl | rfl | rfl | rfl | rfl | rfl | rfl | rfl | rfl | rfl | rfl | rfl | rfl <;> decide
theorem ymQ (t:List UInt8) (h:∀ k,1<=k->k<=25->As.names.getD k []≠t):As.named t=0:=by
 unfold As.named
 have e:(List.range 26).find? (fun k=>decide (1<=k) && As.names.getD k [] == t)=none:=by
  rw [List.find?_eq_none]
  intro k hk
  rw [List.mem_range] at hk
  simp only [Bool.and_eq_true,decide_eq_true_eq,beq_iff_eq,not_and]
  intro h1
  exact h k h1 (by omega)
 rw [e]
 rfl
theorem Zg (t:List UInt8) (w:World) (ht:mh w) :
  Calls Tryz.prog 91 #[.string (bs t)] w fun e w'=>e = .returned (.int .i64 (As.named t:Nat))/\w'=w:=by
 have HT:=hid ht
 have NA:=hid ypu
 have NN:=hid (ymQ t)
 clear ht
 generalize hX:As.named t=X at *
 have HX:=hid hX
 clear hX
 go_enter Tryz.func91,Tryz.ntmps91
 go_wp2
 go_loop [3] (fun i=>∃ k:Nat,1<=k/\k<=26/\i = .int .i64 k/\∀ j,1<=j->j < k->As.names.getD j []≠t) (fun i=>26 - (intOf i).toNat)
 case atStart=>exact ⟨1,Nat.le_refl _,by omega,rfl,fun j h1 h2=>by omega⟩
 case round =>
  obtain ⟨k,hk1,hk2,rfl,hall⟩:=hrel
  have HA:=hid hall
  clear hall
  by_cases hlt:k<=25
  ·have cx:=HT.o k (by omega)
   have NK:=hid (NA.o k hk1 hlt)
   have g1:(1:Int)<=(k:Int):=by omega
   have g2:(k:Int)<=25:=by omega
   generalize hnm:As.names.getD k []=nm at *
   have XJ:=hid hnm
   clear hnm
   by_cases e1:nm=t
   ·have b1:((bs nm).toList == (bs t).toList)=true:=by rw [e1]; simp
    have E:=hid (show X=k by rw [<- HX.o,<- e1]; exact NK.o)
    clear e1
    go_wp2
    go_ret
    exact ⟨by rw [E.o]; rfl,rfl⟩
   ·have E:=hid e1
    have b1:((bs nm).toList == (bs t).toList)=false:=by rw [yG,yG]; simpa using e1
    clear e1
    go_wp2
    go_round
    case rel=>exact ⟨k+1,by omega,by omega,by go_num,fun j hj hjk=>(Nat.lt_succ_iff_lt_or_eq.1 hjk).elim (fun h=>HA.o j hj h) (fun h=>by subst h; rw [XJ.o]; exact E.o)⟩
    case measure=>simp [intOf]; omega
  ·have g2:(25:Int) < (k:Int):=by omega
   have E:=hid (NN.o (fun j h1 h2=>HA.o j h1 (by omega)))
   go_wp2
   go_ret
   exact ⟨by rw [E.o]; rfl,rfl⟩
theorem yjV (B:Nat) (s:ByteArray) (b g:Nat) (st:As.St) (shape:Nat) (W:World) (h:yl B s b g st W) (h1:1<=shape) (h2:shape<=19) :
  Calls Tryz.prog 89 #[.pointer (some ⟨b,0,none⟩),.int .i64 shape] W fun e W'=>e = .returned (.bool (As.jW shape st.ah))/\W'=W:=by
 have c:=tH h
 have cI:=hid (UW B s b g st W h)
 have hs:=h.ok.ah
 clear h
 generalize st.ah=ah at *
 have RS:=hid (show As.jW shape ah=if shape<=14 then As.lU ah else !(shape == 16) || !(ah == 4) from rfl)
 generalize As.jW shape ah=X at *
 by_cases tO:shape<=14
 ·have d:decide ((shape:Int)<=14)=true:=by simp; omega
  rw [if_pos tO] at RS
  clear tO
  go_enter Tryz.func89,Tryz.ntmps89
  go_wp2_with fail
  refine cI.o.mono ?_
  rintro e w1 ⟨rfl,rfl⟩
  go_wp2
  go_ret
  exact ⟨by rw [RS.o]; rfl,rfl⟩
 ·have d:decide ((shape:Int)<=14)=false:=by simp; omega
  rw [if_neg tO] at RS
  by_cases h16:shape=16
  ·have d1:((shape:Int) == 16)=true:=by simp; omega
   have d1':((shape:Int) != 16)=false:=by simp; omega
   rw [show (shape == 16)=true by simp [h16]] at RS
   clear tO h16 h1 h2
   rcases (show ah=1\/ah=2\/ah=3\/ah=4 by omega) with rfl | rfl | rfl | rfl
   all_goals
    go_enter Tryz.func89,Tryz.ntmps89
    go_wp2
    go_ret
    exact ⟨by rw [RS.o]; rfl,rfl⟩
  ·have d1:((shape:Int) == 16)=false:=by simp; omega
   have d1':((shape:Int) != 16)=true:=by simp; omega
   rw [show (shape == 16)=false by simp [h16]] at RS
   clear tO h16 h1 h2
   go_enter Tryz.func89,Tryz.ntmps89
   go_wp2
   go_ret
   exact ⟨by rw [RS.o]; rfl,rfl⟩
end Go.Proofs.YtpgklkhgfcjceaaGreatDoor
