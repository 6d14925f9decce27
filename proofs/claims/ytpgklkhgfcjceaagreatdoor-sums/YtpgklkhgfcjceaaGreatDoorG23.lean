/- Linking. -/
/- Operations by their names, lines, texts, as functions. -/
/- The assembler: borders. -/
/- The assembler: align. -/
/- Walks: operations by their names. -/
/- Walks: operations by their names. -/
/- Walks: instructions by their names. -/
import Derived.Test.YtpgklkhgfcjceaaGreatDoorG22
import Derived.Test.YtpgklkhgfcjceaaGreatDoorG14
import Derived.Test.YtpgklkhgfcjceaaGreatDoorG20
namespace Go.Proofs.YtpgklkhgfcjceaaGreatDoor
open Go.RowKit
namespace Ln
def linkO (os:List Lk.Obj) (bt bf bd:Int):List UInt8×Flt :=
 if (resolveFlt os).e≠0 then ([],resolveFlt os)
 else if (placesFlt (linkImg os bt bf bd) (linkMods os bt bf bd)).e≠0 then ([],placesFlt (linkImg os bt bf bd) (linkMods os bt bf bd))
 else (Im.bytes (linkImg os bt bf bd),ok)
end Ln
def ydc (bt bf bd:Int) (fs:List (List UInt8)) (e:Ending):Prop :=
 (∃ f:Ln.Flt,f.e≠0/\e = .returned (.tuple #[.string (bs []),lfA f]) /\
  (f=yab bt bf bd \/
  (yab bt bf bd=Ln.ok/\(fs.length < 1\/8 < fs.length)/\f=⟨31,0,[]⟩) \/
  (yab bt bf bd=Ln.ok/\1<=fs.length/\fs.length<=8/\∃ i,∃ h:i < fs.length,f=⟨32,i,[]⟩/\yfn fs[i]/\∀ j (hj:j < i),∃ a os,yaU (fs[j]'(by omega)) a os))) \/
 (yab bt bf bd=Ln.ok/\1<=fs.length/\fs.length<=8/\∃ (xs:List (Bool×List Lk.Obj)) (hx:xs.length=fs.length),(∀ i (h:i < fs.length),yaU fs[i] (xs[i]'(by omega)).1 (xs[i]'(by omega)).2)/\e = .returned (.tuple #[.string (bs (Ln.linkO (Ln.takeAll xs) bt bf bd).1),lfA (Ln.linkO (Ln.takeAll xs) bt bf bd).2]))
theorem ymf {bt bf bd:Int} (h:yab bt bf bd=Ln.ok):Im.Base bt/\Im.Base bf/\Im.Base bd:=by
 have e:(yab bt bf bd).e=0:=by rw [h]; rfl
 unfold yab at e
 by_cases h1:¬ Im.Base bt
 ·rw [if_pos h1] at e; cases e
 rw [if_neg h1] at e
 by_cases h2:¬ Im.Base bf
 ·rw [if_pos h2] at e; cases e
 rw [if_neg h2] at e
 by_cases h3:¬ Im.Base bd
 ·rw [if_pos h3] at e; cases e
 exact ⟨Classical.not_not.1 h1,Classical.not_not.1 h2,Classical.not_not.1 h3⟩
theorem ykJ {fs:List (List UInt8)} {xs:List (Bool×List Lk.Obj)} (hx:xs.length=fs.length) (h8:fs.length<=8) (h:∀ i (h:i < fs.length),yaU fs[i] (xs[i]'(by omega)).1 (xs[i]'(by omega)).2):(∀ o∈Ln.takeAll xs,yv o)/\(Ln.takeAll xs).length<=48:=by
 have q:∀ x∈xs,(∀ o∈x.2,yv o)/\x.2.length<=6:=by
  intro x hm
  obtain ⟨i,hi,rfl⟩:=List.getElem_of_mem hm
  exact yjs (h i (by omega))
 refine ⟨ylw yv xs [] (fun x hm=>(q x hm).1) (by simp),?_⟩
 have:=ylx xs [] (fun x hm=>(q x hm).2)
 unfold Ln.takeAll
 simp only [List.length_nil] at this
 omega
theorem yah.flt {W:World} {I R:Nat} {img:Im.Img} {cs:Array Value} (h:yah W I img) (hb:yc W R cs 45) (a b c:Value):yah (((W.setCell ⟨R,0,none⟩ a).setCell ⟨R,1,none⟩ b).setCell ⟨R,2,none⟩ c) I img:=by
 have G:=World.grownBy.trans (World.grownBy.trans (yf W R 0 a) (yf _ R 1 b)) (yf _ R 2 c)
 obtain ⟨vt,vf,vd,q0,q1,q2,q3⟩:=h
 have RT:=RowT.blk hb
 exact ⟨vt,vf,vd,yF q0 G RT (by decide),yy q1 G RT (by decide),yy q2 G RT (by decide),yy q3 G RT (by decide)⟩
theorem ylE {W:World} {R:Nat} {x y z:Value} (h:yc W R #[x,y,z] 45) (a b c:Value):yc (((W.setCell ⟨R,0,none⟩ a).setCell ⟨R,1,none⟩ b).setCell ⟨R,2,none⟩ c) R #[a,b,c] 45:=by
 simpa using ((h.set 0 a).set 1 b).set 2 c
theorem ykw {xs:List Int} (h:W32 xs):yfO xs:=fun i hi=>by
 have:=h _ (ysr hi)
 omega
set_option maxRecDepth 100000 in
set_option maxHeartbeats 8000000 in
theorem yoX (bt bf bd:Int) (af:Option Addr) (cf:Nat) (fs:List (List UInt8)) (w:World) (hin:ycR w af fs) (hsz:∀ f∈fs,f.length<=1048576) (ht:Tabs w) (hn:fs.length<=1048576) :
  Calls Tryz.prog 28 #[.slice af fs.length cf,.agg #[.int .i64 bt,.int .i64 bf,.int .i64 bd]] w fun e w'=>ydc bt bf bd fs e/\w.grownBy w' none:=by
 have HT:=hid ht
 have HI:=hid hin
 have cG:=hid (fun W (hg:w.grownBy W none)=>ymo bt bf bd af cf fs W (HI.out.kept hg) hsz (HT.out.grown hg) hn)
 have hs1:(w.alloc (.cells #[.int .i64 bt,.int .i64 bf,.int .i64 bd] 33)).heap.size=w.heap.size+1:=Array.size_push _
 have A1:=ysp (w.alloc (.cells #[.int .i64 bt,.int .i64 bf,.int .i64 bd] 33)) (.cells #[.int .i64 0,.int .i64 0,.string ⟨#[]⟩] 45) none
 have G1:=hid (ya (ysp w (.cells #[.int .i64 bt,.int .i64 bf,.int .i64 bd] 33) none) A1)
 have BR:=hid (yc.new (w.alloc (.cells #[.int .i64 bt,.int .i64 bf,.int .i64 bd] 33)) #[.int .i64 0,.int .i64 0,.string ⟨#[]⟩] 45)
 rw [hs1] at BR
 clear hin ht A1 hs1
 go_enter Tryz.func28,Tryz.ntmps28
 go_wp2_with fail
 generalize (w.alloc (.cells #[.int .i64 bt,.int .i64 bf,.int .i64 bd] 33)).alloc (.cells #[.int .i64 0,.int .i64 0,.string ⟨#[]⟩] 45)=W1 at *
 have hRw:w.heap.size<=w.heap.size+1:=by omega
 generalize w.heap.size+1=R at *
 refine (cG.out _ G1.out).mono ?_
 rintro e W2 ⟨hg,h2⟩
 have G2:=hid (ya G1.out h2)
 have BR2:=hid (BR.out.grown h2 (by simp))
 have hR1:=BR.out.lt
 have hR2:=BR2.out.lt
 have H12:=hid h2
 clear h2 cG BR
 rcases hg with ⟨f,hf,rfl,hc⟩ | ⟨hb,hl1,hl2,xs,hx,P,vm,bl,gl,hfi,rfl,hga⟩
 ·have RET:=hid (show ydc bt bf bd fs (.returned (.tuple #[.string (bs []),lfA f])) from .inl ⟨f,hf,rfl,hc⟩)
  obtain ⟨fe,fa,fn⟩:=f
  unfold lfA
  dsimp only at *
  have d1:(fe == 0)=false:=by simpa using hf
  have d2:(fe != 0)=true:=by simpa using hf
  have BX:=hid (yc.new W2 #[.int .i64 fe,.int .i64 fa,.string (bs fn)] 45)
  have AX:=hid (ysp W2 (.cells #[.int .i64 fe,.int .i64 fa,.string (bs fn)] 45) none)
  have BF:=hid (BR2.out.grown AX.out (by simp))
  have G3:=hid (ya G2.out AX.out)
  clear hf hc
  go_wp2
  generalize W2.alloc (.cells #[.int .i64 fe,.int .i64 fa,.string (bs fn)] 45)=V at *
  have hXR:R≠W2.heap.size:=by omega
  generalize W2.heap.size=X at *
  have x0:V.cell? ⟨X,0,none⟩=some (.int .i64 fe):=BX.out.cell 0
  have x1:V.cell? ⟨X,1,none⟩=some (.int .i64 fa):=BX.out.cell 1
  have x2:V.cell? ⟨X,2,none⟩=some (.string (bs fn)):=BX.out.cell 2
  have z0:V.cell? ⟨R,0,none⟩=some (.int .i64 0):=BF.out.cell 0
  have z1:V.cell? ⟨R,1,none⟩=some (.int .i64 0):=BF.out.cell 1
  have z2:V.cell? ⟨R,2,none⟩=some (.string ⟨#[]⟩):=BF.out.cell 2
  have f0:=BF.out.free 0
  have f1:=BF.out.free 1
  have f2:=BF.out.free 2
  go_region_held3 (fun w'=>w'.cell? ⟨X,0,none⟩=some (.int .i64 fe)/\w'.cell? ⟨X,1,none⟩=some (.int .i64 fa)/\w'.cell? ⟨X,2,none⟩=some (.string (bs fn)))
   (go_keep)
   (fail)
  go_wp2
  have F:=yaO (((BF.out.set 0 (.int .i64 fe)).set 1 (.int .i64 fa)).set 2 (.string (bs fn)))
  have h0:=F.cell 0
  have h1:=F.cell 1
  have h2:=F.cell 2
  simp only [yso,ysm,ysn,ysk,ysl,ysj] at h0 h1 h2
  refine bodyPost_ret (v:=.tuple #[.string (bs []),lfA ⟨fe,fa,fn⟩]) ?_ rfl ⟨RET.out,yi (yx G3.out _ hRw _ _ _)⟩
  clear F z0 z1 z2 f0 f1 f2
  generalize World.drew _=WF at *
  simp [results,Tryz.results28,go_sem,lfA,bs,h0,h1,h2]
 ·have LV:=ykJ hx hl2 hfi
  have FIN:=hid (fun (b:List UInt8) (f:Ln.Flt) (h:Ln.linkO (Ln.takeAll xs) bt bf bd=(b,f))=>show ydc bt bf bd fs (.returned (.tuple #[.string (bs b),lfA f])) from .inr ⟨hb,hl1,hl2,xs,hx,hfi,by rw [h]⟩)
  have hbs:=ymf hb
  clear hb hl1 hl2 hfi
  generalize Ln.takeAll xs=os at *
  have OK:=hid (yqy LV.1 LV.2 hbs.1 hbs.2.1 hbs.2.2)
  have RA:=hid (yip os LV.1)
  have t:=ycJ hbs.1
  have f:=ycJ hbs.2.1
  have d:=ycJ hbs.2.2
  have LO:=hga.lenO
  have AX:=ysp W2 (.cells #[.int .i64 0,.int .i64 0,.string (bs [])] 45) none
  have HP:=hid ((hga.prog.kept AX).f)
  have BX:=hid (yc.new W2 #[.int .i64 0,.int .i64 0,.string (bs [])] 45)
  have BF:=hid (BR2.out.grown AX (by simp))
  have hXR:R≠W2.heap.size:=by omega
  have hX1:=hid H12.out.size
  have RS:=hid (show Ln.linkO os bt bf bd=if (Ln.resolveFlt os).e≠0 then ([],Ln.resolveFlt os) else if (Ln.placesFlt (Ln.linkImg os bt bf bd) (Ln.linkMods os bt bf bd)).e≠0 then ([],Ln.placesFlt (Ln.linkImg os bt bf bd) (Ln.linkMods os bt bf bd)) else (Im.bytes (Ln.linkImg os bt bf bd),Ln.ok) from rfl)
  have HL48:=hid LV.2
  clear hga AX hx LV hbs
  unfold lfA Ln.ok
  dsimp only
  go_upto_region 4 with fail
  generalize W2.alloc (.cells #[.int .i64 0,.int .i64 0,.string (bs [])] 45)=V at *
  generalize W2.heap.size=X at *
  have cRes:=hid (yli V W1 P bt bf bd vm bl gl os V HP.out)
  generalize Ln.resolveFlt os=tf at *
  obtain ⟨te,ta,tn⟩:=tf
  unfold lfA ptrV at cRes
  unfold ptrV
  dsimp only at *
  go_wp2_with fail
  refine cRes.out.mono ?_
  rintro e V3 ⟨rfl,h3⟩
  have P3:=hid h3.toProgAt
  have BX3:=hid (h3.kf _ _ BX.out)
  have BR3:=hid (h3.kf _ _ BF.out)
  clear h3 cRes HP BX BF BR2
  have P4:=hid (P3.out.flt BX3.out hX1.out (.int .i64 te) (.int .i64 ta) (.string (bs tn)))
  have BX4:=hid (ylE BX3.out (.int .i64 te) (.int .i64 ta) (.string (bs tn)))
  have BF:=hid (yec BR3.out hXR (.int .i64 te) (.int .i64 ta) (.string (bs tn)))
  have x0:V3.cell? ⟨X,0,none⟩=some (.int .i64 0):=BX3.out.cell 0
  have x1:V3.cell? ⟨X,1,none⟩=some (.int .i64 0):=BX3.out.cell 1
  have x2:V3.cell? ⟨X,2,none⟩=some (.string (bs [])):=BX3.out.cell 2
  have y0:V3.frozen? ⟨X,0,none⟩=false:=BX3.out.free 0
  have y1:V3.frozen? ⟨X,1,none⟩=false:=BX3.out.free 1
  have y2:V3.frozen? ⟨X,2,none⟩=false:=BX3.out.free 2
  go_upto_region 5 with fail
  clear x0 x1 x2 y0 y1 y2 P3 BX3 BR3
  generalize (((V3.setCell ⟨X,0,none⟩ (.int .i64 te)).setCell ⟨X,1,none⟩ (.int .i64 ta)).setCell ⟨X,2,none⟩ (.string (bs tn)))=V4 at *
  have x0:V4.cell? ⟨X,0,none⟩=some (.int .i64 te):=BX4.out.cell 0
  have x1:V4.cell? ⟨X,1,none⟩=some (.int .i64 ta):=BX4.out.cell 1
  have x2:V4.cell? ⟨X,2,none⟩=some (.string (bs tn)):=BX4.out.cell 2
  have G3:=hid (ya G1.out P4.out.gr)
  by_cases he:te=0
  case neg =>
   have d1:(te == 0)=false:=by simpa using he
   have d2:(te != 0)=true:=by simpa using he
   have RET:=hid (FIN.out [] ⟨te,ta,tn⟩ (by rw [RS.out,if_pos he]))
   clear he
   go_wp2
   have z0:V4.cell? ⟨R,0,none⟩=some (.int .i64 0):=BF.out.cell 0
   have z1:V4.cell? ⟨R,1,none⟩=some (.int .i64 0):=BF.out.cell 1
   have z2:V4.cell? ⟨R,2,none⟩=some (.string ⟨#[]⟩):=BF.out.cell 2
   have f0:=BF.out.free 0
   have f1:=BF.out.free 1
   have f2:=BF.out.free 2
   go_region_held3 (fun w'=>w'.cell? ⟨X,0,none⟩=some (.int .i64 te)/\w'.cell? ⟨X,1,none⟩=some (.int .i64 ta)/\w'.cell? ⟨X,2,none⟩=some (.string (bs tn)))
    (go_keep)
    (fail)
   go_wp2
   have F:=yaO (((BF.out.set 0 (.int .i64 te)).set 1 (.int .i64 ta)).set 2 (.string (bs tn)))
   have h0:=F.cell 0
   have h1:=F.cell 1
   have h2:=F.cell 2
   simp only [yso,ysm,ysn,ysk,ysl,ysj] at h0 h1 h2
   refine bodyPost_ret (v:=.tuple #[.string (bs []),lfA ⟨te,ta,tn⟩]) ?_ rfl ⟨RET.out,yi (yx G3.out _ hRw _ _ _)⟩
   clear F z0 z1 z2 f0 f1 f2
   generalize World.drew _=WF at *
   simp [results,Tryz.results28,go_sem,lfA,bs,h0,h1,h2]
  case pos =>
   subst he
   have RS2:=hid (show Ln.linkO os bt bf bd=if (Ln.placesFlt (Ln.linkImg os bt bf bd) (Ln.linkMods os bt bf bd)).e≠0 then ([],Ln.placesFlt (Ln.linkImg os bt bf bd) (Ln.linkMods os bt bf bd)) else (Im.bytes (Ln.linkImg os bt bf bd),Ln.ok) by rw [RS.out,if_neg (by simp)])
   have cLay:=hid (ymx V4 W1 P bt bf bd vm bl gl _ _ 0 V4 P4.out.f (fun m hm=>by rw [<- LO]; exact (RA.out m hm).nice) (fun m hm=>(RA.out m hm).obj) (fun m hm=>(RA.out m hm).short) (by omega) (by omega) (by omega))
   clear RS RA
   unfold ptrV at cLay
   go_wp2_with fail
   refine cLay.out.mono ?_
   rintro e V5 ⟨rfl,h5⟩
   have P5:=hid (show ProgAt W1 P bt bf bd vm bl gl (Ln.linkMods os bt bf bd) (Ln.named os Ln.startN) (Ln.noughts bd (Ln.shorten (Ln.lay bt bf bd (Ln.resAll os (os.map Ln.bare))))) V5 from h5.toProgAt)
   have BX5:=hid (h5.kf _ _ BX4.out)
   have BR5:=hid (h5.kf _ _ BF.out)
   clear h5 cLay x0 x1 x2 P4 BX4 BF G3
   have cB:=hid (ynp W1 P bt bf bd vm bl gl _ _ _ V5 (HT.out.grown (ya G1.out P5.out.gr)) P5.out (by rw [<- LO]; exact OK.out.nice) OK.out.valid OK.out.low OK.out.mean (by rw [<- LO]; exact OK.out.start) (by rw [<- LO]; exact HL48.out) (by omega) (by omega) (by omega))
   unfold ptrV at cB
   go_wp2_with fail
   refine cB.out.mono ?_
   rintro e V6 ⟨I,rfl,hI,h6⟩
   have I6:=hid (show yah V6 I (Ln.linkImg os bt bf bd) from hI)
   have P6:=hid (P5.out.kept h6)
   have BX6:=hid (BX5.out.grown h6 (by simp))
   have BR6:=hid (BR5.out.grown h6 (by simp))
   clear hI h6 cB P5 BX5 BR5
   have cC:=hid (ygL W1 P bt bf bd vm bl gl _ _ _ I _ V6 P6.out (by rw [<- LO]; exact OK.out.nice) I6.out OK.out.tame)
   generalize Ln.placesFlt (Ln.linkImg os bt bf bd) (Ln.linkMods os bt bf bd)=pf at *
   obtain ⟨pe,pa,pn⟩:=pf
   unfold ptrV lfA at cC
   dsimp only at *
   go_wp2_with fail
   refine cC.out.mono ?_
   rintro e V7 ⟨rfl,h7⟩
   have I7:=hid (I6.out.kept h7)
   have P7:=hid (P6.out.kept h7)
   have BX7:=hid (BX6.out.grown h7 (by simp))
   have BR7:=hid (BR6.out.grown h7 (by simp))
   clear h7 cC I6 P6 BX6 BR6
   have I8:=hid (I7.out.flt BX7.out (.int .i64 pe) (.int .i64 pa) (.string (bs pn)))
   have P8:=hid (P7.out.flt BX7.out hX1.out (.int .i64 pe) (.int .i64 pa) (.string (bs pn)))
   have BX8:=hid (ylE BX7.out (.int .i64 pe) (.int .i64 pa) (.string (bs pn)))
   have BF:=hid (yec BR7.out hXR (.int .i64 pe) (.int .i64 pa) (.string (bs pn)))
   have x0:V7.cell? ⟨X,0,none⟩=some (.int .i64 0):=BX7.out.cell 0
   have x1:V7.cell? ⟨X,1,none⟩=some (.int .i64 ta):=BX7.out.cell 1
   have x2:V7.cell? ⟨X,2,none⟩=some (.string (bs tn)):=BX7.out.cell 2
   have y0:V7.frozen? ⟨X,0,none⟩=false:=BX7.out.free 0
   have y1:V7.frozen? ⟨X,1,none⟩=false:=BX7.out.free 1
   have y2:V7.frozen? ⟨X,2,none⟩=false:=BX7.out.free 2
   go_upto_region 10 with fail
   clear x0 x1 x2 y0 y1 y2 P7 BX7 BR7 I7
   generalize (((V7.setCell ⟨X,0,none⟩ (.int .i64 pe)).setCell ⟨X,1,none⟩ (.int .i64 pa)).setCell ⟨X,2,none⟩ (.string (bs pn)))=V8 at *
   have x0:V8.cell? ⟨X,0,none⟩=some (.int .i64 pe):=BX8.out.cell 0
   have x1:V8.cell? ⟨X,1,none⟩=some (.int .i64 pa):=BX8.out.cell 1
   have x2:V8.cell? ⟨X,2,none⟩=some (.string (bs pn)):=BX8.out.cell 2
   have G3:=hid (ya G1.out P8.out.gr)
   by_cases he:pe=0
   case neg =>
    have d1:(pe == 0)=false:=by simpa using he
    have d2:(pe != 0)=true:=by simpa using he
    have RET:=hid (FIN.out [] ⟨pe,pa,pn⟩ (by rw [RS2.out,if_pos he]))
    clear he
    go_wp2
    have z0:V8.cell? ⟨R,0,none⟩=some (.int .i64 0):=BF.out.cell 0
    have z1:V8.cell? ⟨R,1,none⟩=some (.int .i64 0):=BF.out.cell 1
    have z2:V8.cell? ⟨R,2,none⟩=some (.string ⟨#[]⟩):=BF.out.cell 2
    have f0:=BF.out.free 0
    have f1:=BF.out.free 1
    have f2:=BF.out.free 2
    go_region_held3 (fun w'=>w'.cell? ⟨X,0,none⟩=some (.int .i64 pe)/\w'.cell? ⟨X,1,none⟩=some (.int .i64 pa)/\w'.cell? ⟨X,2,none⟩=some (.string (bs pn)))
     (go_keep)
     (fail)
    go_wp2
    have F:=yaO (((BF.out.set 0 (.int .i64 pe)).set 1 (.int .i64 pa)).set 2 (.string (bs pn)))
    have h0:=F.cell 0
    have h1:=F.cell 1
    have h2:=F.cell 2
    simp only [yso,ysm,ysn,ysk,ysl,ysj] at h0 h1 h2
    refine bodyPost_ret (v:=.tuple #[.string (bs []),lfA ⟨pe,pa,pn⟩]) ?_ rfl ⟨RET.out,yi (yx G3.out _ hRw _ _ _)⟩
    clear F z0 z1 z2 f0 f1 f2
    generalize World.drew _=WF at *
    simp [results,Tryz.results28,go_sem,lfA,bs,h0,h1,h2]
   case pos =>
    subst he
    have RET:=hid (FIN.out (Im.bytes (Ln.linkImg os bt bf bd)) Ln.ok (by rw [RS2.out,if_neg (by simp)]))
    have iw:=ykO (Ln.named os Ln.startN) bt bf bd (Ln.noughts bd (Ln.shorten (Ln.lay bt bf bd (Ln.resAll os (os.map Ln.bare))))) OK.out.valid
    have cW:=hid (yjA I (Ln.linkImg os bt bf bd) V8 I8.out OK.out.tame (ykw iw.1) (ykw iw.2.1) (ykw iw.2.2))
    clear iw
    go_wp2_with fail
    refine cW.out.mono ?_
    rintro e V9 ⟨rfl,h9⟩
    have G9:=hid (ya G3.out h9)
    have BR:=hid (BF.out.grown h9 (by simp))
    clear h9 cW x0 x1 x2 P8 BX8 I8 BF
    have z0:V9.cell? ⟨R,0,none⟩=some (.int .i64 0):=BR.out.cell 0
    have z1:V9.cell? ⟨R,1,none⟩=some (.int .i64 0):=BR.out.cell 1
    have z2:V9.cell? ⟨R,2,none⟩=some (.string ⟨#[]⟩):=BR.out.cell 2
    have f0:=BR.out.free 0
    have f1:=BR.out.free 1
    have f2:=BR.out.free 2
    go_wp2
    have F:=((BR.out.set 0 (.int .i64 0)).set 1 (.int .i64 0)).set 2 (.string ⟨#[]⟩)
    have h0:=F.cell 0
    have h1:=F.cell 1
    have h2:=F.cell 2
    simp only [yso,ysm,ysn,ysk,ysl,ysj] at h0 h1 h2
    refine bodyPost_ret (v:=.tuple #[.string (bs (Im.bytes (Ln.linkImg os bt bf bd))),lfA Ln.ok]) ?_ rfl ⟨RET.out,yx G9.out _ hRw _ _ _⟩
    clear F z0 z1 z2 f0 f1 f2
    generalize World.setCell _ _ _=WF at *
    simp [results,Tryz.results28,go_sem,lfA,Ln.ok,bs,h0,h1,h2]
end Go.Proofs.YtpgklkhgfcjceaaGreatDoor

namespace Go.Proofs.YtpgklkhgfcjceaaGreatDoor
namespace As
def dirShape (t:List UInt8):Nat :=
 if t=[46,116,101,120,116] then 15 else
 if t=[46,102,97,114] then 15 else
 if t=[46,100,97,116,97] then 15 else
 if t=[46,98,115,115] then 15 else
 if t=[46,119,111,114,100] then 16 else
 if t=[46,115,112,97,99,101] then 17 else
 if t=[46,97,108,105,103,110] then 18 else
 if t=[46,103,108,111,98,108] then 19 else
 if t=[46,119,101,97,107] then 19 else
 0
def shapeOf (t:List UInt8):Nat :=
 if t=[97,100,100] then 1 else
 if t=[115,117,98] then 1 else
 if t=[115,108,116] then 1 else
 if t=[115,108,116,117] then 1 else
 if t=[120,111,114] then 1 else
 if t=[111,114] then 1 else
 if t=[97,110,100] then 1 else
 if t=[97,100,100,105] then 2 else
 if t=[115,108,116,105] then 2 else
 if t=[120,111,114,105] then 2 else
 if t=[111,114,105] then 2 else
 if t=[97,110,100,105] then 2 else
 if t=[108,117,105] then 3 else
 if t=[108,119] then 4 else
 if t=[115,119] then 5 else
 if t=[106,97,108,114] then 6 else
 if t=[101,99,97,108,108] then 7 else
 if t=[114,101,116] then 7 else
 if t=[110,111,112] then 7 else
 if t=[98,101,113] then 8 else
 if t=[98,110,101] then 8 else
 if t=[98,108,116] then 8 else
 if t=[98,103,101] then 8 else
 if t=[98,108,116,117] then 8 else
 if t=[98,103,101,117] then 8 else
 if t=[106,97,108] then 9 else
 if t=[106] then 10 else
 if t=[109,118] then 11 else
 if t=[108,105] then 12 else
 if t=[99,97,108,108] then 13 else
 if t=[116,97,105,108] then 13 else
 if t=[108,97] then 14 else
 dirShape t
def names:List (List UInt8):=[[],[108,117,105],[97,117,105,112,99],[106,97,108],[106,97,108,114],[98,101,113],[98,110,101],[98,108,116],[98,103,101],[98,108,116,117],[98,103,101,117],[108,119],[115,119],[97,100,100,105],[115,108,116,105],[120,111,114,105],[111,114,105],[97,110,100,105],[97,100,100],[115,117,98],[115,108,116],[115,108,116,117],[120,111,114],[111,114],[97,110,100],[101,99,97,108,108]]
def named (t:List UInt8):Nat:=((List.range 26).find? fun k=>decide (1<=k) && names.getD k [] == t).getD 0
def instruction (s:List UInt8) (shape op:Nat) (st:St):St :=
 if shape=1 then threeRegs s op st else if shape=2 then twoRegsNum s op st else if shape=3 then upper s st else if shape=4 then load s st
 else if shape=5 then store s st else if shape=6 then jumpRegister s st else if shape=7 then bare st else if shape=8 then branch s op st
 else if shape=9 then jumpLink s st else if shape=10 then layJump s 0 st else if shape=11 then move s st else if shape=12 then loadNumber s st
 else if shape=13 then call s st else if shape=14 then loadAddress s st else st
def directive (s:List UInt8) (shape:Nat) (st:St):St :=
 if shape=15 then section' st else if shape=16 then word s st else if shape=17 then space s st else if shape=18 then align s st
 else if shape=19 then binding s st else st
def mayStand (shape sect:Nat):Bool:=if shape<=14 then inCode sect else !(shape == 16) || !(sect == 4)
def operation (s:List UInt8) (t:Tok) (st:St):St :=
 if shapeOf t.text=0 then refuse 6 t.pos st
 else if !mayStand (shapeOf t.text) st.sect then refuse 9 t.pos st
 else if shapeOf t.text<=14 then instruction s (shapeOf t.text) (named t.text) { st with op:=t }
 else directive s (shapeOf t.text) { st with op:=t }
def lineOp (s:List UInt8) (t:Tok) (st:St):St :=
 let st1:=if t.kind == 1 then operation s t st else st
 if st1.tok.kind == 4 then st1 else refuse 3 st1.tok.pos st1
def line (s:List UInt8) (st:St):St :=
 let w:=takeWord s (advance s st)
 if w.1.kind == 1 && w.2.tok.is [58] then
  let v:=takeWord s (advance s (label w.1 w.2))
  lineOp s v.1 v.2
 else lineOp s w.1 w.2
def lines (s:List UInt8):Nat->St->St
 | 0,st=>st
 | n+1,st =>
  let r:=nextLine s (line s st)
  if r.1 then lines s n r.2 else r.2
def bindRest (ys:List Lk.Sym):List Lk.Sym:=ys.map fun y=>if y.sect=0/\y.bind=0 then ⟨y.name,1,y.sect,y.off⟩ else y
def orderRels (rs:List Lk.Rel):List Lk.Rel:=(rs.filter fun r=>r.sect=1) ++ (rs.filter fun r=>r.sect=2) ++ (rs.filter fun r=>r.sect=3)
def start:St:=⟨0,Tok.nil,0,0,Tok.nil,1,⟨[],[],[],0,[2,2,2,2],[],[]⟩⟩
def finish (o:Lk.Obj):Lk.Obj:={ o with syms:=bindRest o.syms,rels:=orderRels o.rels }
def assemble (s:List UInt8):(Nat×Nat)×Lk.Obj :=
 if 1000 < s.length then ((1,0),start.obj)
 else ((( lines s (s.length+1) start).fe,(lines s (s.length+1) start).fa),finish (lines s (s.length+1) start).obj)
end As
end Go.Proofs.YtpgklkhgfcjceaaGreatDoor

namespace Go.Proofs.YtpgklkhgfcjceaaGreatDoor
open Go.RowKit
set_option maxHeartbeats 1000000 in
theorem ygR (B:Nat) (s:ByteArray) (b g:Nat) (st:As.St) (W:World) (h:yl B s b g st W) :
  Calls Tryz.prog 138 #[.pointer (some ⟨b,0,none⟩)] W fun e W'=>e = .returned (.bool (As.inCode st.sect))/\W'=W:=by
 have c:=yai h
 have hs:=h.ok.sect
 clear h
 generalize st.sect=sect at *
 rcases (show sect=1\/sect=2\/sect=3\/sect=4 by omega) with rfl | rfl | rfl | rfl
 all_goals
  go_enter Tryz.func138,Tryz.ntmps138
  go_wp2
  go_ret
  exact ⟨rfl,rfl⟩
theorem ykD {B:Nat} {s:ByteArray} {b g:Nat} {V:World} {st:As.St} (h:yl B s b g st V) (i:Nat) (hi:i < 4):∃ vt vf vd ag cs vs vr x,yaD B V b g st.obj vt vf vd (.slice (some ⟨ag,0,none⟩) 4 cs) vs vr/\V.cell? ⟨g,4,none⟩=some (.slice (some ⟨ag,0,none⟩) 4 cs) /\
  st.obj.align[i]?=some x/\V.cell? ⟨ag,i,none⟩=some (.int .i64 x)/\(∀ o,V.frozen? ⟨ag,o,none⟩=false)/\4<=cs:=by
 have h4:=h.ok.align
 obtain ⟨vt,vf,vd,va,vs,vr,ho⟩:=h.own
 obtain ⟨as_,cs,rfl⟩:=yh ho.align
 obtain ⟨ag,cur,rfl,hb,-,-,hcs⟩:=ylM ho.align (by omega)
 obtain ⟨ag',off,hag,hc⟩:=yz.of_own ho.align (by omega)
 simp only [Option.some.injEq,Addr.mk.injEq] at hag
 obtain ⟨rfl,rfl,-⟩:=hag
 have k:=hc i (by omega)
 rw [Nat.zero_add] at k
 have g4:=ho.blk.cell 4
 simp only [ysk,ysl,ysj] at g4
 rw [h4] at ho g4 hcs
 exact ⟨vt,vf,vd,ag,cs,vs,vr,st.obj.align[i]'(by omega),ho,g4,yst (by omega),k,fun o=>hb.free o,hcs⟩
set_option maxRecDepth 100000 in
set_option maxHeartbeats 4000000 in
theorem ybe (B:Nat) (s:ByteArray) (b g:Nat) (st:As.St) (k:Int) (W:World) (h:yl B s b g st W) :
  Calls Tryz.prog 200 #[.pointer (some ⟨b,0,none⟩),.int .i64 k] W fun en W'=>en = .returned (.tuple #[])/\Does B s b g W (As.raiseBorder k st) W':=by
 have HW:=hid h
 have c13:=yai h
 have c14:=yam h
 have hs:=h.ok.sect
 obtain ⟨i,hi⟩:∃ i,i+1=st.sect:=⟨st.sect - 1,by omega⟩
 have hi4:i < 4:=by omega
 obtain ⟨vt,vf,vd,ag,cs,vs,vr,x,ho,g4,hx,kx,hfz,hcs⟩:=ykD h i hi4
 have fz:=hfz i
 have HO:=hid ho
 clear h ho hfz
 have RS:=hid (show As.raiseBorder k st=if x < k then { st with obj:={ st.obj with align:=st.obj.align.set i k } } else st from by
  unfold As.raiseBorder
  rw [show st.sect - 1=i by omega,hx]
  rfl)
 generalize As.raiseBorder k st=X at *
 have e1:(st.sect:Int)=(i:Int)+1:=by omega
 rw [e1] at c13
 have d1:decide ((i:Int) < 0)=false:=by simp
 have d2:decide ((4:Int)<=(i:Int))=false:=by simp; omega
 have d3:decide (4<=i)=false:=by simp; omega
 have g1:(0:Int)<=(i:Int):=by omega
 have g2:(i:Int) < 4:=by omega
 clear hs hi hx e1
 by_cases c:x < k
 ·have d:decide (x < k)=true:=by simp [c]
  rw [if_pos c] at RS
  have P:=hid (HW.out.does.after (HW.out.putAlign HO.out i hi4 k))
  clear c
  go_enter Tryz.func200,Tryz.ntmps200
  go_wp2
  go_end0
  rw [RS.out]
  exact ⟨rfl,P.out⟩
 ·have d:decide (x < k)=false:=by simp; omega
  rw [if_neg c] at RS
  clear c
  go_enter Tryz.func200,Tryz.ntmps200
  go_wp2
  go_end0
  rw [RS.out]
  exact ⟨rfl,HW.out.does⟩
theorem yod (s:List UInt8) (lo hi:Int) (st:As.St) (h:As.failed (As.number s lo hi st).2=false):lo<=(As.number s lo hi st).1/\(As.number s lo hi st).1<=hi:=by
 have key:∀ neg pos st,As.failed (As.numberFrom s neg pos lo hi st).2=false->lo<=(As.numberFrom s neg pos lo hi st).1/\(As.numberFrom s neg pos lo hi st).1<=hi:=by
  intro neg pos st hf
  unfold As.numberFrom at hf ⊢
  generalize (if neg then -(st.tok.n:Int) else (st.tok.n:Int))=x at *
  split at hf
  ·rename_i hk
   rw [if_pos hk]
   by_cases h:x < lo\/hi < x
   ·rw [if_pos h] at hf
    rw [ycC _ _ _ (by omega)] at hf
    cases hf
   ·rw [if_neg h]; simp only; omega
  ·rw [ycC _ _ _ (by omega)] at hf
   cases hf
 unfold As.number at h ⊢
 split at h
 ·rename_i hm; rw [if_pos hm]; exact key _ _ _ h
 ·rename_i hm; rw [if_neg hm]; exact key _ _ _ h
set_option maxRecDepth 100000 in
set_option maxHeartbeats 8000000 in
theorem ynk (B:Nat) (s:ByteArray) (b g:Nat) (st0:As.St) (W:World) (h:yl B s b g st0 W) :
  Calls Tryz.prog 156 #[.pointer (some ⟨b,0,none⟩)] W fun en W'=>en = .returned (.tuple #[])/\Does B s b g W (As.align (sl s) st0) W':=by
 have D0:=hid h.does
 clear h
 obtain ⟨X,hX⟩:∃ X,X=As.align (sl s) st0:=⟨_,rfl⟩
 rw [<- hX]
 unfold As.align at hX
 dsimp only at hX
 have RS:=hid hX
 clear hX
 have NO:=hid (yod (sl s) 2 4 st0)
 go_enter Tryz.func156,Tryz.ntmps156
 go_wp2_with fail
 refine (yaX B s b g st0 2 4 _ D0.out.1).mono ?_
 rintro e V1 ⟨rfl,hh⟩
 have D1:=hid (D0.out.afterB hh)
 clear hh D0
 generalize As.number (sl s) 2 4 st0=R1 at *
 obtain ⟨n,st1⟩:=R1
 dsimp only at RS D1 NO ⊢
 go_wp2_with fail
 refine (yaY B s b g st1 V1 D1.out.1).mono ?_
 rintro e w1 ⟨rfl,rfl⟩
 cases hf:As.failed st1
 ·rw [hf,if_neg (by simp)] at RS
  have hn:=NO.out hf
  clear hf NO
  have cI:=hid (fun V hV=>ygR B s b g st1 V hV)
  have hsb:=yeX D1.out.1.ok
  rcases (show n=2\/n=3\/n=4 by omega) with rfl | rfl | rfl
  ·clear hn
   have RS2:=hid (show X=As.raiseBorder 2 (As.alignTo 4 st1) from RS.out)
   clear RS
   go_wp2_with fail
   refine (cI.out w1 D1.out.1).mono ?_
   rintro e w2 ⟨rfl,rfl⟩
   cases hc:As.inCode st1.sect
   ·have RT:=hid (show As.alignTo 4 st1=As.lay (List.replicate (((4:Int) - 4 * As.secLen st1.obj st1.sect % 4) % 4 / 4).toNat 0) st1 from by unfold As.alignTo; rw [hc]; rfl)
    clear hc
    have cL:=hid (fun V hV=>ycs B s b g st1 V hV)
    have HD0:=hid (fun n=>D1.out.drewN n)
    have c13:=yai D1.out.1
    have c14:=yam D1.out.1
    generalize As.secLen st1.obj st1.sect=q at *
    obtain ⟨qn,rfl⟩:=Int.eq_ofNat_of_zero_le hsb.1
    have hq2:(qn:Int)<=1200:=hsb.2
    have hq3:(0:Int)<=4 * (qn:Int):=by omega
    have EC:=hid (show (((4:Int) - 4 * (qn:Int) % 4) % 4 / 4)=(((((4:Int) - 4 * (qn:Int) % 4) % 4 / 4).toNat:Nat):Int) by omega)
    have HC:=hid (show (((4:Int) - 4 * (qn:Int) % 4) % 4 / 4).toNat<=4096 by omega)
    have r0:(0:Int)<=4 * (qn:Int) % 4:=by omega
    have r1:4 * (qn:Int) % 4 < 4:=by omega
    generalize (((4:Int) - 4 * (qn:Int) % 4) % 4 / 4).toNat=cnt at *
    go_wp2
    go_quiet ((go_at_call 87; exact Calls.quiet_of_same (cL.out _ (HD0.out _).1)))
    have D2:=hid (HD0.out nq)
    clear HD0 c13 c14 cL
    generalize w2.drewN nq=V2 at *
    go_wp2_with fail
    refine (ybM 0 cnt _ (by have e:=EC.out; omega) _ HC.out).mono ?_
    rintro e V3 ⟨⟨ao,cap,rfl,hw⟩,hg⟩
    have D3:=hid (D2.out.grown hg)
    have HWD:=hid hw
    clear hg hw D2
    go_wp2_with fail
    refine (yfV B s b g st1 0 cnt ao cap V3 D3.out.1 HWD.out HC.out).mono ?_
    rintro e V4 ⟨rfl,h4⟩
    have D4:=hid (D3.out.after h4)
    clear h4
    rw [<- RT.out] at D4
    go_wp2_with fail
    refine (ybe B s b g _ 2 V4 D4.out.1).mono ?_
    rintro e V5 ⟨rfl,h5⟩
    have D5:=hid (D4.out.after h5)
    clear h5
    go_wp2
    go_end0
    rw [RS2.out]
    exact ⟨rfl,D5.out⟩
   ·have RT:=hid (show As.alignTo 4 st1=st1 from by unfold As.alignTo; rw [hc]; rfl)
    clear hc
    rw [RT.out] at RS2
    go_wp2_with fail
    refine (ybe B s b g _ 2 w2 D1.out.1).mono ?_
    rintro e V5 ⟨rfl,h5⟩
    have D5:=hid (D1.out.after h5)
    clear h5
    go_wp2
    go_end0
    rw [RS2.out]
    exact ⟨rfl,D5.out⟩
  ·clear hn
   have RS2:=hid (show X=As.raiseBorder 3 (As.alignTo 8 st1) from RS.out)
   clear RS
   go_wp2_with fail
   refine (cI.out w1 D1.out.1).mono ?_
   rintro e w2 ⟨rfl,rfl⟩
   cases hc:As.inCode st1.sect
   ·have RT:=hid (show As.alignTo 8 st1=As.lay (List.replicate (((8:Int) - 4 * As.secLen st1.obj st1.sect % 8) % 8 / 4).toNat 0) st1 from by unfold As.alignTo; rw [hc]; rfl)
    clear hc
    have cL:=hid (fun V hV=>ycs B s b g st1 V hV)
    have HD0:=hid (fun n=>D1.out.drewN n)
    have c13:=yai D1.out.1
    have c14:=yam D1.out.1
    generalize As.secLen st1.obj st1.sect=q at *
    obtain ⟨qn,rfl⟩:=Int.eq_ofNat_of_zero_le hsb.1
    have hq2:(qn:Int)<=1200:=hsb.2
    have hq3:(0:Int)<=4 * (qn:Int):=by omega
    have EC:=hid (show (((8:Int) - 4 * (qn:Int) % 8) % 8 / 4)=(((((8:Int) - 4 * (qn:Int) % 8) % 8 / 4).toNat:Nat):Int) by omega)
    have HC:=hid (show (((8:Int) - 4 * (qn:Int) % 8) % 8 / 4).toNat<=4096 by omega)
    have r0:(0:Int)<=4 * (qn:Int) % 8:=by omega
    have r1:4 * (qn:Int) % 8 < 8:=by omega
    generalize (((8:Int) - 4 * (qn:Int) % 8) % 8 / 4).toNat=cnt at *
    go_wp2
    go_quiet ((go_at_call 87; exact Calls.quiet_of_same (cL.out _ (HD0.out _).1)))
    have D2:=hid (HD0.out nq)
    clear HD0 c13 c14 cL
    generalize w2.drewN nq=V2 at *
    go_wp2_with fail
    refine (ybM 0 cnt _ (by have e:=EC.out; omega) _ HC.out).mono ?_
    rintro e V3 ⟨⟨ao,cap,rfl,hw⟩,hg⟩
    have D3:=hid (D2.out.grown hg)
    have HWD:=hid hw
    clear hg hw D2
    go_wp2_with fail
    refine (yfV B s b g st1 0 cnt ao cap V3 D3.out.1 HWD.out HC.out).mono ?_
    rintro e V4 ⟨rfl,h4⟩
    have D4:=hid (D3.out.after h4)
    clear h4
    rw [<- RT.out] at D4
    go_wp2_with fail
    refine (ybe B s b g _ 3 V4 D4.out.1).mono ?_
    rintro e V5 ⟨rfl,h5⟩
    have D5:=hid (D4.out.after h5)
    clear h5
    go_wp2
    go_end0
    rw [RS2.out]
    exact ⟨rfl,D5.out⟩
   ·have RT:=hid (show As.alignTo 8 st1=As.layWith 6 0 4 (List.replicate 1 19) st1 from by unfold As.alignTo; rw [hc]; rfl)
    clear hc
    go_wp2_with fail
    refine (ybM 19 1 _ rfl _ (by omega)).mono ?_
    rintro e V3 ⟨⟨ao,cap,rfl,hw⟩,hg⟩
    have D3:=hid (D1.out.grown hg)
    have HWD:=hid hw
    clear hg hw
    go_wp2_with fail
    refine (ygd B s b g st1 6 0 4 19 1 ao cap V3 D3.out.1 HWD.out (by omega)).mono ?_
    rintro e V4 ⟨rfl,h4⟩
    have D4:=hid (D3.out.after h4)
    clear h4
    rw [<- RT.out] at D4
    go_wp2_with fail
    refine (ybe B s b g _ 3 V4 D4.out.1).mono ?_
    rintro e V5 ⟨rfl,h5⟩
    have D5:=hid (D4.out.after h5)
    clear h5
    go_wp2
    go_end0
    rw [RS2.out]
    exact ⟨rfl,D5.out⟩
  ·clear hn
   have RS2:=hid (show X=As.raiseBorder 4 (As.alignTo 16 st1) from RS.out)
   clear RS
   go_wp2_with fail
   refine (cI.out w1 D1.out.1).mono ?_
   rintro e w2 ⟨rfl,rfl⟩
   cases hc:As.inCode st1.sect
   ·have RT:=hid (show As.alignTo 16 st1=As.lay (List.replicate (((16:Int) - 4 * As.secLen st1.obj st1.sect % 16) % 16 / 4).toNat 0) st1 from by unfold As.alignTo; rw [hc]; rfl)
    clear hc
    have cL:=hid (fun V hV=>ycs B s b g st1 V hV)
    have HD0:=hid (fun n=>D1.out.drewN n)
    have c13:=yai D1.out.1
    have c14:=yam D1.out.1
    generalize As.secLen st1.obj st1.sect=q at *
    obtain ⟨qn,rfl⟩:=Int.eq_ofNat_of_zero_le hsb.1
    have hq2:(qn:Int)<=1200:=hsb.2
    have hq3:(0:Int)<=4 * (qn:Int):=by omega
    have EC:=hid (show (((16:Int) - 4 * (qn:Int) % 16) % 16 / 4)=(((((16:Int) - 4 * (qn:Int) % 16) % 16 / 4).toNat:Nat):Int) by omega)
    have HC:=hid (show (((16:Int) - 4 * (qn:Int) % 16) % 16 / 4).toNat<=4096 by omega)
    have r0:(0:Int)<=4 * (qn:Int) % 16:=by omega
    have r1:4 * (qn:Int) % 16 < 16:=by omega
    generalize (((16:Int) - 4 * (qn:Int) % 16) % 16 / 4).toNat=cnt at *
    go_wp2
    go_quiet ((go_at_call 87; exact Calls.quiet_of_same (cL.out _ (HD0.out _).1)))
    have D2:=hid (HD0.out nq)
    clear HD0 c13 c14 cL
    generalize w2.drewN nq=V2 at *
    go_wp2_with fail
    refine (ybM 0 cnt _ (by have e:=EC.out; omega) _ HC.out).mono ?_
    rintro e V3 ⟨⟨ao,cap,rfl,hw⟩,hg⟩
    have D3:=hid (D2.out.grown hg)
    have HWD:=hid hw
    clear hg hw D2
    go_wp2_with fail
    refine (yfV B s b g st1 0 cnt ao cap V3 D3.out.1 HWD.out HC.out).mono ?_
    rintro e V4 ⟨rfl,h4⟩
    have D4:=hid (D3.out.after h4)
    clear h4
    rw [<- RT.out] at D4
    go_wp2_with fail
    refine (ybe B s b g _ 4 V4 D4.out.1).mono ?_
    rintro e V5 ⟨rfl,h5⟩
    have D5:=hid (D4.out.after h5)
    clear h5
    go_wp2
    go_end0
    rw [RS2.out]
    exact ⟨rfl,D5.out⟩
   ·have RT:=hid (show As.alignTo 16 st1=As.layWith 6 0 12 (List.replicate 3 19) st1 from by unfold As.alignTo; rw [hc]; rfl)
    clear hc
    go_wp2_with fail
    refine (ybM 19 3 _ rfl _ (by omega)).mono ?_
    rintro e V3 ⟨⟨ao,cap,rfl,hw⟩,hg⟩
    have D3:=hid (D1.out.grown hg)
    have HWD:=hid hw
    clear hg hw
    go_wp2_with fail
    refine (ygd B s b g st1 6 0 12 19 3 ao cap V3 D3.out.1 HWD.out (by omega)).mono ?_
    rintro e V4 ⟨rfl,h4⟩
    have D4:=hid (D3.out.after h4)
    clear h4
    rw [<- RT.out] at D4
    go_wp2_with fail
    refine (ybe B s b g _ 4 V4 D4.out.1).mono ?_
    rintro e V5 ⟨rfl,h5⟩
    have D5:=hid (D4.out.after h5)
    clear h5
    go_wp2
    go_end0
    rw [RS2.out]
    exact ⟨rfl,D5.out⟩
 ·rw [hf,if_pos rfl] at RS
  clear hf
  go_wp2
  (try simp only [Exit.inBlock,Exit.then]); refine bodyPost_ret (results_none rfl _ _ _) rfl ?_
  rw [RS.out]
  exact ⟨rfl,D1.out⟩
set_option maxRecDepth 100000 in
set_option maxHeartbeats 16000000 in
theorem yjn (t:List UInt8) (w:World) :
  Calls Tryz.prog 137 #[.string (bs t)] w fun e w'=>e = .returned (.int .i64 (As.dirShape t:Nat))/\w'=w:=by
 have RS:=hid (show As.dirShape t=(
 if t=[46,116,101,120,116] then 15 else
 if t=[46,102,97,114] then 15 else
 if t=[46,100,97,116,97] then 15 else
 if t=[46,98,115,115] then 15 else
 if t=[46,119,111,114,100] then 16 else
 if t=[46,115,112,97,99,101] then 17 else
 if t=[46,97,108,105,103,110] then 18 else
 if t=[46,103,108,111,98,108] then 19 else
 if t=[46,119,101,97,107] then 19 else
 0) from rfl)
 generalize As.dirShape t=X at *
 have e:∀ l:List UInt8,((bs t).toList == l)=decide (t=l):=fun l=>by rw [yH,Bool.eq_iff_iff,beq_iff_eq,decide_eq_true_iff]
 by_cases h:t=[46,116,101,120,116]
 ·rw [if_pos h] at RS
  have d0:=e [46,116,101,120,116]
  rw [decide_eq_true h] at d0
  clear h e
  go_enter Tryz.func137,Tryz.ntmps137
  go_wp2
  go_ret
  exact ⟨by rw [RS.out]; rfl,rfl⟩
 have d0:=e [46,116,101,120,116]
 rw [if_neg h] at RS
 rw [decide_eq_false h] at d0
 clear h
 by_cases h:t=[46,102,97,114]
 ·rw [if_pos h] at RS
  have d1:=e [46,102,97,114]
  rw [decide_eq_true h] at d1
  clear h e
  go_enter Tryz.func137,Tryz.ntmps137
  go_wp2
  go_ret
  exact ⟨by rw [RS.out]; rfl,rfl⟩
 have d1:=e [46,102,97,114]
 rw [if_neg h] at RS
 rw [decide_eq_false h] at d1
 clear h
 by_cases h:t=[46,100,97,116,97]
 ·rw [if_pos h] at RS
  have d2:=e [46,100,97,116,97]
  rw [decide_eq_true h] at d2
  clear h e
  go_enter Tryz.func137,Tryz.ntmps137
  go_wp2
  go_ret
  exact ⟨by rw [RS.out]; rfl,rfl⟩
 have d2:=e [46,100,97,116,97]
 rw [if_neg h] at RS
 rw [decide_eq_false h] at d2
 clear h
 by_cases h:t=[46,98,115,115]
 ·rw [if_pos h] at RS
  have d3:=e [46,98,115,115]
  rw [decide_eq_true h] at d3
  clear h e
  go_enter Tryz.func137,Tryz.ntmps137
  go_wp2
  go_ret
  exact ⟨by rw [RS.out]; rfl,rfl⟩
 have d3:=e [46,98,115,115]
 rw [if_neg h] at RS
 rw [decide_eq_false h] at d3
 clear h
 by_cases h:t=[46,119,111,114,100]
 ·rw [if_pos h] at RS
  have d4:=e [46,119,111,114,100]
  rw [decide_eq_true h] at d4
  clear h e
  go_enter Tryz.func137,Tryz.ntmps137
  go_wp2
  go_ret
  exact ⟨by rw [RS.out]; rfl,rfl⟩
 have d4:=e [46,119,111,114,100]
 rw [if_neg h] at RS
 rw [decide_eq_false h] at d4
 clear h
 by_cases h:t=[46,115,112,97,99,101]
 ·rw [if_pos h] at RS
  have d5:=e [46,115,112,97,99,101]
  rw [decide_eq_true h] at d5
  clear h e
  go_enter Tryz.func137,Tryz.ntmps137
  go_wp2
  go_ret
  exact ⟨by rw [RS.out]; rfl,rfl⟩
 have d5:=e [46,115,112,97,99,101]
 rw [if_neg h] at RS
 rw [decide_eq_false h] at d5
 clear h
 by_cases h:t=[46,97,108,105,103,110]
 ·rw [if_pos h] at RS
  have d6:=e [46,97,108,105,103,110]
  rw [decide_eq_true h] at d6
  clear h e
  go_enter Tryz.func137,Tryz.ntmps137
  go_wp2
  go_ret
  exact ⟨by rw [RS.out]; rfl,rfl⟩
 have d6:=e [46,97,108,105,103,110]
 rw [if_neg h] at RS
 rw [decide_eq_false h] at d6
 clear h
 by_cases h:t=[46,103,108,111,98,108]
 ·rw [if_pos h] at RS
  have d7:=e [46,103,108,111,98,108]
  rw [decide_eq_true h] at d7
  clear h e
  go_enter Tryz.func137,Tryz.ntmps137
  go_wp2
  go_ret
  exact ⟨by rw [RS.out]; rfl,rfl⟩
 have d7:=e [46,103,108,111,98,108]
 rw [if_neg h] at RS
 rw [decide_eq_false h] at d7
 clear h
 by_cases h:t=[46,119,101,97,107]
 ·rw [if_pos h] at RS
  have d8:=e [46,119,101,97,107]
  rw [decide_eq_true h] at d8
  clear h e
  go_enter Tryz.func137,Tryz.ntmps137
  go_wp2
  go_ret
  exact ⟨by rw [RS.out]; rfl,rfl⟩
 have d8:=e [46,119,101,97,107]
 rw [if_neg h] at RS
 rw [decide_eq_false h] at d8
 clear h
 clear e
 go_enter Tryz.func137,Tryz.ntmps137
 go_wp2
 go_ret
 exact ⟨by rw [RS.out]; rfl,rfl⟩
set_option maxRecDepth 100000 in
set_option maxHeartbeats 16000000 in
theorem ylo (t:List UInt8) (w:World) :
  Calls Tryz.prog 88 #[.string (bs t)] w fun e w'=>e = .returned (.int .i64 (As.shapeOf t:Nat))/\w'=w:=by
 have RS:=hid (show As.shapeOf t=(
 if t=[97,100,100] then 1 else
 if t=[115,117,98] then 1 else
 if t=[115,108,116] then 1 else
 if t=[115,108,116,117] then 1 else
 if t=[120,111,114] then 1 else
 if t=[111,114] then 1 else
 if t=[97,110,100] then 1 else
 if t=[97,100,100,105] then 2 else
 if t=[115,108,116,105] then 2 else
 if t=[120,111,114,105] then 2 else
 if t=[111,114,105] then 2 else
 if t=[97,110,100,105] then 2 else
 if t=[108,117,105] then 3 else
 if t=[108,119] then 4 else
 if t=[115,119] then 5 else
 if t=[106,97,108,114] then 6 else
 if t=[101,99,97,108,108] then 7 else
 if t=[114,101,116] then 7 else
 if t=[110,111,112] then 7 else
 if t=[98,101,113] then 8 else
 if t=[98,110,101] then 8 else
 if t=[98,108,116] then 8 else
 if t=[98,103,101] then 8 else
 if t=[98,108,116,117] then 8 else
 if t=[98,103,101,117] then 8 else
 if t=[106,97,108] then 9 else
 if t=[106] then 10 else
 if t=[109,118] then 11 else
 if t=[108,105] then 12 else
 if t=[99,97,108,108] then 13 else
 if t=[116,97,105,108] then 13 else
 if t=[108,97] then 14 else
 As.dirShape t) from rfl)
 generalize As.shapeOf t=X at *
 have e:∀ l:List UInt8,((bs t).toList == l)=decide (t=l):=fun l=>by rw [yH,Bool.eq_iff_iff,beq_iff_eq,decide_eq_true_iff]
 by_cases h:t=[97,100,100]
 ·rw [if_pos h] at RS
  have d0:=e [97,100,100]
  rw [decide_eq_true h] at d0
  clear h e
  go_enter Tryz.func88,Tryz.ntmps88
  go_wp2
  go_ret
  exact ⟨by rw [RS.out]; rfl,rfl⟩
 have d0:=e [97,100,100]
 rw [if_neg h] at RS
 rw [decide_eq_false h] at d0
 clear h
 by_cases h:t=[115,117,98]
 ·rw [if_pos h] at RS
  have d1:=e [115,117,98]
  rw [decide_eq_true h] at d1
  clear h e
  go_enter Tryz.func88,Tryz.ntmps88
  go_wp2
  go_ret
  exact ⟨by rw [RS.out]; rfl,rfl⟩
 have d1:=e [115,117,98]
 rw [if_neg h] at RS
 rw [decide_eq_false h] at d1
 clear h
 by_cases h:t=[115,108,116]
 ·rw [if_pos h] at RS
  have d2:=e [115,108,116]
  rw [decide_eq_true h] at d2
  clear h e
  go_enter Tryz.func88,Tryz.ntmps88
  go_wp2
  go_ret
  exact ⟨by rw [RS.out]; rfl,rfl⟩
 have d2:=e [115,108,116]
 rw [if_neg h] at RS
 rw [decide_eq_false h] at d2
 clear h
 by_cases h:t=[115,108,116,117]
 ·rw [if_pos h] at RS
  have d3:=e [115,108,116,117]
  rw [decide_eq_true h] at d3
  clear h e
  go_enter Tryz.func88,Tryz.ntmps88
  go_wp2
  go_ret
  exact ⟨by rw [RS.out]; rfl,rfl⟩
 have d3:=e [115,108,116,117]
 rw [if_neg h] at RS
 rw [decide_eq_false h] at d3
 clear h
 by_cases h:t=[120,111,114]
 ·rw [if_pos h] at RS
  have d4:=e [120,111,114]
  rw [decide_eq_true h] at d4
  clear h e
  go_enter Tryz.func88,Tryz.ntmps88
  go_wp2
  go_ret
  exact ⟨by rw [RS.out]; rfl,rfl⟩
 have d4:=e [120,111,114]
 rw [if_neg h] at RS
 rw [decide_eq_false h] at d4
 clear h
 by_cases h:t=[111,114]
 ·rw [if_pos h] at RS
  have d5:=e [111,114]
  rw [decide_eq_true h] at d5
  clear h e
  go_enter Tryz.func88,Tryz.ntmps88
  go_wp2
  go_ret
  exact ⟨by rw [RS.out]; rfl,rfl⟩
 have d5:=e [111,114]
 rw [if_neg h] at RS
 rw [decide_eq_false h] at d5
 clear h
 by_cases h:t=[97,110,100]
 ·rw [if_pos h] at RS
  have d6:=e [97,110,100]
  rw [decide_eq_true h] at d6
  clear h e
  go_enter Tryz.func88,Tryz.ntmps88
  go_wp2
  go_ret
  exact ⟨by rw [RS.out]; rfl,rfl⟩
 have d6:=e [97,110,100]
 rw [if_neg h] at RS
 rw [decide_eq_false h] at d6
 clear h
 by_cases h:t=[97,100,100,105]
 ·rw [if_pos h] at RS
  have d7:=e [97,100,100,105]
  rw [decide_eq_true h] at d7
  clear h e
  go_enter Tryz.func88,Tryz.ntmps88
  go_wp2
  go_ret
  exact ⟨by rw [RS.out]; rfl,rfl⟩
 have d7:=e [97,100,100,105]
 rw [if_neg h] at RS
 rw [decide_eq_false h] at d7
 clear h
 by_cases h:t=[115,108,116,105]
 ·rw [if_pos h] at RS
  have d8:=e [115,108,116,105]
  rw [decide_eq_true h] at d8
  clear h e
  go_enter Tryz.func88,Tryz.ntmps88
  go_wp2
  go_ret
  exact ⟨by rw [RS.out]; rfl,rfl⟩
 have d8:=e [115,108,116,105]
 rw [if_neg h] at RS
 rw [decide_eq_false h] at d8
 clear h
 by_cases h:t=[120,111,114,105]
 ·rw [if_pos h] at RS
  have d9:=e [120,111,114,105]
  rw [decide_eq_true h] at d9
  clear h e
  go_enter Tryz.func88,Tryz.ntmps88
  go_wp2
  go_ret
  exact ⟨by rw [RS.out]; rfl,rfl⟩
 have d9:=e [120,111,114,105]
 rw [if_neg h] at RS
 rw [decide_eq_false h] at d9
 clear h
 by_cases h:t=[111,114,105]
 ·rw [if_pos h] at RS
  have d10:=e [111,114,105]
  rw [decide_eq_true h] at d10
  clear h e
  go_enter Tryz.func88,Tryz.ntmps88
  go_wp2
  go_ret
  exact ⟨by rw [RS.out]; rfl,rfl⟩
 have d10:=e [111,114,105]
 rw [if_neg h] at RS
 rw [decide_eq_false h] at d10
 clear h
 by_cases h:t=[97,110,100,105]
 ·rw [if_pos h] at RS
  have d11:=e [97,110,100,105]
  rw [decide_eq_true h] at d11
  clear h e
  go_enter Tryz.func88,Tryz.ntmps88
  go_wp2
  go_ret
  exact ⟨by rw [RS.out]; rfl,rfl⟩
 have d11:=e [97,110,100,105]
 rw [if_neg h] at RS
 rw [decide_eq_false h] at d11
 clear h
 by_cases h:t=[108,117,105]
 ·rw [if_pos h] at RS
  have d12:=e [108,117,105]
  rw [decide_eq_true h] at d12
  clear h e
  go_enter Tryz.func88,Tryz.ntmps88
  go_wp2
  go_ret
  exact ⟨by rw [RS.out]; rfl,rfl⟩
 have d12:=e [108,117,105]
 rw [if_neg h] at RS
 rw [decide_eq_false h] at d12
 clear h
 by_cases h:t=[108,119]
 ·rw [if_pos h] at RS
  have d13:=e [108,119]
  rw [decide_eq_true h] at d13
  clear h e
  go_enter Tryz.func88,Tryz.ntmps88
  go_wp2
  go_ret
  exact ⟨by rw [RS.out]; rfl,rfl⟩
 have d13:=e [108,119]
 rw [if_neg h] at RS
 rw [decide_eq_false h] at d13
 clear h
 by_cases h:t=[115,119]
 ·rw [if_pos h] at RS
  have d14:=e [115,119]
  rw [decide_eq_true h] at d14
  clear h e
  go_enter Tryz.func88,Tryz.ntmps88
  go_wp2
  go_ret
  exact ⟨by rw [RS.out]; rfl,rfl⟩
 have d14:=e [115,119]
 rw [if_neg h] at RS
 rw [decide_eq_false h] at d14
 clear h
 by_cases h:t=[106,97,108,114]
 ·rw [if_pos h] at RS
  have d15:=e [106,97,108,114]
  rw [decide_eq_true h] at d15
  clear h e
  go_enter Tryz.func88,Tryz.ntmps88
  go_wp2
  go_ret
  exact ⟨by rw [RS.out]; rfl,rfl⟩
 have d15:=e [106,97,108,114]
 rw [if_neg h] at RS
 rw [decide_eq_false h] at d15
 clear h
 by_cases h:t=[101,99,97,108,108]
 ·rw [if_pos h] at RS
  have d16:=e [101,99,97,108,108]
  rw [decide_eq_true h] at d16
  clear h e
  go_enter Tryz.func88,Tryz.ntmps88
  go_wp2
  go_ret
  exact ⟨by rw [RS.out]; rfl,rfl⟩
 have d16:=e [101,99,97,108,108]
 rw [if_neg h] at RS
 rw [decide_eq_false h] at d16
 clear h
 by_cases h:t=[114,101,116]
 ·rw [if_pos h] at RS
  have d17:=e [114,101,116]
  rw [decide_eq_true h] at d17
  clear h e
  go_enter Tryz.func88,Tryz.ntmps88
  go_wp2
  go_ret
  exact ⟨by rw [RS.out]; rfl,rfl⟩
 have d17:=e [114,101,116]
 rw [if_neg h] at RS
 rw [decide_eq_false h] at d17
 clear h
 by_cases h:t=[110,111,112]
 ·rw [if_pos h] at RS
  have d18:=e [110,111,112]
  rw [decide_eq_true h] at d18
  clear h e
  go_enter Tryz.func88,Tryz.ntmps88
  go_wp2
  go_ret
  exact ⟨by rw [RS.out]; rfl,rfl⟩
 have d18:=e [110,111,112]
 rw [if_neg h] at RS
 rw [decide_eq_false h] at d18
 clear h
 by_cases h:t=[98,101,113]
 ·rw [if_pos h] at RS
  have d19:=e [98,101,113]
  rw [decide_eq_true h] at d19
  clear h e
  go_enter Tryz.func88,Tryz.ntmps88
  go_wp2
  go_ret
  exact ⟨by rw [RS.out]; rfl,rfl⟩
 have d19:=e [98,101,113]
 rw [if_neg h] at RS
 rw [decide_eq_false h] at d19
 clear h
 by_cases h:t=[98,110,101]
 ·rw [if_pos h] at RS
  have d20:=e [98,110,101]
  rw [decide_eq_true h] at d20
  clear h e
  go_enter Tryz.func88,Tryz.ntmps88
  go_wp2
  go_ret
  exact ⟨by rw [RS.out]; rfl,rfl⟩
 have d20:=e [98,110,101]
 rw [if_neg h] at RS
 rw [decide_eq_false h] at d20
 clear h
 by_cases h:t=[98,108,116]
 ·rw [if_pos h] at RS
  have d21:=e [98,108,116]
  rw [decide_eq_true h] at d21
  clear h e
  go_enter Tryz.func88,Tryz.ntmps88
  go_wp2
  go_ret
  exact ⟨by rw [RS.out]; rfl,rfl⟩
 have d21:=e [98,108,116]
 rw [if_neg h] at RS
 rw [decide_eq_false h] at d21
 clear h
 by_cases h:t=[98,103,101]
 ·rw [if_pos h] at RS
  have d22:=e [98,103,101]
  rw [decide_eq_true h] at d22
  clear h e
  go_enter Tryz.func88,Tryz.ntmps88
  go_wp2
  go_ret
  exact ⟨by rw [RS.out]; rfl,rfl⟩
 have d22:=e [98,103,101]
 rw [if_neg h] at RS
 rw [decide_eq_false h] at d22
 clear h
 by_cases h:t=[98,108,116,117]
 ·rw [if_pos h] at RS
  have d23:=e [98,108,116,117]
  rw [decide_eq_true h] at d23
  clear h e
  go_enter Tryz.func88,Tryz.ntmps88
  go_wp2
  go_ret
  exact ⟨by rw [RS.out]; rfl,rfl⟩
 have d23:=e [98,108,116,117]
 rw [if_neg h] at RS
 rw [decide_eq_false h] at d23
 clear h
 by_cases h:t=[98,103,101,117]
 ·rw [if_pos h] at RS
  have d24:=e [98,103,101,117]
  rw [decide_eq_true h] at d24
  clear h e
  go_enter Tryz.func88,Tryz.ntmps88
  go_wp2
  go_ret
  exact ⟨by rw [RS.out]; rfl,rfl⟩
 have d24:=e [98,103,101,117]
 rw [if_neg h] at RS
 rw [decide_eq_false h] at d24
 clear h
 by_cases h:t=[106,97,108]
 ·rw [if_pos h] at RS
  have d25:=e [106,97,108]
  rw [decide_eq_true h] at d25
  clear h e
  go_enter Tryz.func88,Tryz.ntmps88
  go_wp2
  go_ret
  exact ⟨by rw [RS.out]; rfl,rfl⟩
 have d25:=e [106,97,108]
 rw [if_neg h] at RS
 rw [decide_eq_false h] at d25
 clear h
 by_cases h:t=[106]
 ·rw [if_pos h] at RS
  have d26:=e [106]
  rw [decide_eq_true h] at d26
  clear h e
  go_enter Tryz.func88,Tryz.ntmps88
  go_wp2
  go_ret
  exact ⟨by rw [RS.out]; rfl,rfl⟩
 have d26:=e [106]
 rw [if_neg h] at RS
 rw [decide_eq_false h] at d26
 clear h
 by_cases h:t=[109,118]
 ·rw [if_pos h] at RS
  have d27:=e [109,118]
  rw [decide_eq_true h] at d27
  clear h e
  go_enter Tryz.func88,Tryz.ntmps88
  go_wp2
  go_ret
  exact ⟨by rw [RS.out]; rfl,rfl⟩
 have d27:=e [109,118]
 rw [if_neg h] at RS
 rw [decide_eq_false h] at d27
 clear h
 by_cases h:t=[108,105]
 ·rw [if_pos h] at RS
  have d28:=e [108,105]
  rw [decide_eq_true h] at d28
  clear h e
  go_enter Tryz.func88,Tryz.ntmps88
  go_wp2
  go_ret
  exact ⟨by rw [RS.out]; rfl,rfl⟩
 have d28:=e [108,105]
 rw [if_neg h] at RS
 rw [decide_eq_false h] at d28
 clear h
 by_cases h:t=[99,97,108,108]
 ·rw [if_pos h] at RS
  have d29:=e [99,97,108,108]
  rw [decide_eq_true h] at d29
  clear h e
  go_enter Tryz.func88,Tryz.ntmps88
  go_wp2
  go_ret
  exact ⟨by rw [RS.out]; rfl,rfl⟩
 have d29:=e [99,97,108,108]
 rw [if_neg h] at RS
 rw [decide_eq_false h] at d29
 clear h
 by_cases h:t=[116,97,105,108]
 ·rw [if_pos h] at RS
  have d30:=e [116,97,105,108]
  rw [decide_eq_true h] at d30
  clear h e
  go_enter Tryz.func88,Tryz.ntmps88
  go_wp2
  go_ret
  exact ⟨by rw [RS.out]; rfl,rfl⟩
 have d30:=e [116,97,105,108]
 rw [if_neg h] at RS
 rw [decide_eq_false h] at d30
 clear h
 by_cases h:t=[108,97]
 ·rw [if_pos h] at RS
  have d31:=e [108,97]
  rw [decide_eq_true h] at d31
  clear h e
  go_enter Tryz.func88,Tryz.ntmps88
  go_wp2
  go_ret
  exact ⟨by rw [RS.out]; rfl,rfl⟩
 have d31:=e [108,97]
 rw [if_neg h] at RS
 rw [decide_eq_false h] at d31
 clear h
 clear e
 have c:=hid (yjn t w)
 go_enter Tryz.func88,Tryz.ntmps88
 go_wp2_with fail
 refine c.out.mono ?_
 rintro e w1 ⟨rfl,rfl⟩
 go_wp2
 go_ret
 exact ⟨by rw [RS.out]; rfl,rfl⟩
def NTab (W:World):Prop:=∀ i,i < 26->W.cell? ⟨2,i,none⟩=some (.string (bs (As.names.getD i [])))
theorem NTab.below {B:Nat} {W W':World} (h:NTab W) (hb:Below B W W') (hB:3<=B):NTab W':=fun i hi=>(hb.cell (show 2 < B by omega)).trans (h i hi)
theorem yph (k:Nat) (h1:1<=k) (h2:k<=25):As.named (As.names.getD k [])=k:=by
 rcases (show k=1\/k=2\/k=3\/k=4\/k=5\/k=6\/k=7\/k=8\/k=9\/k=10\/k=11\/k=12\/k=13\/k=14\/k=15\/k=16\/k=17\/k=18\/k=19\/k=20\/k=21\/k=22\/k=23\/k=24\/k=25 by omega) with rfl | rfl | rfl | rfl | rfl | rfl | rfl | rfl | rfl | rfl | rfl | rfl | rfl | rfl | rfl | rfl | rfl | rfl | rfl | rfl | rfl | rfl | rfl | rfl | rfl <;> decide
theorem ymJ (t:List UInt8) (h:∀ k,1<=k->k<=25->As.names.getD k []≠t):As.named t=0:=by
 unfold As.named
 have e:(List.range 26).find? (fun k=>decide (1<=k) && As.names.getD k [] == t)=none:=by
  rw [List.find?_eq_none]
  intro k hk
  rw [List.mem_range] at hk
  simp only [Bool.and_eq_true,decide_eq_true_eq,beq_iff_eq,not_and]
  intro h1
  exact h k h1 (by omega)
 rw [e]
 rfl
set_option maxHeartbeats 2000000 in
theorem yhJ (t:List UInt8) (w:World) (ht:NTab w) :
  Calls Tryz.prog 91 #[.string (bs t)] w fun e w'=>e = .returned (.int .i64 (As.named t:Nat))/\w'=w:=by
 have HT:=hid ht
 have NA:=hid yph
 have NN:=hid (ymJ t)
 clear ht
 generalize hX:As.named t=X at *
 have HX:=hid hX
 clear hX
 go_enter Tryz.func91,Tryz.ntmps91
 go_wp2
 go_loop [3] (fun i=>∃ k:Nat,1<=k/\k<=26/\i = .int .i64 k/\∀ j,1<=j->j < k->As.names.getD j []≠t) (fun i=>26 - (intOf i).toNat)
 case atStart=>exact ⟨1,Nat.le_refl _,by omega,rfl,fun j h1 h2=>by omega⟩
 case round =>
  obtain ⟨k,hk1,hk2,rfl,hall⟩:=hrel
  have HA:=hid hall
  clear hall
  by_cases hlt:k<=25
  ·have cx:=HT.out k (by omega)
   have NK:=hid (NA.out k hk1 hlt)
   have g1:(1:Int)<=(k:Int):=by omega
   have g2:(k:Int)<=25:=by omega
   generalize hnm:As.names.getD k []=nm at *
   have HNM:=hid hnm
   clear hnm
   by_cases e1:nm=t
   ·have b1:((bs nm).toList == (bs t).toList)=true:=by rw [e1]; simp
    have E:=hid (show X=k by rw [<- HX.out,<- e1]; exact NK.out)
    clear e1
    go_wp2
    go_ret
    exact ⟨by rw [E.out]; rfl,rfl⟩
   ·have E:=hid e1
    have b1:((bs nm).toList == (bs t).toList)=false:=by rw [yH,yH]; simpa using e1
    clear e1
    go_wp2
    go_round
    case rel=>exact ⟨k+1,by omega,by omega,by go_num,fun j hj hjk=>(Nat.lt_succ_iff_lt_or_eq.1 hjk).elim (fun h=>HA.out j hj h) (fun h=>by subst h; rw [HNM.out]; exact E.out)⟩
    case measure=>simp [intOf]; omega
  ·have g2:(25:Int) < (k:Int):=by omega
   have E:=hid (NN.out (fun j h1 h2=>HA.out j h1 (by omega)))
   go_wp2
   go_ret
   exact ⟨by rw [E.out]; rfl,rfl⟩
set_option maxHeartbeats 2000000 in
theorem yjL (B:Nat) (s:ByteArray) (b g:Nat) (st:As.St) (shape:Nat) (W:World) (h:yl B s b g st W) (h1:1<=shape) (h2:shape<=19) :
  Calls Tryz.prog 89 #[.pointer (some ⟨b,0,none⟩),.int .i64 shape] W fun e W'=>e = .returned (.bool (As.mayStand shape st.sect))/\W'=W:=by
 have c:=yai h
 have cI:=hid (ygR B s b g st W h)
 have hs:=h.ok.sect
 clear h
 generalize st.sect=sect at *
 have RS:=hid (show As.mayStand shape sect=if shape<=14 then As.inCode sect else !(shape == 16) || !(sect == 4) from rfl)
 generalize As.mayStand shape sect=X at *
 by_cases h14:shape<=14
 ·have d:decide ((shape:Int)<=14)=true:=by simp; omega
  rw [if_pos h14] at RS
  clear h14
  go_enter Tryz.func89,Tryz.ntmps89
  go_wp2_with fail
  refine cI.out.mono ?_
  rintro e w1 ⟨rfl,rfl⟩
  go_wp2
  go_ret
  exact ⟨by rw [RS.out]; rfl,rfl⟩
 ·have d:decide ((shape:Int)<=14)=false:=by simp; omega
  rw [if_neg h14] at RS
  by_cases h16:shape=16
  ·have d1:((shape:Int) == 16)=true:=by simp; omega
   have d1':((shape:Int) != 16)=false:=by simp; omega
   rw [show (shape == 16)=true by simp [h16]] at RS
   clear h14 h16 h1 h2
   rcases (show sect=1\/sect=2\/sect=3\/sect=4 by omega) with rfl | rfl | rfl | rfl
   all_goals
    go_enter Tryz.func89,Tryz.ntmps89
    go_wp2
    go_ret
    exact ⟨by rw [RS.out]; rfl,rfl⟩
  ·have d1:((shape:Int) == 16)=false:=by simp; omega
   have d1':((shape:Int) != 16)=true:=by simp; omega
   rw [show (shape == 16)=false by simp [h16]] at RS
   clear h14 h16 h1 h2
   go_enter Tryz.func89,Tryz.ntmps89
   go_wp2
   go_ret
   exact ⟨by rw [RS.out]; rfl,rfl⟩
end Go.Proofs.YtpgklkhgfcjceaaGreatDoor
