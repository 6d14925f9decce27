
import Derived.Test.YtpgklkhgfcjceaaGreatDoorU21
set_option maxHeartbeats 16000000
set_option maxRecDepth 100000
namespace Go.Proofs.YtpgklkhgfcjceaaGreatDoor
open Go.RowKit
namespace Ln
def gy (os:List Lk.Obj) (bt bf bd:Int):List UInt8×rJ :=
 if (bM os).e≠0 then ([],bM os)
 else if (dz (eX os bt bf bd) (dQ os bt bf bd)).e≠0 then ([],dz (eX os bt bf bd) (dQ os bt bf bd))
 else (Im.bytes (eX os bt bf bd),ok)
end Ln
def Lj (bt bf bd:Int) (fs:List (List UInt8)) (e:Ending):Prop :=
 (∃ f:Ln.rJ,f.e≠0/\e = .returned (.tuple #[.string (bs []),gq f]) /\
  (f=qp bt bf bd \/
  (qp bt bf bd=Ln.ok/\(fs.length < 1\/8 < fs.length)/\f=⟨31,0,[]⟩) \/
  (qp bt bf bd=Ln.ok/\1<=fs.length/\fs.length<=8/\∃ i,∃ h:i < fs.length,f=⟨32,i,[]⟩/\Po fs[i]/\∀ j (hj:j < i),∃ a os,vk (fs[j]'(by omega)) a os))) \/
 (qp bt bf bd=Ln.ok/\1<=fs.length/\fs.length<=8/\∃ (xs:List (Bool×List Lk.Obj)) (hx:xs.length=fs.length),(∀ i (h:i < fs.length),vk fs[i] (xs[i]'(by omega)).1 (xs[i]'(by omega)).2)/\e = .returned (.tuple #[.string (bs (Ln.gy (Ln.bQ xs) bt bf bd).1),gq (Ln.gy (Ln.bQ xs) bt bf bd).2]))
theorem ymB {bt bf bd:Int} (h:qp bt bf bd=Ln.ok):Im.Base bt/\Im.Base bf/\Im.Base bd:=by
 have e:(qp bt bf bd).e=0:=by rw [h]; rfl
 unfold qp at e;by_cases h1:¬ Im.Base bt
 ·rw [if_pos h1] at e; cases e
 rw [if_neg h1] at e;by_cases h2:¬ Im.Base bf
 ·rw [if_pos h2] at e; cases e
 rw [if_neg h2] at e;by_cases h3:¬ Im.Base bd
 ·rw [if_pos h3] at e; cases e
 exact ⟨Classical.not_not.1 h1,Classical.not_not.1 h2,Classical.not_not.1 h3⟩
theorem ylj {fs:List (List UInt8)} {xs:List (Bool×List Lk.Obj)} (hx:xs.length=fs.length) (h8:fs.length<=8) (h:∀ i (h:i < fs.length),vk fs[i] (xs[i]'(by omega)).1 (xs[i]'(by omega)).2):(∀ o∈Ln.bQ xs,yx o)/\(Ln.bQ xs).length<=48:=by
 have q:∀ x∈xs,(∀ o∈x.2,yx o)/\x.2.length<=6:=by
  intro x hm;obtain ⟨i,hi,rfl⟩:=List.getElem_of_mem hm;exact yjP (h i (by omega))
 refine ⟨ylT yx xs [] (fun x hm=>(q x hm).1) (by simp),?_⟩
 have:=ylU xs [] (fun x hm=>(q x hm).2)
 unfold Ln.bQ;simp only [List.length_nil] at this;omega
theorem nA.flt {W:World} {I R:Nat} {img:Im.eU} {cs:Array Value} (h:nA W I img) (hb:yc W R cs 45) (a b c:Value):nA (((W.setCell ⟨R,0,none⟩ a).setCell ⟨R,1,none⟩ b).setCell ⟨R,2,none⟩ c) I img:=by
 have G:=World.grownBy.trans (World.grownBy.trans (yf W R 0 a) (yf _ R 1 b)) (yf _ R 2 c);obtain ⟨vt,vf,vd,q0,q1,q2,q3⟩:=h;have RT:=bS.blk hb;exact ⟨vt,vf,vd,yN q0 G RT (by decide),yB q1 G RT (by decide),yB q2 G RT (by decide),yB q3 G RT (by decide)⟩
theorem ymc {W:World} {R:Nat} {x y z:Value} (h:yc W R #[x,y,z] 45) (a b c:Value):yc (((W.setCell ⟨R,0,none⟩ a).setCell ⟨R,1,none⟩ b).setCell ⟨R,2,none⟩ c) R #[a,b,c] 45:=by
 simpa using ((h.set 0 a).set 1 b).set 2 c
theorem Wd {xs:List Int} (h:rV xs):Ru xs:=fun i hi=>by
 have:=h _ (iC hi)
 omega
theorem ypy (bt bf bd:Int) (af:Option Addr) (cf:Nat) (fs:List (List UInt8)) (w:World) (hin:Fe w af fs) (hsz:∀ f∈fs,f.length<=1048576) (ht:dV w) (hn:fs.length<=1048576) :
  Calls Tryz.prog 28 #[.slice af fs.length cf,.agg #[.int .i64 bt,.int .i64 bf,.int .i64 bd]] w fun e w'=>Lj bt bf bd fs e/\w.grownBy w' none:=by
 have HT:=hid ht;have HI:=hid hin;have cG:=hid (fun W (hg:w.grownBy W none)=>ymL bt bf bd af cf fs W (HI.o.kept hg) hsz (HT.o.grown hg) hn);have hs1:(w.alloc (.cells #[.int .i64 bt,.int .i64 bf,.int .i64 bd] 33)).heap.size=w.heap.size+1:=Array.size_push _;have A1:=aH (w.alloc (.cells #[.int .i64 bt,.int .i64 bf,.int .i64 bd] 33)) (.cells #[.int .i64 0,.int .i64 0,.string ⟨#[]⟩] 45) none;have G1:=hid (ya (aH w (.cells #[.int .i64 bt,.int .i64 bf,.int .i64 bd] 33) none) A1);have BR:=hid (yc.new (w.alloc (.cells #[.int .i64 bt,.int .i64 bf,.int .i64 bd] 33)) #[.int .i64 0,.int .i64 0,.string ⟨#[]⟩] 45)
 rw [hs1] at BR;clear hin ht A1 hs1;go_enter Tryz.func28,Tryz.ntmps28;go_wp2_with fail;generalize (w.alloc (.cells #[.int .i64 bt,.int .i64 bf,.int .i64 bd] 33)).alloc (.cells #[.int .i64 0,.int .i64 0,.string ⟨#[]⟩] 45)=W1 at *;have Jl:w.heap.size<=w.heap.size+1:=by omega
 generalize w.heap.size+1=R at *;refine (cG.o _ G1.o).mono ?_;rintro e W2 ⟨hg,h2⟩;have G2:=hid (ya G1.o h2);have wV:=hid (BR.o.grown h2 (by simp));have Ob:=BR.o.lt;have hR2:=wV.o.lt;have H12:=hid h2;clear h2 cG BR;rcases hg with ⟨f,hf,rfl,hc⟩ | ⟨hb,hl1,hl2,xs,hx,P,vm,bl,gl,hfi,rfl,hga⟩
 ·have F7:=hid (show Lj bt bf bd fs (.returned (.tuple #[.string (bs []),gq f])) from .inl ⟨f,hf,rfl,hc⟩);obtain ⟨fe,fa,fn⟩:=f;unfold gq;dsimp only at *;have d1:(fe == 0)=false:=by simpa using hf
  have d2:(fe != 0)=true:=by simpa using hf
  have BX:=hid (yc.new W2 #[.int .i64 fe,.int .i64 fa,.string (bs fn)] 45);have AX:=hid (aH W2 (.cells #[.int .i64 fe,.int .i64 fa,.string (bs fn)] 45) none);have BF:=hid (wV.o.grown AX.o (by simp));have G3:=hid (ya G2.o AX.o);clear hf hc;go_wp2;generalize W2.alloc (.cells #[.int .i64 fe,.int .i64 fa,.string (bs fn)] 45)=V at *;have TV:R≠W2.heap.size:=by omega
  generalize W2.heap.size=X at *;have x0:V.cell? ⟨X,0,none⟩=some (.int .i64 fe):=BX.o.cell 0;have x1:V.cell? ⟨X,1,none⟩=some (.int .i64 fa):=BX.o.cell 1;have x2:V.cell? ⟨X,2,none⟩=some (.string (bs fn)):=BX.o.cell 2;have z0:V.cell? ⟨R,0,none⟩=some (.int .i64 0):=BF.o.cell 0;have z1:V.cell? ⟨R,1,none⟩=some (.int .i64 0):=BF.o.cell 1;have z2:V.cell? ⟨R,2,none⟩=some (.string ⟨#[]⟩):=BF.o.cell 2;have f0:=BF.o.free 0;have f1:=BF.o.free 1;have f2:=BF.o.free 2
  go_region_held3 (fun w'=>w'.cell? ⟨X,0,none⟩=some (.int .i64 fe)/\w'.cell? ⟨X,1,none⟩=some (.int .i64 fa)/\w'.cell? ⟨X,2,none⟩=some (.string (bs fn)))
   (go_keep)
   (fail)
  go_wp2;have F:=zW (((BF.o.set 0 (.int .i64 fe)).set 1 (.int .i64 fa)).set 2 (.string (bs fn)));have h0:=F.cell 0;have h1:=F.cell 1;have h2:=F.cell 2;simp only [gH,gF,gG,bJ,bN,bL] at h0 h1 h2;refine bodyPost_ret (v:=.tuple #[.string (bs []),gq ⟨fe,fa,fn⟩]) ?_ rfl ⟨F7.o,yi (yA G3.o _ Jl _ _ _)⟩;clear F z0 z1 z2 f0 f1 f2;generalize World.drew _=WF at *;simp [results,Tryz.results28,go_sem,gq,bs,h0,h1,h2]
 ·have LV:=ylj hx hl2 hfi;have FIN:=hid (fun (b:List UInt8) (f:Ln.rJ) (h:Ln.gy (Ln.bQ xs) bt bf bd=(b,f))=>show Lj bt bf bd fs (.returned (.tuple #[.string (bs b),gq f])) from .inr ⟨hb,hl1,hl2,xs,hx,hfi,by rw [h]⟩);have hbs:=ymB hb;clear hb hl1 hl2 hfi;generalize Ln.bQ xs=os at *;have OK:=hid (yrb LV.1 LV.2 hbs.1 hbs.2.1 hbs.2.2);have RA:=hid (ZA os LV.1);have t:=Ml hbs.1;have f:=Ml hbs.2.1;have d:=Ml hbs.2.2;have LO:=hga.gM;have AX:=aH W2 (.cells #[.int .i64 0,.int .i64 0,.string (bs [])] 45) none;have HP:=hid ((hga.prog.kept AX).f);have BX:=hid (yc.new W2 #[.int .i64 0,.int .i64 0,.string (bs [])] 45)
  have BF:=hid (wV.o.grown AX (by simp));have TV:R≠W2.heap.size:=by omega
  have hX1:=hid H12.o.size;have RS:=hid (show Ln.gy os bt bf bd=if (Ln.bM os).e≠0 then ([],Ln.bM os) else if (Ln.dz (Ln.eX os bt bf bd) (Ln.dQ os bt bf bd)).e≠0 then ([],Ln.dz (Ln.eX os bt bf bd) (Ln.dQ os bt bf bd)) else (Im.bytes (Ln.eX os bt bf bd),Ln.ok) from rfl);have SE:=hid LV.2;clear hga AX hx LV hbs;unfold gq Ln.ok;dsimp only
  go_upto_region 4 with fail
  generalize W2.alloc (.cells #[.int .i64 0,.int .i64 0,.string (bs [])] 45)=V at *;generalize W2.heap.size=X at *;have J3:=hid (ylI V W1 P bt bf bd vm bl gl os V HP.o);generalize Ln.bM os=tf at *;obtain ⟨te,ta,tn⟩:=tf;unfold gq aX at J3;unfold aX;dsimp only at *;go_wp2_with fail;refine J3.o.mono ?_;rintro e V3 ⟨rfl,h3⟩;have P3:=hid h3.toProgAt;have FT:=hid (h3.kf _ _ BX.o);have uZ:=hid (h3.kf _ _ BF.o);clear h3 J3 HP BX BF wV;have P4:=hid (P3.o.flt FT.o hX1.o (.int .i64 te) (.int .i64 ta) (.string (bs tn)));have MW:=hid (ymc FT.o (.int .i64 te) (.int .i64 ta) (.string (bs tn)));have BF:=hid (Rm uZ.o TV (.int .i64 te) (.int .i64 ta) (.string (bs tn)))
  have x0:V3.cell? ⟨X,0,none⟩=some (.int .i64 0):=FT.o.cell 0;have x1:V3.cell? ⟨X,1,none⟩=some (.int .i64 0):=FT.o.cell 1;have x2:V3.cell? ⟨X,2,none⟩=some (.string (bs [])):=FT.o.cell 2;have y0:V3.frozen? ⟨X,0,none⟩=false:=FT.o.free 0;have y1:V3.frozen? ⟨X,1,none⟩=false:=FT.o.free 1;have y2:V3.frozen? ⟨X,2,none⟩=false:=FT.o.free 2
  go_upto_region 5 with fail
  clear x0 x1 x2 y0 y1 y2 P3 FT uZ;generalize (((V3.setCell ⟨X,0,none⟩ (.int .i64 te)).setCell ⟨X,1,none⟩ (.int .i64 ta)).setCell ⟨X,2,none⟩ (.string (bs tn)))=V4 at *;have x0:V4.cell? ⟨X,0,none⟩=some (.int .i64 te):=MW.o.cell 0;have x1:V4.cell? ⟨X,1,none⟩=some (.int .i64 ta):=MW.o.cell 1;have x2:V4.cell? ⟨X,2,none⟩=some (.string (bs tn)):=MW.o.cell 2;have G3:=hid (ya G1.o P4.o.gr);by_cases he:te=0
  case neg =>
   have d1:(te == 0)=false:=by simpa using he
   have d2:(te != 0)=true:=by simpa using he
   have F7:=hid (FIN.o [] ⟨te,ta,tn⟩ (by rw [RS.o,if_pos he]));clear he;go_wp2;have z0:V4.cell? ⟨R,0,none⟩=some (.int .i64 0):=BF.o.cell 0;have z1:V4.cell? ⟨R,1,none⟩=some (.int .i64 0):=BF.o.cell 1;have z2:V4.cell? ⟨R,2,none⟩=some (.string ⟨#[]⟩):=BF.o.cell 2;have f0:=BF.o.free 0;have f1:=BF.o.free 1;have f2:=BF.o.free 2
   go_region_held3 (fun w'=>w'.cell? ⟨X,0,none⟩=some (.int .i64 te)/\w'.cell? ⟨X,1,none⟩=some (.int .i64 ta)/\w'.cell? ⟨X,2,none⟩=some (.string (bs tn)))
    (go_keep)
    (fail)
   go_wp2;have F:=zW (((BF.o.set 0 (.int .i64 te)).set 1 (.int .i64 ta)).set 2 (.string (bs tn)));have h0:=F.cell 0;have h1:=F.cell 1;have h2:=F.cell 2;simp only [gH,gF,gG,bJ,bN,bL] at h0 h1 h2;refine bodyPost_ret (v:=.tuple #[.string (bs []),gq ⟨te,ta,tn⟩]) ?_ rfl ⟨F7.o,yi (yA G3.o _ Jl _ _ _)⟩;clear F z0 z1 z2 f0 f1 f2;generalize World.drew _=WF at *;simp [results,Tryz.results28,go_sem,gq,bs,h0,h1,h2]
  case pos =>
   subst he;have Cb:=hid (show Ln.gy os bt bf bd=if (Ln.dz (Ln.eX os bt bf bd) (Ln.dQ os bt bf bd)).e≠0 then ([],Ln.dz (Ln.eX os bt bf bd) (Ln.dQ os bt bf bd)) else (Im.bytes (Ln.eX os bt bf bd),Ln.ok) by rw [RS.o,if_neg (by simp)]);have J2:=hid (ymU V4 W1 P bt bf bd vm bl gl _ _ 0 V4 P4.o.f (fun m hm=>by rw [<- LO]; exact (RA.o m hm).nice) (fun m hm=>(RA.o m hm).obj) (fun m hm=>(RA.o m hm).short) (by omega) (by omega) (by omega));clear RS RA;unfold aX at J2;go_wp2_with fail;refine J2.o.mono ?_;rintro e V5 ⟨rfl,h5⟩;have P5:=hid (show ProgAt W1 P bt bf bd vm bl gl (Ln.dQ os bt bf bd) (Ln.named os Ln.dG) (Ln.noughts bd (Ln.shorten (Ln.lay bt bf bd (Ln.dw os (os.map Ln.bare))))) V5 from h5.toProgAt)
   have Wz:=hid (h5.kf _ _ MW.o);have xw:=hid (h5.kf _ _ BF.o);clear h5 J2 x0 x1 x2 P4 MW BF G3;have cB:=hid (ynM W1 P bt bf bd vm bl gl _ _ _ V5 (HT.o.grown (ya G1.o P5.o.gr)) P5.o (by rw [<- LO]; exact OK.o.nice) OK.o.valid OK.o.low OK.o.mean (by rw [<- LO]; exact OK.o.start) (by rw [<- LO]; exact SE.o) (by omega) (by omega) (by omega));unfold aX at cB;go_wp2_with fail;refine cB.o.mono ?_;rintro e V6 ⟨I,rfl,hI,h6⟩;have I6:=hid (show nA V6 I (Ln.eX os bt bf bd) from hI);have P6:=hid (P5.o.kept h6);have WA:=hid (Wz.o.grown h6 (by simp));have Wx:=hid (xw.o.grown h6 (by simp));clear hI h6 cB P5 Wz xw
   have cC:=hid (ygX W1 P bt bf bd vm bl gl _ _ _ I _ V6 P6.o (by rw [<- LO]; exact OK.o.nice) I6.o OK.o.KT);generalize Ln.dz (Ln.eX os bt bf bd) (Ln.dQ os bt bf bd)=pf at *;obtain ⟨pe,pa,pn⟩:=pf;unfold aX gq at cC;dsimp only at *;go_wp2_with fail;refine cC.o.mono ?_;rintro e V7 ⟨rfl,h7⟩;have I7:=hid (I6.o.kept h7);have P7:=hid (P6.o.kept h7);have Fu:=hid (WA.o.grown h7 (by simp));have Wy:=hid (Wx.o.grown h7 (by simp));clear h7 cC I6 P6 WA Wx;have I8:=hid (I7.o.flt Fu.o (.int .i64 pe) (.int .i64 pa) (.string (bs pn)));have P8:=hid (P7.o.flt Fu.o hX1.o (.int .i64 pe) (.int .i64 pa) (.string (bs pn)))
   have Py:=hid (ymc Fu.o (.int .i64 pe) (.int .i64 pa) (.string (bs pn)));have BF:=hid (Rm Wy.o TV (.int .i64 pe) (.int .i64 pa) (.string (bs pn)));have x0:V7.cell? ⟨X,0,none⟩=some (.int .i64 0):=Fu.o.cell 0;have x1:V7.cell? ⟨X,1,none⟩=some (.int .i64 ta):=Fu.o.cell 1;have x2:V7.cell? ⟨X,2,none⟩=some (.string (bs tn)):=Fu.o.cell 2;have y0:V7.frozen? ⟨X,0,none⟩=false:=Fu.o.free 0;have y1:V7.frozen? ⟨X,1,none⟩=false:=Fu.o.free 1;have y2:V7.frozen? ⟨X,2,none⟩=false:=Fu.o.free 2
   go_upto_region 10 with fail
   clear x0 x1 x2 y0 y1 y2 P7 Fu Wy I7;generalize (((V7.setCell ⟨X,0,none⟩ (.int .i64 pe)).setCell ⟨X,1,none⟩ (.int .i64 pa)).setCell ⟨X,2,none⟩ (.string (bs pn)))=V8 at *;have x0:V8.cell? ⟨X,0,none⟩=some (.int .i64 pe):=Py.o.cell 0;have x1:V8.cell? ⟨X,1,none⟩=some (.int .i64 pa):=Py.o.cell 1;have x2:V8.cell? ⟨X,2,none⟩=some (.string (bs pn)):=Py.o.cell 2;have G3:=hid (ya G1.o P8.o.gr);by_cases he:pe=0
   case neg =>
    have d1:(pe == 0)=false:=by simpa using he
    have d2:(pe != 0)=true:=by simpa using he
    have F7:=hid (FIN.o [] ⟨pe,pa,pn⟩ (by rw [Cb.o,if_pos he]));clear he;go_wp2;have z0:V8.cell? ⟨R,0,none⟩=some (.int .i64 0):=BF.o.cell 0;have z1:V8.cell? ⟨R,1,none⟩=some (.int .i64 0):=BF.o.cell 1;have z2:V8.cell? ⟨R,2,none⟩=some (.string ⟨#[]⟩):=BF.o.cell 2;have f0:=BF.o.free 0;have f1:=BF.o.free 1;have f2:=BF.o.free 2
    go_region_held3 (fun w'=>w'.cell? ⟨X,0,none⟩=some (.int .i64 pe)/\w'.cell? ⟨X,1,none⟩=some (.int .i64 pa)/\w'.cell? ⟨X,2,none⟩=some (.string (bs pn)))
     (go_keep)
     (fail)
    go_wp2;have F:=zW (((BF.o.set 0 (.int .i64 pe)).set 1 (.int .i64 pa)).set 2 (.string (bs pn)));have h0:=F.cell 0;have h1:=F.cell 1;have h2:=F.cell 2;simp only [gH,gF,gG,bJ,bN,bL] at h0 h1 h2;refine bodyPost_ret (v:=.tuple #[.string (bs []),gq ⟨pe,pa,pn⟩]) ?_ rfl ⟨F7.o,yi (yA G3.o _ Jl _ _ _)⟩;clear F z0 z1 z2 f0 f1 f2;generalize World.drew _=WF at *;simp [results,Tryz.results28,go_sem,gq,bs,h0,h1,h2]
   case pos =>
    subst he;have F7:=hid (FIN.o (Im.bytes (Ln.eX os bt bf bd)) Ln.ok (by rw [Cb.o,if_neg (by simp)]));have iw:=YU (Ln.named os Ln.dG) bt bf bd (Ln.noughts bd (Ln.shorten (Ln.lay bt bf bd (Ln.dw os (os.map Ln.bare))))) OK.o.valid;have cW:=hid (yjX I (Ln.eX os bt bf bd) V8 I8.o OK.o.KT (Wd iw.1) (Wd iw.2.1) (Wd iw.2.2));clear iw;go_wp2_with fail;refine cW.o.mono ?_;rintro e V9 ⟨rfl,h9⟩;have G9:=hid (ya G3.o h9);have BR:=hid (BF.o.grown h9 (by simp));clear h9 cW x0 x1 x2 P8 Py I8 BF;have z0:V9.cell? ⟨R,0,none⟩=some (.int .i64 0):=BR.o.cell 0;have z1:V9.cell? ⟨R,1,none⟩=some (.int .i64 0):=BR.o.cell 1
    have z2:V9.cell? ⟨R,2,none⟩=some (.string ⟨#[]⟩):=BR.o.cell 2;have f0:=BR.o.free 0;have f1:=BR.o.free 1;have f2:=BR.o.free 2;go_wp2;have F:=((BR.o.set 0 (.int .i64 0)).set 1 (.int .i64 0)).set 2 (.string ⟨#[]⟩);have h0:=F.cell 0;have h1:=F.cell 1;have h2:=F.cell 2;simp only [gH,gF,gG,bJ,bN,bL] at h0 h1 h2;refine bodyPost_ret (v:=.tuple #[.string (bs (Im.bytes (Ln.eX os bt bf bd))),gq Ln.ok]) ?_ rfl ⟨F7.o,yA G9.o _ Jl _ _ _⟩;clear F z0 z1 z2 f0 f1 f2;generalize World.setCell _ _ _=WF at *;simp [results,Tryz.results28,go_sem,gq,Ln.ok,bs,h0,h1,h2]
theorem Zh (B:Nat) (s:ByteArray) (b g:Nat) (st:As.St) (W:World) (h:ym B s b g st W) :
  Calls Tryz.prog 138 #[.pointer (some ⟨b,0,none⟩)] W fun e W'=>e = .returned (.bool (As.nK st.ah))/\W'=W:=by
 have c:=wR h;have hs:=h.ok.ah;clear h;generalize st.ah=ah at *;rcases (show ah=1\/ah=2\/ah=3\/ah=4 by omega) with rfl | rfl | rfl | rfl
 all_goals
  go_enter Tryz.func138,Tryz.ntmps138;go_wp2;go_ret;exact ⟨rfl,rfl⟩
theorem yle {B:Nat} {s:ByteArray} {b g:Nat} {V:World} {st:As.St} (h:ym B s b g st V) (i:Nat) (hi:i < 4):∃ vt vf vd ag cs vs vr x,sO B V b g st.obj vt vf vd (.slice (some ⟨ag,0,none⟩) 4 cs) vs vr/\V.cell? ⟨g,4,none⟩=some (.slice (some ⟨ag,0,none⟩) 4 cs) /\
  st.obj.align[i]?=some x/\V.cell? ⟨ag,i,none⟩=some (.int .i64 x)/\(∀ o,V.frozen? ⟨ag,o,none⟩=false)/\4<=cs:=by
 have h4:=h.ok.align;obtain ⟨vt,vf,vd,va,vs,vr,ho⟩:=h.own;obtain ⟨gJ,cs,rfl⟩:=yh ho.align;obtain ⟨ag,cur,rfl,hb,-,-,hcs⟩:=ymk ho.align (by omega);obtain ⟨ag',off,hag,hc⟩:=yC.aU ho.align (by omega);simp only [Option.some.injEq,Addr.mk.injEq] at hag;obtain ⟨rfl,rfl,-⟩:=hag;have k:=hc i (by omega);rw [Nat.zero_add] at k;have g4:=ho.blk.cell 4;simp only [bJ,bN,bL] at g4;rw [h4] at ho g4 hcs;exact ⟨vt,vf,vd,ag,cs,vs,vr,st.obj.align[i]'(by omega),ho,g4,jW (by omega),k,fun o=>hb.free o,hcs⟩
theorem Mj (B:Nat) (s:ByteArray) (b g:Nat) (st:As.St) (k:Int) (W:World) (h:ym B s b g st W) :
  Calls Tryz.prog 200 #[.pointer (some ⟨b,0,none⟩),.int .i64 k] W fun en W'=>en = .returned (.tuple #[])/\Does B s b g W (As.bT k st) W':=by
 have HW:=hid h;have c13:=wR h;have c14:=uW h;have hs:=h.ok.ah;obtain ⟨i,hi⟩:∃ i,i+1=st.ah:=⟨st.ah - 1,by omega⟩
 have hi4:i < 4:=by omega
 obtain ⟨vt,vf,vd,ag,cs,vs,vr,x,ho,g4,hx,kx,hfz,hcs⟩:=yle h i hi4;have fz:=hfz i;have HO:=hid ho;clear h ho hfz;have RS:=hid (show As.bT k st=if x < k then { st with obj:={ st.obj with align:=st.obj.align.set i k } } else st from by
  unfold As.bT;rw [show st.ah - 1=i by omega,hx];rfl)
 generalize As.bT k st=X at *;have e1:(st.ah:Int)=(i:Int)+1:=by omega
 rw [e1] at c13;have d1:decide ((i:Int) < 0)=false:=by simp
 have d2:decide ((4:Int)<=(i:Int))=false:=by simp; omega
 have d3:decide (4<=i)=false:=by simp; omega
 have g1:(0:Int)<=(i:Int):=by omega
 have g2:(i:Int) < 4:=by omega
 clear hs hi hx e1;by_cases c:x < k
 ·have d:decide (x < k)=true:=by simp [c]
  rw [if_pos c] at RS;have P:=hid (HW.o.does.after (HW.o.Ee HO.o i hi4 k));clear c;go_enter Tryz.func200,Tryz.ntmps200;go_wp2
  go_end0
  rw [RS.o];exact ⟨rfl,P.o⟩
 ·have d:decide (x < k)=false:=by simp; omega
  rw [if_neg c] at RS;clear c;go_enter Tryz.func200,Tryz.ntmps200;go_wp2
  go_end0
  rw [RS.o];exact ⟨rfl,HW.o.does⟩
theorem yoC (s:List UInt8) (lo hi:Int) (st:As.St) (h:As.failed (As.number s lo hi st).2=false):lo<=(As.number s lo hi st).1/\(As.number s lo hi st).1<=hi:=by
 have key:∀ neg pos st,As.failed (As.aT s neg pos lo hi st).2=false->lo<=(As.aT s neg pos lo hi st).1/\(As.aT s neg pos lo hi st).1<=hi:=by
  intro neg pos st hf;unfold As.aT at hf ⊢;generalize (if neg then -(st.tok.n:Int) else (st.tok.n:Int))=x at *;split at hf
  ·rename_i hk;rw [if_pos hk];by_cases h:x < lo\/hi < x
   ·rw [if_pos h] at hf;rw [QD _ _ _ (by omega)] at hf
    cases hf
   ·rw [if_neg h]; simp only; omega
  ·rw [QD _ _ _ (by omega)] at hf
   cases hf
 unfold As.number at h ⊢;split at h
 ·rename_i hm; rw [if_pos hm]; exact key _ _ _ h
 ·rename_i hm; rw [if_neg hm]; exact key _ _ _ h
theorem ynJ (B:Nat) (s:ByteArray) (b g:Nat) (st0:As.St) (W:World) (h:ym B s b g st0 W) :
  Calls Tryz.prog 156 #[.pointer (some ⟨b,0,none⟩)] W fun en W'=>en = .returned (.tuple #[])/\Does B s b g W (As.align (sl s) st0) W':=by
 have D0:=hid h.does;clear h;obtain ⟨X,hX⟩:∃ X,X=As.align (sl s) st0:=⟨_,rfl⟩
 rw [<- hX];unfold As.align at hX;dsimp only at hX;have RS:=hid hX;clear hX;have NO:=hid (yoC (sl s) 2 4 st0);go_enter Tryz.func156,Tryz.ntmps156;go_wp2_with fail;refine (IL B s b g st0 2 4 _ D0.o.1).mono ?_;rintro e V1 ⟨rfl,hh⟩;have D1:=hid (D0.o.aP hh);clear hh D0;generalize As.number (sl s) 2 4 st0=R1 at *;obtain ⟨n,st1⟩:=R1;dsimp only at RS D1 NO ⊢;go_wp2_with fail;refine (Fz B s b g st1 V1 D1.o.1).mono ?_;rintro e w1 ⟨rfl,rfl⟩
 cases hf:As.failed st1
 ·rw [hf,if_neg (by simp)] at RS;have hn:=NO.o hf;clear hf NO;have cI:=hid (fun V hV=>Zh B s b g st1 V hV);have hsb:=Vt D1.o.1.ok;rcases (show n=2\/n=3\/n=4 by omega) with rfl | rfl | rfl
  ·clear hn;have Cb:=hid (show X=As.bT 2 (As.dB 4 st1) from RS.o);clear RS;go_wp2_with fail;refine (cI.o w1 D1.o.1).mono ?_;rintro e w2 ⟨rfl,rfl⟩
   cases hc:As.nK st1.ah
   ·have RT:=hid (show As.dB 4 st1=As.lay (List.replicate (((4:Int) - 4 * As.bK st1.obj st1.ah % 4) % 4 / 4).toNat 0) st1 from by unfold As.dB; rw [hc]; rfl);clear hc;have cL:=hid (fun V hV=>MB B s b g st1 V hV);have HD0:=hid (fun n=>D1.o.drewN n);have c13:=wR D1.o.1;have c14:=uW D1.o.1;generalize As.bK st1.obj st1.ah=q at *;obtain ⟨qn,rfl⟩:=Int.eq_ofNat_of_zero_le hsb.1;have hq2:(qn:Int)<=1200:=hsb.2;have hq3:(0:Int)<=4 * (qn:Int):=by omega
    have EC:=hid (show (((4:Int) - 4 * (qn:Int) % 4) % 4 / 4)=(((((4:Int) - 4 * (qn:Int) % 4) % 4 / 4).toNat:Nat):Int) by omega);have HC:=hid (show (((4:Int) - 4 * (qn:Int) % 4) % 4 / 4).toNat<=4096 by omega);have r0:(0:Int)<=4 * (qn:Int) % 4:=by omega
    have r1:4 * (qn:Int) % 4 < 4:=by omega
    generalize (((4:Int) - 4 * (qn:Int) % 4) % 4 / 4).toNat=cnt at *;go_wp2
    go_quiet ((go_at_call 87; exact Calls.quiet_of_same (cL.o _ (HD0.o _).1)))
    have D2:=hid (HD0.o nq);clear HD0 c13 c14 cL;generalize w2.drewN nq=V2 at *;go_wp2_with fail;refine (Mi 0 cnt _ (by have e:=EC.o; omega) _ HC.o).mono ?_;rintro e V3 ⟨⟨ao,cap,rfl,hw⟩,hg⟩;have D3:=hid (D2.o.grown hg);have vJ:=hid hw;clear hg hw D2;go_wp2_with fail;refine (RJ B s b g st1 0 cnt ao cap V3 D3.o.1 vJ.o HC.o).mono ?_;rintro e V4 ⟨rfl,h4⟩;have D4:=hid (D3.o.after h4);clear h4;rw [<- RT.o] at D4;go_wp2_with fail;refine (Mj B s b g _ 2 V4 D4.o.1).mono ?_;rintro e V5 ⟨rfl,h5⟩;have D5:=hid (D4.o.after h5);clear h5;go_wp2
    go_end0
    rw [Cb.o];exact ⟨rfl,D5.o⟩
   ·have RT:=hid (show As.dB 4 st1=st1 from by unfold As.dB; rw [hc]; rfl);clear hc;rw [RT.o] at Cb;go_wp2_with fail;refine (Mj B s b g _ 2 w2 D1.o.1).mono ?_;rintro e V5 ⟨rfl,h5⟩;have D5:=hid (D1.o.after h5);clear h5;go_wp2
    go_end0
    rw [Cb.o];exact ⟨rfl,D5.o⟩
  ·clear hn;have Cb:=hid (show X=As.bT 3 (As.dB 8 st1) from RS.o);clear RS;go_wp2_with fail;refine (cI.o w1 D1.o.1).mono ?_;rintro e w2 ⟨rfl,rfl⟩
   cases hc:As.nK st1.ah
   ·have RT:=hid (show As.dB 8 st1=As.lay (List.replicate (((8:Int) - 4 * As.bK st1.obj st1.ah % 8) % 8 / 4).toNat 0) st1 from by unfold As.dB; rw [hc]; rfl);clear hc;have cL:=hid (fun V hV=>MB B s b g st1 V hV);have HD0:=hid (fun n=>D1.o.drewN n);have c13:=wR D1.o.1;have c14:=uW D1.o.1;generalize As.bK st1.obj st1.ah=q at *;obtain ⟨qn,rfl⟩:=Int.eq_ofNat_of_zero_le hsb.1;have hq2:(qn:Int)<=1200:=hsb.2;have hq3:(0:Int)<=4 * (qn:Int):=by omega
    have EC:=hid (show (((8:Int) - 4 * (qn:Int) % 8) % 8 / 4)=(((((8:Int) - 4 * (qn:Int) % 8) % 8 / 4).toNat:Nat):Int) by omega);have HC:=hid (show (((8:Int) - 4 * (qn:Int) % 8) % 8 / 4).toNat<=4096 by omega);have r0:(0:Int)<=4 * (qn:Int) % 8:=by omega
    have r1:4 * (qn:Int) % 8 < 8:=by omega
    generalize (((8:Int) - 4 * (qn:Int) % 8) % 8 / 4).toNat=cnt at *;go_wp2
    go_quiet ((go_at_call 87; exact Calls.quiet_of_same (cL.o _ (HD0.o _).1)))
    have D2:=hid (HD0.o nq);clear HD0 c13 c14 cL;generalize w2.drewN nq=V2 at *;go_wp2_with fail;refine (Mi 0 cnt _ (by have e:=EC.o; omega) _ HC.o).mono ?_;rintro e V3 ⟨⟨ao,cap,rfl,hw⟩,hg⟩;have D3:=hid (D2.o.grown hg);have vJ:=hid hw;clear hg hw D2;go_wp2_with fail;refine (RJ B s b g st1 0 cnt ao cap V3 D3.o.1 vJ.o HC.o).mono ?_;rintro e V4 ⟨rfl,h4⟩;have D4:=hid (D3.o.after h4);clear h4;rw [<- RT.o] at D4;go_wp2_with fail;refine (Mj B s b g _ 3 V4 D4.o.1).mono ?_;rintro e V5 ⟨rfl,h5⟩;have D5:=hid (D4.o.after h5);clear h5;go_wp2
    go_end0
    rw [Cb.o];exact ⟨rfl,D5.o⟩
   ·have RT:=hid (show As.dB 8 st1=As.bZ 6 0 4 (List.replicate 1 19) st1 from by unfold As.dB; rw [hc]; rfl);clear hc;go_wp2_with fail;refine (Mi 19 1 _ rfl _ (by omega)).mono ?_;rintro e V3 ⟨⟨ao,cap,rfl,hw⟩,hg⟩;have D3:=hid (D1.o.grown hg);have vJ:=hid hw;clear hg hw;go_wp2_with fail;refine (Y0 B s b g st1 6 0 4 19 1 ao cap V3 D3.o.1 vJ.o (by omega)).mono ?_;rintro e V4 ⟨rfl,h4⟩;have D4:=hid (D3.o.after h4);clear h4;rw [<- RT.o] at D4;go_wp2_with fail;refine (Mj B s b g _ 3 V4 D4.o.1).mono ?_;rintro e V5 ⟨rfl,h5⟩;have D5:=hid (D4.o.after h5);clear h5;go_wp2
    go_end0
    rw [Cb.o];exact ⟨rfl,D5.o⟩
  ·clear hn;have Cb:=hid (show X=As.bT 4 (As.dB 16 st1) from RS.o);clear RS;go_wp2_with fail;refine (cI.o w1 D1.o.1).mono ?_;rintro e w2 ⟨rfl,rfl⟩
   cases hc:As.nK st1.ah
   ·have RT:=hid (show As.dB 16 st1=As.lay (List.replicate (((16:Int) - 4 * As.bK st1.obj st1.ah % 16) % 16 / 4).toNat 0) st1 from by unfold As.dB; rw [hc]; rfl);clear hc;have cL:=hid (fun V hV=>MB B s b g st1 V hV);have HD0:=hid (fun n=>D1.o.drewN n);have c13:=wR D1.o.1;have c14:=uW D1.o.1;generalize As.bK st1.obj st1.ah=q at *;obtain ⟨qn,rfl⟩:=Int.eq_ofNat_of_zero_le hsb.1;have hq2:(qn:Int)<=1200:=hsb.2;have hq3:(0:Int)<=4 * (qn:Int):=by omega
    have EC:=hid (show (((16:Int) - 4 * (qn:Int) % 16) % 16 / 4)=(((((16:Int) - 4 * (qn:Int) % 16) % 16 / 4).toNat:Nat):Int) by omega);have HC:=hid (show (((16:Int) - 4 * (qn:Int) % 16) % 16 / 4).toNat<=4096 by omega);have r0:(0:Int)<=4 * (qn:Int) % 16:=by omega
    have r1:4 * (qn:Int) % 16 < 16:=by omega
    generalize (((16:Int) - 4 * (qn:Int) % 16) % 16 / 4).toNat=cnt at *;go_wp2
    go_quiet ((go_at_call 87; exact Calls.quiet_of_same (cL.o _ (HD0.o _).1)))
    have D2:=hid (HD0.o nq);clear HD0 c13 c14 cL;generalize w2.drewN nq=V2 at *;go_wp2_with fail;refine (Mi 0 cnt _ (by have e:=EC.o; omega) _ HC.o).mono ?_;rintro e V3 ⟨⟨ao,cap,rfl,hw⟩,hg⟩;have D3:=hid (D2.o.grown hg);have vJ:=hid hw;clear hg hw D2;go_wp2_with fail;refine (RJ B s b g st1 0 cnt ao cap V3 D3.o.1 vJ.o HC.o).mono ?_;rintro e V4 ⟨rfl,h4⟩;have D4:=hid (D3.o.after h4);clear h4;rw [<- RT.o] at D4;go_wp2_with fail;refine (Mj B s b g _ 4 V4 D4.o.1).mono ?_;rintro e V5 ⟨rfl,h5⟩;have D5:=hid (D4.o.after h5);clear h5;go_wp2
    go_end0
    rw [Cb.o];exact ⟨rfl,D5.o⟩
   ·have RT:=hid (show As.dB 16 st1=As.bZ 6 0 12 (List.replicate 3 19) st1 from by unfold As.dB; rw [hc]; rfl);clear hc;go_wp2_with fail;refine (Mi 19 3 _ rfl _ (by omega)).mono ?_;rintro e V3 ⟨⟨ao,cap,rfl,hw⟩,hg⟩;have D3:=hid (D1.o.grown hg);have vJ:=hid hw;clear hg hw;go_wp2_with fail;refine (Y0 B s b g st1 6 0 12 19 3 ao cap V3 D3.o.1 vJ.o (by omega)).mono ?_;rintro e V4 ⟨rfl,h4⟩;have D4:=hid (D3.o.after h4);clear h4;rw [<- RT.o] at D4;go_wp2_with fail;refine (Mj B s b g _ 4 V4 D4.o.1).mono ?_;rintro e V5 ⟨rfl,h5⟩;have D5:=hid (D4.o.after h5);clear h5;go_wp2
    go_end0
    rw [Cb.o];exact ⟨rfl,D5.o⟩
 ·rw [hf,if_pos rfl] at RS;clear hf;go_wp2
  (try simp only [Exit.inBlock,Exit.then]); refine bodyPost_ret (results_none rfl _ _ _) rfl ?_
  rw [RS.o];exact ⟨rfl,D1.o⟩
theorem yjL (t:List UInt8) (w:World) :
  Calls Tryz.prog 137 #[.string (bs t)] w fun e w'=>e = .returned (.int .i64 (As.iW t:Nat))/\w'=w:=by
 have RS:=hid (show As.iW t=(
 if t=[46,116,101,120,116] then 15 else
 if t=[46,102,97,114] then 15 else
 if t=[46,100,97,116,97] then 15 else
 if t=[46,98,115,115] then 15 else
 if t=[46,119,111,114,100] then 16 else
 if t=[46,115,112,97,99,101] then 17 else
 if t=[46,97,108,105,103,110] then 18 else
 if t=[46,103,108,111,98,108] then 19 else
 if t=[46,119,101,97,107] then 19 else
 0) from rfl)
 generalize As.iW t=X at *;have e:∀ l:List UInt8,((bs t).toList == l)=decide (t=l):=fun l=>by rw [yJ,Bool.eq_iff_iff,beq_iff_eq,decide_eq_true_iff]
 by_cases h:t=[46,116,101,120,116]
 ·rw [if_pos h] at RS;have d0:=e [46,116,101,120,116];rw [decide_eq_true h] at d0;clear h e;go_enter Tryz.func137,Tryz.ntmps137;go_wp2;go_ret;exact ⟨by rw [RS.o]; rfl,rfl⟩
 have d0:=e [46,116,101,120,116];rw [if_neg h] at RS;rw [decide_eq_false h] at d0;clear h;by_cases h:t=[46,102,97,114]
 ·rw [if_pos h] at RS;have d1:=e [46,102,97,114];rw [decide_eq_true h] at d1;clear h e;go_enter Tryz.func137,Tryz.ntmps137;go_wp2;go_ret;exact ⟨by rw [RS.o]; rfl,rfl⟩
 have d1:=e [46,102,97,114];rw [if_neg h] at RS;rw [decide_eq_false h] at d1;clear h;by_cases h:t=[46,100,97,116,97]
 ·rw [if_pos h] at RS;have d2:=e [46,100,97,116,97];rw [decide_eq_true h] at d2;clear h e;go_enter Tryz.func137,Tryz.ntmps137;go_wp2;go_ret;exact ⟨by rw [RS.o]; rfl,rfl⟩
 have d2:=e [46,100,97,116,97];rw [if_neg h] at RS;rw [decide_eq_false h] at d2;clear h;by_cases h:t=[46,98,115,115]
 ·rw [if_pos h] at RS;have d3:=e [46,98,115,115];rw [decide_eq_true h] at d3;clear h e;go_enter Tryz.func137,Tryz.ntmps137;go_wp2;go_ret;exact ⟨by rw [RS.o]; rfl,rfl⟩
 have d3:=e [46,98,115,115];rw [if_neg h] at RS;rw [decide_eq_false h] at d3;clear h;by_cases h:t=[46,119,111,114,100]
 ·rw [if_pos h] at RS;have d4:=e [46,119,111,114,100];rw [decide_eq_true h] at d4;clear h e;go_enter Tryz.func137,Tryz.ntmps137;go_wp2;go_ret;exact ⟨by rw [RS.o]; rfl,rfl⟩
 have d4:=e [46,119,111,114,100];rw [if_neg h] at RS;rw [decide_eq_false h] at d4;clear h;by_cases h:t=[46,115,112,97,99,101]
 ·rw [if_pos h] at RS;have d5:=e [46,115,112,97,99,101];rw [decide_eq_true h] at d5;clear h e;go_enter Tryz.func137,Tryz.ntmps137;go_wp2;go_ret;exact ⟨by rw [RS.o]; rfl,rfl⟩
 have d5:=e [46,115,112,97,99,101];rw [if_neg h] at RS;rw [decide_eq_false h] at d5;clear h;by_cases h:t=[46,97,108,105,103,110]
 ·rw [if_pos h] at RS;have d6:=e [46,97,108,105,103,110];rw [decide_eq_true h] at d6;clear h e;go_enter Tryz.func137,Tryz.ntmps137;go_wp2;go_ret;exact ⟨by rw [RS.o]; rfl,rfl⟩
 have d6:=e [46,97,108,105,103,110];rw [if_neg h] at RS;rw [decide_eq_false h] at d6;clear h;by_cases h:t=[46,103,108,111,98,108]
 ·rw [if_pos h] at RS;have d7:=e [46,103,108,111,98,108];rw [decide_eq_true h] at d7;clear h e;go_enter Tryz.func137,Tryz.ntmps137;go_wp2;go_ret;exact ⟨by rw [RS.o]; rfl,rfl⟩
 have d7:=e [46,103,108,111,98,108];rw [if_neg h] at RS;rw [decide_eq_false h] at d7;clear h;by_cases h:t=[46,119,101,97,107]
 ·rw [if_pos h] at RS;have d8:=e [46,119,101,97,107];rw [decide_eq_true h] at d8;clear h e;go_enter Tryz.func137,Tryz.ntmps137;go_wp2;go_ret;exact ⟨by rw [RS.o]; rfl,rfl⟩
 have d8:=e [46,119,101,97,107];rw [if_neg h] at RS;rw [decide_eq_false h] at d8;clear h;clear e;go_enter Tryz.func137,Tryz.ntmps137;go_wp2;go_ret;exact ⟨by rw [RS.o]; rfl,rfl⟩
theorem ylO (t:List UInt8) (w:World) :
  Calls Tryz.prog 88 #[.string (bs t)] w fun e w'=>e = .returned (.int .i64 (As.shapeOf t:Nat))/\w'=w:=by
 have RS:=hid (show As.shapeOf t=(
 if t=[97,100,100] then 1 else
 if t=[115,117,98] then 1 else
 if t=[115,108,116] then 1 else
 if t=[115,108,116,117] then 1 else
 if t=[120,111,114] then 1 else
 if t=[111,114] then 1 else
 if t=[97,110,100] then 1 else
 if t=[97,100,100,105] then 2 else
 if t=[115,108,116,105] then 2 else
 if t=[120,111,114,105] then 2 else
 if t=[111,114,105] then 2 else
 if t=[97,110,100,105] then 2 else
 if t=[108,117,105] then 3 else
 if t=[108,119] then 4 else
 if t=[115,119] then 5 else
 if t=[106,97,108,114] then 6 else
 if t=[101,99,97,108,108] then 7 else
 if t=[114,101,116] then 7 else
 if t=[110,111,112] then 7 else
 if t=[98,101,113] then 8 else
 if t=[98,110,101] then 8 else
 if t=[98,108,116] then 8 else
 if t=[98,103,101] then 8 else
 if t=[98,108,116,117] then 8 else
 if t=[98,103,101,117] then 8 else
 if t=[106,97,108] then 9 else
 if t=[106] then 10 else
 if t=[109,118] then 11 else
 if t=[108,105] then 12 else
 if t=[99,97,108,108] then 13 else
 if t=[116,97,105,108] then 13 else
 if t=[108,97] then 14 else
 As.iW t) from rfl)
 generalize As.shapeOf t=X at *;have e:∀ l:List UInt8,((bs t).toList == l)=decide (t=l):=fun l=>by rw [yJ,Bool.eq_iff_iff,beq_iff_eq,decide_eq_true_iff]
 by_cases h:t=[97,100,100]
 ·rw [if_pos h] at RS;have d0:=e [97,100,100];rw [decide_eq_true h] at d0;clear h e;go_enter Tryz.func88,Tryz.ntmps88;go_wp2;go_ret;exact ⟨by rw [RS.o]; rfl,rfl⟩
 have d0:=e [97,100,100];rw [if_neg h] at RS;rw [decide_eq_false h] at d0;clear h;by_cases h:t=[115,117,98]
 ·rw [if_pos h] at RS;have d1:=e [115,117,98];rw [decide_eq_true h] at d1;clear h e;go_enter Tryz.func88,Tryz.ntmps88;go_wp2;go_ret;exact ⟨by rw [RS.o]; rfl,rfl⟩
 have d1:=e [115,117,98];rw [if_neg h] at RS;rw [decide_eq_false h] at d1;clear h;by_cases h:t=[115,108,116]
 ·rw [if_pos h] at RS;have d2:=e [115,108,116];rw [decide_eq_true h] at d2;clear h e;go_enter Tryz.func88,Tryz.ntmps88;go_wp2;go_ret;exact ⟨by rw [RS.o]; rfl,rfl⟩
 have d2:=e [115,108,116];rw [if_neg h] at RS;rw [decide_eq_false h] at d2;clear h;by_cases h:t=[115,108,116,117]
 ·rw [if_pos h] at RS;have d3:=e [115,108,116,117];rw [decide_eq_true h] at d3;clear h e;go_enter Tryz.func88,Tryz.ntmps88;go_wp2;go_ret;exact ⟨by rw [RS.o]; rfl,rfl⟩
 have d3:=e [115,108,116,117];rw [if_neg h] at RS;rw [decide_eq_false h] at d3;clear h;by_cases h:t=[120,111,114]
 ·rw [if_pos h] at RS;have d4:=e [120,111,114];rw [decide_eq_true h] at d4;clear h e;go_enter Tryz.func88,Tryz.ntmps88;go_wp2;go_ret;exact ⟨by rw [RS.o]; rfl,rfl⟩
 have d4:=e [120,111,114];rw [if_neg h] at RS;rw [decide_eq_false h] at d4;clear h;by_cases h:t=[111,114]
 ·rw [if_pos h] at RS;have d5:=e [111,114];rw [decide_eq_true h] at d5;clear h e;go_enter Tryz.func88,Tryz.ntmps88;go_wp2;go_ret;exact ⟨by rw [RS.o]; rfl,rfl⟩
 have d5:=e [111,114];rw [if_neg h] at RS;rw [decide_eq_false h] at d5;clear h;by_cases h:t=[97,110,100]
 ·rw [if_pos h] at RS;have d6:=e [97,110,100];rw [decide_eq_true h] at d6;clear h e;go_enter Tryz.func88,Tryz.ntmps88;go_wp2;go_ret;exact ⟨by rw [RS.o]; rfl,rfl⟩
 have d6:=e [97,110,100];rw [if_neg h] at RS;rw [decide_eq_false h] at d6;clear h;by_cases h:t=[97,100,100,105]
 ·rw [if_pos h] at RS;have d7:=e [97,100,100,105];rw [decide_eq_true h] at d7;clear h e;go_enter Tryz.func88,Tryz.ntmps88;go_wp2;go_ret;exact ⟨by rw [RS.o]; rfl,rfl⟩
 have d7:=e [97,100,100,105];rw [if_neg h] at RS;rw [decide_eq_false h] at d7;clear h;by_cases h:t=[115,108,116,105]
 ·rw [if_pos h] at RS;have d8:=e [115,108,116,105];rw [decide_eq_true h] at d8;clear h e;go_enter Tryz.func88,Tryz.ntmps88;go_wp2;go_ret;exact ⟨by rw [RS.o]; rfl,rfl⟩
 have d8:=e [115,108,116,105];rw [if_neg h] at RS;rw [decide_eq_false h] at d8;clear h;by_cases h:t=[120,111,114,105]
 ·rw [if_pos h] at RS;have d9:=e [120,111,114,105];rw [decide_eq_true h] at d9;clear h e;go_enter Tryz.func88,Tryz.ntmps88;go_wp2;go_ret;exact ⟨by rw [RS.o]; rfl,rfl⟩
 have d9:=e [120,111,114,105];rw [if_neg h] at RS;rw [decide_eq_false h] at d9;clear h;by_cases h:t=[111,114,105]
 ·rw [if_pos h] at RS;have Jj:=e [111,114,105];rw [decide_eq_true h] at Jj;clear h e;go_enter Tryz.func88,Tryz.ntmps88;go_wp2;go_ret;exact ⟨by rw [RS.o]; rfl,rfl⟩
 have Jj:=e [111,114,105];rw [if_neg h] at RS;rw [decide_eq_false h] at Jj;clear h;by_cases h:t=[97,110,100,105]
 ·rw [if_pos h] at RS;have Jk:=e [97,110,100,105];rw [decide_eq_true h] at Jk;clear h e;go_enter Tryz.func88,Tryz.ntmps88;go_wp2;go_ret;exact ⟨by rw [RS.o]; rfl,rfl⟩
 have Jk:=e [97,110,100,105];rw [if_neg h] at RS;rw [decide_eq_false h] at Jk;clear h;by_cases h:t=[108,117,105]
 ·rw [if_pos h] at RS;have Gl:=e [108,117,105];rw [decide_eq_true h] at Gl;clear h e;go_enter Tryz.func88,Tryz.ntmps88;go_wp2;go_ret;exact ⟨by rw [RS.o]; rfl,rfl⟩
 have Gl:=e [108,117,105];rw [if_neg h] at RS;rw [decide_eq_false h] at Gl;clear h;by_cases h:t=[108,119]
 ·rw [if_pos h] at RS;have Tj:=e [108,119];rw [decide_eq_true h] at Tj;clear h e;go_enter Tryz.func88,Tryz.ntmps88;go_wp2;go_ret;exact ⟨by rw [RS.o]; rfl,rfl⟩
 have Tj:=e [108,119];rw [if_neg h] at RS;rw [decide_eq_false h] at Tj;clear h;by_cases h:t=[115,119]
 ·rw [if_pos h] at RS;have Tk:=e [115,119];rw [decide_eq_true h] at Tk;clear h e;go_enter Tryz.func88,Tryz.ntmps88;go_wp2;go_ret;exact ⟨by rw [RS.o]; rfl,rfl⟩
 have Tk:=e [115,119];rw [if_neg h] at RS;rw [decide_eq_false h] at Tk;clear h;by_cases h:t=[106,97,108,114]
 ·rw [if_pos h] at RS;have Tn:=e [106,97,108,114];rw [decide_eq_true h] at Tn;clear h e;go_enter Tryz.func88,Tryz.ntmps88;go_wp2;go_ret;exact ⟨by rw [RS.o]; rfl,rfl⟩
 have Tn:=e [106,97,108,114];rw [if_neg h] at RS;rw [decide_eq_false h] at Tn;clear h;by_cases h:t=[101,99,97,108,108]
 ·rw [if_pos h] at RS;have Tp:=e [101,99,97,108,108];rw [decide_eq_true h] at Tp;clear h e;go_enter Tryz.func88,Tryz.ntmps88;go_wp2;go_ret;exact ⟨by rw [RS.o]; rfl,rfl⟩
 have Tp:=e [101,99,97,108,108];rw [if_neg h] at RS;rw [decide_eq_false h] at Tp;clear h;by_cases h:t=[114,101,116]
 ·rw [if_pos h] at RS;have Tq:=e [114,101,116];rw [decide_eq_true h] at Tq;clear h e;go_enter Tryz.func88,Tryz.ntmps88;go_wp2;go_ret;exact ⟨by rw [RS.o]; rfl,rfl⟩
 have Tq:=e [114,101,116];rw [if_neg h] at RS;rw [decide_eq_false h] at Tq;clear h;by_cases h:t=[110,111,112]
 ·rw [if_pos h] at RS;have Tt:=e [110,111,112];rw [decide_eq_true h] at Tt;clear h e;go_enter Tryz.func88,Tryz.ntmps88;go_wp2;go_ret;exact ⟨by rw [RS.o]; rfl,rfl⟩
 have Tt:=e [110,111,112];rw [if_neg h] at RS;rw [decide_eq_false h] at Tt;clear h;by_cases h:t=[98,101,113]
 ·rw [if_pos h] at RS;have Tv:=e [98,101,113];rw [decide_eq_true h] at Tv;clear h e;go_enter Tryz.func88,Tryz.ntmps88;go_wp2;go_ret;exact ⟨by rw [RS.o]; rfl,rfl⟩
 have Tv:=e [98,101,113];rw [if_neg h] at RS;rw [decide_eq_false h] at Tv;clear h;by_cases h:t=[98,110,101]
 ·rw [if_pos h] at RS;have Tw:=e [98,110,101];rw [decide_eq_true h] at Tw;clear h e;go_enter Tryz.func88,Tryz.ntmps88;go_wp2;go_ret;exact ⟨by rw [RS.o]; rfl,rfl⟩
 have Tw:=e [98,110,101];rw [if_neg h] at RS;rw [decide_eq_false h] at Tw;clear h;by_cases h:t=[98,108,116]
 ·rw [if_pos h] at RS;have Tx:=e [98,108,116];rw [decide_eq_true h] at Tx;clear h e;go_enter Tryz.func88,Tryz.ntmps88;go_wp2;go_ret;exact ⟨by rw [RS.o]; rfl,rfl⟩
 have Tx:=e [98,108,116];rw [if_neg h] at RS;rw [decide_eq_false h] at Tx;clear h;by_cases h:t=[98,103,101]
 ·rw [if_pos h] at RS;have Tz:=e [98,103,101];rw [decide_eq_true h] at Tz;clear h e;go_enter Tryz.func88,Tryz.ntmps88;go_wp2;go_ret;exact ⟨by rw [RS.o]; rfl,rfl⟩
 have Tz:=e [98,103,101];rw [if_neg h] at RS;rw [decide_eq_false h] at Tz;clear h;by_cases h:t=[98,108,116,117]
 ·rw [if_pos h] at RS;have TA:=e [98,108,116,117];rw [decide_eq_true h] at TA;clear h e;go_enter Tryz.func88,Tryz.ntmps88;go_wp2;go_ret;exact ⟨by rw [RS.o]; rfl,rfl⟩
 have TA:=e [98,108,116,117];rw [if_neg h] at RS;rw [decide_eq_false h] at TA;clear h;by_cases h:t=[98,103,101,117]
 ·rw [if_pos h] at RS;have TD:=e [98,103,101,117];rw [decide_eq_true h] at TD;clear h e;go_enter Tryz.func88,Tryz.ntmps88;go_wp2;go_ret;exact ⟨by rw [RS.o]; rfl,rfl⟩
 have TD:=e [98,103,101,117];rw [if_neg h] at RS;rw [decide_eq_false h] at TD;clear h;by_cases h:t=[106,97,108]
 ·rw [if_pos h] at RS;have TF:=e [106,97,108];rw [decide_eq_true h] at TF;clear h e;go_enter Tryz.func88,Tryz.ntmps88;go_wp2;go_ret;exact ⟨by rw [RS.o]; rfl,rfl⟩
 have TF:=e [106,97,108];rw [if_neg h] at RS;rw [decide_eq_false h] at TF;clear h;by_cases h:t=[106]
 ·rw [if_pos h] at RS;have TG:=e [106];rw [decide_eq_true h] at TG;clear h e;go_enter Tryz.func88,Tryz.ntmps88;go_wp2;go_ret;exact ⟨by rw [RS.o]; rfl,rfl⟩
 have TG:=e [106];rw [if_neg h] at RS;rw [decide_eq_false h] at TG;clear h;by_cases h:t=[109,118]
 ·rw [if_pos h] at RS;have TH:=e [109,118];rw [decide_eq_true h] at TH;clear h e;go_enter Tryz.func88,Tryz.ntmps88;go_wp2;go_ret;exact ⟨by rw [RS.o]; rfl,rfl⟩
 have TH:=e [109,118];rw [if_neg h] at RS;rw [decide_eq_false h] at TH;clear h;by_cases h:t=[108,105]
 ·rw [if_pos h] at RS;have TI:=e [108,105];rw [decide_eq_true h] at TI;clear h e;go_enter Tryz.func88,Tryz.ntmps88;go_wp2;go_ret;exact ⟨by rw [RS.o]; rfl,rfl⟩
 have TI:=e [108,105];rw [if_neg h] at RS;rw [decide_eq_false h] at TI;clear h;by_cases h:t=[99,97,108,108]
 ·rw [if_pos h] at RS;have TJ:=e [99,97,108,108];rw [decide_eq_true h] at TJ;clear h e;go_enter Tryz.func88,Tryz.ntmps88;go_wp2;go_ret;exact ⟨by rw [RS.o]; rfl,rfl⟩
 have TJ:=e [99,97,108,108];rw [if_neg h] at RS;rw [decide_eq_false h] at TJ;clear h;by_cases h:t=[116,97,105,108]
 ·rw [if_pos h] at RS;have TL:=e [116,97,105,108];rw [decide_eq_true h] at TL;clear h e;go_enter Tryz.func88,Tryz.ntmps88;go_wp2;go_ret;exact ⟨by rw [RS.o]; rfl,rfl⟩
 have TL:=e [116,97,105,108];rw [if_neg h] at RS;rw [decide_eq_false h] at TL;clear h;by_cases h:t=[108,97]
 ·rw [if_pos h] at RS;have TN:=e [108,97];rw [decide_eq_true h] at TN;clear h e;go_enter Tryz.func88,Tryz.ntmps88;go_wp2;go_ret;exact ⟨by rw [RS.o]; rfl,rfl⟩
 have TN:=e [108,97];rw [if_neg h] at RS;rw [decide_eq_false h] at TN;clear h;clear e;have c:=hid (yjL t w);go_enter Tryz.func88,Tryz.ntmps88;go_wp2_with fail;refine c.o.mono ?_;rintro e w1 ⟨rfl,rfl⟩;go_wp2;go_ret;exact ⟨by rw [RS.o]; rfl,rfl⟩
def nY (W:World):Prop:=∀ i,i < 26->W.cell? ⟨2,i,none⟩=some (.string (bs (As.names.getD i [])))
theorem nY.below {B:Nat} {W W':World} (h:nY W) (hb:Below B W W') (hB:3<=B):nY W':=fun i hi=>(hb.cell (show 2 < B by omega)).trans (h i hi)
theorem ypI (k:Nat) (h1:1<=k) (h2:k<=25):As.named (As.names.getD k [])=k:=by
 rcases (show k=1\/k=2\/k=3\/k=4\/k=5\/k=6\/k=7\/k=8\/k=9\/k=10\/k=11\/k=12\/k=13\/k=14\/k=15\/k=16\/k=17\/k=18\/k=19\/k=20\/k=21\/k=22\/k=23\/k=24\/k=25 by omega) with rfl | rfl | rfl | rfl | rfl | rfl | rfl | rfl | rfl | rfl | rfl | rfl | rfl | rfl | rfl | rfl | rfl | rfl | rfl | rfl | rfl | rfl | rfl | rfl | rfl <;> decide
theorem yng (t:List UInt8) (h:∀ k,1<=k->k<=25->As.names.getD k []≠t):As.named t=0:=by
 unfold As.named;have e:(List.range 26).find? (fun k=>decide (1<=k) && As.names.getD k [] == t)=none:=by
  rw [List.find?_eq_none];intro k hk;rw [List.mem_range] at hk;simp only [Bool.and_eq_true,decide_eq_true_eq,beq_iff_eq,not_and];intro h1;exact h k h1 (by omega)
 rw [e];rfl
theorem yhY (t:List UInt8) (w:World) (ht:nY w) :
  Calls Tryz.prog 91 #[.string (bs t)] w fun e w'=>e = .returned (.int .i64 (As.named t:Nat))/\w'=w:=by
 have HT:=hid ht;have NA:=hid ypI;have NN:=hid (yng t);clear ht;generalize hX:As.named t=X at *;have HX:=hid hX;clear hX;go_enter Tryz.func91,Tryz.ntmps91;go_wp2
 go_loop [3] (fun i=>∃ k:Nat,1<=k/\k<=26/\i = .int .i64 k/\∀ j,1<=j->j < k->As.names.getD j []≠t) (fun i=>26 - (intOf i).toNat)
 case atStart=>exact ⟨1,Nat.le_refl _,by omega,rfl,fun j h1 h2=>by omega⟩
 case round =>
  obtain ⟨k,hk1,hk2,rfl,hall⟩:=hrel;have HA:=hid hall;clear hall;by_cases hlt:k<=25
  ·have cx:=HT.o k (by omega);have NK:=hid (NA.o k hk1 hlt);have g1:(1:Int)<=(k:Int):=by omega
   have g2:(k:Int)<=25:=by omega
   generalize hnm:As.names.getD k []=nm at *;have HNM:=hid hnm;clear hnm;by_cases e1:nm=t
   ·have b1:((bs nm).toList == (bs t).toList)=true:=by rw [e1]; simp
    have E:=hid (show X=k by rw [<- HX.o,<- e1]; exact NK.o);clear e1;go_wp2;go_ret;exact ⟨by rw [E.o]; rfl,rfl⟩
   ·have E:=hid e1;have b1:((bs nm).toList == (bs t).toList)=false:=by rw [yJ,yJ]; simpa using e1
    clear e1;go_wp2
    go_round
    case rel=>exact ⟨k+1,by omega,by omega,by go_num,fun j hj hjk=>(Nat.lt_succ_iff_lt_or_eq.1 hjk).elim (fun h=>HA.o j hj h) (fun h=>by subst h; rw [HNM.o]; exact E.o)⟩
    case measure=>simp [intOf]; omega
  ·have g2:(25:Int) < (k:Int):=by omega
   have E:=hid (NN.o (fun j h1 h2=>HA.o j h1 (by omega)));go_wp2;go_ret;exact ⟨by rw [E.o]; rfl,rfl⟩
theorem yki (B:Nat) (s:ByteArray) (b g:Nat) (st:As.St) (shape:Nat) (W:World) (h:ym B s b g st W) (h1:1<=shape) (h2:shape<=19) :
  Calls Tryz.prog 89 #[.pointer (some ⟨b,0,none⟩),.int .i64 shape] W fun e W'=>e = .returned (.bool (As.iG shape st.ah))/\W'=W:=by
 have c:=wR h;have cI:=hid (Zh B s b g st W h);have hs:=h.ok.ah;clear h;generalize st.ah=ah at *;have RS:=hid (show As.iG shape ah=if shape<=14 then As.nK ah else !(shape == 16) || !(ah == 4) from rfl);generalize As.iG shape ah=X at *;by_cases wX:shape<=14
 ·have d:decide ((shape:Int)<=14)=true:=by simp; omega
  rw [if_pos wX] at RS;clear wX;go_enter Tryz.func89,Tryz.ntmps89;go_wp2_with fail;refine cI.o.mono ?_;rintro e w1 ⟨rfl,rfl⟩;go_wp2;go_ret;exact ⟨by rw [RS.o]; rfl,rfl⟩
 ·have d:decide ((shape:Int)<=14)=false:=by simp; omega
  rw [if_neg wX] at RS;by_cases h16:shape=16
  ·have d1:((shape:Int) == 16)=true:=by simp; omega
   have d1':((shape:Int) != 16)=false:=by simp; omega
   rw [show (shape == 16)=true by simp [h16]] at RS;clear wX h16 h1 h2;rcases (show ah=1\/ah=2\/ah=3\/ah=4 by omega) with rfl | rfl | rfl | rfl
   all_goals
    go_enter Tryz.func89,Tryz.ntmps89;go_wp2;go_ret;exact ⟨by rw [RS.o]; rfl,rfl⟩
  ·have d1:((shape:Int) == 16)=false:=by simp; omega
   have d1':((shape:Int) != 16)=true:=by simp; omega
   rw [show (shape == 16)=false by simp [h16]] at RS;clear wX h16 h1 h2;go_enter Tryz.func89,Tryz.ntmps89;go_wp2;go_ret;exact ⟨by rw [RS.o]; rfl,rfl⟩
theorem yhe (B:Nat) (s:ByteArray) (b g:Nat) (st:As.St) (shape op:Nat) (W:World) (h:ym B s b g st W) (h1:1<=shape) (h2:shape<=14) (ho:shape=1\/shape=2\/shape=8->1<=op/\op<=25) :
  Calls Tryz.prog 90 #[.pointer (some ⟨b,0,none⟩),.int .i64 shape,.int .i64 op] W fun en W'=>en = .returned (.tuple #[])/\Does B s b g W (As.instruction (sl s) shape op st) W':=by
 rcases (show shape=1\/shape=2\/shape=3\/shape=4\/shape=5\/shape=6\/shape=7\/shape=8\/shape=9\/shape=10\/shape=11\/shape=12\/shape=13\/shape=14 by omega) with rfl | rfl | rfl | rfl | rfl | rfl | rfl | rfl | rfl | rfl | rfl | rfl | rfl | rfl
 ·have c:=hid (yjj B s b g st op W h (ho (by omega)).1 (ho (by omega)).2);have RS:=hid (show As.instruction (sl s) 1 op st=As.eB (sl s) op st from by unfold As.instruction; rw [if_pos rfl]);generalize As.instruction (sl s) 1 op st=X at *;clear h ho h1 h2;go_enter Tryz.func90,Tryz.ntmps90;go_wp2_with fail;refine c.o.mono ?_;rintro e VF ⟨rfl,hh⟩;have DF:=hid hh;clear hh c;go_wp2
  go_end0
  rw [RS.o];exact ⟨rfl,DF.o⟩
 ·have c:=hid (yio B s b g st op W h (ho (by omega)).1 (ho (by omega)).2);have RS:=hid (show As.instruction (sl s) 2 op st=As.dK (sl s) op st from by unfold As.instruction; rw [if_neg (by decide),if_pos rfl]);generalize As.instruction (sl s) 2 op st=X at *;clear h ho h1 h2;go_enter Tryz.func90,Tryz.ntmps90;go_wp2_with fail;refine c.o.mono ?_;rintro e VF ⟨rfl,hh⟩;have DF:=hid hh;clear hh c;go_wp2
  go_end0
  rw [RS.o];exact ⟨rfl,DF.o⟩
 ·have c:=hid (yoS B s b g st W h);have RS:=hid (show As.instruction (sl s) 3 op st=As.upper (sl s) st from by unfold As.instruction; rw [if_neg (by decide),if_neg (by decide),if_pos rfl]);generalize As.instruction (sl s) 3 op st=X at *;clear h ho h1 h2;go_enter Tryz.func90,Tryz.ntmps90;go_wp2_with fail;refine c.o.mono ?_;rintro e VF ⟨rfl,hh⟩;have DF:=hid hh;clear hh c;go_wp2
  go_end0
  rw [RS.o];exact ⟨rfl,DF.o⟩
 ·have c:=hid (ypz B s b g st W h);have RS:=hid (show As.instruction (sl s) 4 op st=As.load (sl s) st from by unfold As.instruction; rw [if_neg (by decide),if_neg (by decide),if_neg (by decide),if_pos rfl]);generalize As.instruction (sl s) 4 op st=X at *;clear h ho h1 h2;go_enter Tryz.func90,Tryz.ntmps90;go_wp2_with fail;refine c.o.mono ?_;rintro e VF ⟨rfl,hh⟩;have DF:=hid hh;clear hh c;go_wp2
  go_end0
  rw [RS.o];exact ⟨rfl,DF.o⟩
 ·have c:=hid (yoO B s b g st W h);have RS:=hid (show As.instruction (sl s) 5 op st=As.store (sl s) st from by unfold As.instruction; rw [if_neg (by decide),if_neg (by decide),if_neg (by decide),if_neg (by decide),if_pos rfl]);generalize As.instruction (sl s) 5 op st=X at *;clear h ho h1 h2;go_enter Tryz.func90,Tryz.ntmps90;go_wp2_with fail;refine c.o.mono ?_;rintro e VF ⟨rfl,hh⟩;have DF:=hid hh;clear hh c;go_wp2
  go_end0
  rw [RS.o];exact ⟨rfl,DF.o⟩
 ·have c:=hid (ygH B s b g st W h);have RS:=hid (show As.instruction (sl s) 6 op st=As.bO (sl s) st from by unfold As.instruction; rw [if_neg (by decide),if_neg (by decide),if_neg (by decide),if_neg (by decide),if_neg (by decide),if_pos rfl]);generalize As.instruction (sl s) 6 op st=X at *;clear h ho h1 h2;go_enter Tryz.func90,Tryz.ntmps90;go_wp2_with fail;refine c.o.mono ?_;rintro e VF ⟨rfl,hh⟩;have DF:=hid hh;clear hh c;go_wp2
  go_end0
  rw [RS.o];exact ⟨rfl,DF.o⟩
 ·have c:=hid (yoX B s b g st W h);have RS:=hid (show As.instruction (sl s) 7 op st=As.bare st from by unfold As.instruction; rw [if_neg (by decide),if_neg (by decide),if_neg (by decide),if_neg (by decide),if_neg (by decide),if_neg (by decide),if_pos rfl]);generalize As.instruction (sl s) 7 op st=X at *;clear h ho h1 h2;go_enter Tryz.func90,Tryz.ntmps90;go_wp2_with fail;refine c.o.mono ?_;rintro e VF ⟨rfl,hh⟩;have DF:=hid hh;clear hh c;go_wp2
  go_end0
  rw [RS.o];exact ⟨rfl,DF.o⟩
 ·have c:=hid (ymC B s b g st op W h (ho (by omega)).1 (ho (by omega)).2);have RS:=hid (show As.instruction (sl s) 8 op st=As.branch (sl s) op st from by unfold As.instruction; rw [if_neg (by decide),if_neg (by decide),if_neg (by decide),if_neg (by decide),if_neg (by decide),if_neg (by decide),if_neg (by decide),if_pos rfl]);generalize As.instruction (sl s) 8 op st=X at *;clear h ho h1 h2;go_enter Tryz.func90,Tryz.ntmps90;go_wp2_with fail;refine c.o.mono ?_;rintro e VF ⟨rfl,hh⟩;have DF:=hid hh;clear hh c;go_wp2
  go_end0
  rw [RS.o];exact ⟨rfl,DF.o⟩
 ·have c:=hid (yjY B s b g st W h);have RS:=hid (show As.instruction (sl s) 9 op st=As.fE (sl s) st from by unfold As.instruction; rw [if_neg (by decide),if_neg (by decide),if_neg (by decide),if_neg (by decide),if_neg (by decide),if_neg (by decide),if_neg (by decide),if_neg (by decide),if_pos rfl]);generalize As.instruction (sl s) 9 op st=X at *;clear h ho h1 h2;go_enter Tryz.func90,Tryz.ntmps90;go_wp2_with fail;refine c.o.mono ?_;rintro e VF ⟨rfl,hh⟩;have DF:=hid hh;clear hh c;go_wp2
  go_end0
  rw [RS.o];exact ⟨rfl,DF.o⟩
 ·have c:=hid (ypt B s b g st W h);have RS:=hid (show As.instruction (sl s) 10 op st=As.fF (sl s) 0 st from by unfold As.instruction; rw [if_neg (by decide),if_neg (by decide),if_neg (by decide),if_neg (by decide),if_neg (by decide),if_neg (by decide),if_neg (by decide),if_neg (by decide),if_neg (by decide),if_pos rfl]);generalize As.instruction (sl s) 10 op st=X at *;clear h ho h1 h2;go_enter Tryz.func90,Tryz.ntmps90;go_wp2_with fail;refine c.o.mono ?_;rintro e VF ⟨rfl,hh⟩;have DF:=hid hh;clear hh c;go_wp2
  go_end0
  rw [RS.o];exact ⟨rfl,DF.o⟩
 ·have c:=hid (ypH B s b g st W h);have RS:=hid (show As.instruction (sl s) 11 op st=As.move (sl s) st from by unfold As.instruction; rw [if_neg (by decide),if_neg (by decide),if_neg (by decide),if_neg (by decide),if_neg (by decide),if_neg (by decide),if_neg (by decide),if_neg (by decide),if_neg (by decide),if_neg (by decide),if_pos rfl]);generalize As.instruction (sl s) 11 op st=X at *;clear h ho h1 h2;go_enter Tryz.func90,Tryz.ntmps90;go_wp2_with fail;refine c.o.mono ?_;rintro e VF ⟨rfl,hh⟩;have DF:=hid hh;clear hh c;go_wp2
  go_end0
  rw [RS.o];exact ⟨rfl,DF.o⟩
 ·have c:=hid (yia B s b g st W h);have RS:=hid (show As.instruction (sl s) 12 op st=As.dI (sl s) st from by unfold As.instruction; rw [if_neg (by decide),if_neg (by decide),if_neg (by decide),if_neg (by decide),if_neg (by decide),if_neg (by decide),if_neg (by decide),if_neg (by decide),if_neg (by decide),if_neg (by decide),if_neg (by decide),if_pos rfl]);generalize As.instruction (sl s) 12 op st=X at *;clear h ho h1 h2;go_enter Tryz.func90,Tryz.ntmps90;go_wp2_with fail;refine c.o.mono ?_;rintro e VF ⟨rfl,hh⟩;have DF:=hid hh;clear hh c;go_wp2
  go_end0
  rw [RS.o];exact ⟨rfl,DF.o⟩
 ·have c:=hid (yoY B s b g st W h);have RS:=hid (show As.instruction (sl s) 13 op st=As.call (sl s) st from by unfold As.instruction; rw [if_neg (by decide),if_neg (by decide),if_neg (by decide),if_neg (by decide),if_neg (by decide),if_neg (by decide),if_neg (by decide),if_neg (by decide),if_neg (by decide),if_neg (by decide),if_neg (by decide),if_neg (by decide),if_pos rfl]);generalize As.instruction (sl s) 13 op st=X at *;clear h ho h1 h2;go_enter Tryz.func90,Tryz.ntmps90;go_wp2_with fail;refine c.o.mono ?_;rintro e VF ⟨rfl,hh⟩;have DF:=hid hh;clear hh c;go_wp2
  go_end0
  rw [RS.o];exact ⟨rfl,DF.o⟩
 ·have c:=hid (yhi B s b g st W h);have RS:=hid (show As.instruction (sl s) 14 op st=As.dh (sl s) st from by unfold As.instruction; rw [if_neg (by decide),if_neg (by decide),if_neg (by decide),if_neg (by decide),if_neg (by decide),if_neg (by decide),if_neg (by decide),if_neg (by decide),if_neg (by decide),if_neg (by decide),if_neg (by decide),if_neg (by decide),if_neg (by decide),if_pos rfl]);generalize As.instruction (sl s) 14 op st=X at *;clear h ho h1 h2;go_enter Tryz.func90,Tryz.ntmps90;go_wp2_with fail;refine c.o.mono ?_;rintro e VF ⟨rfl,hh⟩;have DF:=hid hh;clear hh c;go_wp2
  go_end0
  rw [RS.o];exact ⟨rfl,DF.o⟩
theorem yiP (B:Nat) (s:ByteArray) (b g:Nat) (st:As.St) (shape:Nat) (W:World) (h:ym B s b g st W) (h1:15<=shape) (h2:shape<=19) :
  Calls Tryz.prog 92 #[.pointer (some ⟨b,0,none⟩),.int .i64 shape] W fun en W'=>en = .returned (.tuple #[])/\Does B s b g W (As.directive (sl s) shape st) W':=by
 rcases (show shape=15\/shape=16\/shape=17\/shape=18\/shape=19 by omega) with rfl | rfl | rfl | rfl | rfl
 ·have HW:=hid h;have c:=hid (ylN B s b g st W h);have RS:=hid (show As.directive (sl s) 15 st=As.fH st from rfl);generalize As.directive (sl s) 15 st=X at *;clear h h1 h2;go_enter Tryz.func92,Tryz.ntmps92;go_wp2_with fail;refine c.o.mono ?_;rintro e VF ⟨rfl,hh⟩;have DF:=hid (hh.does HW.o);clear hh c;go_wp2
  go_end0
  rw [RS.o];exact ⟨rfl,DF.o⟩
 ·have HW:=hid h;have c:=hid (yql B s b g st W h);have RS:=hid (show As.directive (sl s) 16 st=As.word (sl s) st from rfl);generalize As.directive (sl s) 16 st=X at *;clear h h1 h2;go_enter Tryz.func92,Tryz.ntmps92;go_wp2_with fail;refine c.o.mono ?_;rintro e VF ⟨rfl,hh⟩;have DF:=hid hh;clear hh c;go_wp2
  go_end0
  rw [RS.o];exact ⟨rfl,DF.o⟩
 ·have HW:=hid h;have c:=hid (yoM B s b g st W h);have RS:=hid (show As.directive (sl s) 17 st=As.space (sl s) st from rfl);generalize As.directive (sl s) 17 st=X at *;clear h h1 h2;go_enter Tryz.func92,Tryz.ntmps92;go_wp2_with fail;refine c.o.mono ?_;rintro e VF ⟨rfl,hh⟩;have DF:=hid hh;clear hh c;go_wp2
  go_end0
  rw [RS.o];exact ⟨rfl,DF.o⟩
 ·have HW:=hid h;have c:=hid (ynJ B s b g st W h);have RS:=hid (show As.directive (sl s) 18 st=As.align (sl s) st from rfl);generalize As.directive (sl s) 18 st=X at *;clear h h1 h2;go_enter Tryz.func92,Tryz.ntmps92;go_wp2_with fail;refine c.o.mono ?_;rintro e VF ⟨rfl,hh⟩;have DF:=hid hh;clear hh c;go_wp2
  go_end0
  rw [RS.o];exact ⟨rfl,DF.o⟩
 ·have HW:=hid h;have c:=hid (ylg B s b g st W h);have RS:=hid (show As.directive (sl s) 19 st=As.binding (sl s) st from rfl);generalize As.directive (sl s) 19 st=X at *;clear h h1 h2;go_enter Tryz.func92,Tryz.ntmps92;go_wp2_with fail;refine c.o.mono ?_;rintro e VF ⟨rfl,hh⟩;have DF:=hid hh;clear hh c;go_wp2
  go_end0
  rw [RS.o];exact ⟨rfl,DF.o⟩
end Go.Proofs.YtpgklkhgfcjceaaGreatDoor
