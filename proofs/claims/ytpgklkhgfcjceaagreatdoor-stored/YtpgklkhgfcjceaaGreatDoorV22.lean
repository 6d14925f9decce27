
import Derived.Test.YtpgklkhgfcjceaaGreatDoorV21
set_option maxHeartbeats 16000000
set_option maxRecDepth 100000
namespace Go.Proofs.YtpgklkhgfcjceaaGreatDoor
open Go.RowKit
namespace Ln
def gJ (os:List Lk.Obj) (bt bf bd:Int):List UInt8×qN :=
 if (bJ os).e≠0 then ([],bJ os)
 else if (bZ (eY os bt bf bd) (dM os bt bf bd)).e≠0 then ([],bZ (eY os bt bf bd) (dM os bt bf bd))
 else (Im.bytes (eY os bt bf bd),ok)
end Ln
def J2 (bt bf bd:Int) (fs:List (List UInt8)) (e:Ending):Prop :=
 (∃ f:Ln.qN,f.e≠0/\e = .returned (.tuple #[.string (bs []),fQ f]) /\
  (f=pO bt bf bd \/
  (pO bt bf bd=Ln.ok/\(fs.length < 1\/8 < fs.length)/\f=⟨31,0,[]⟩) \/
  (pO bt bf bd=Ln.ok/\1<=fs.length/\fs.length<=8/\∃ i,∃ h:i < fs.length,f=⟨32,i,[]⟩/\NJ fs[i]/\∀ j (hj:j < i),∃ a os,uG (fs[j]'(by omega)) a os))) \/
 (pO bt bf bd=Ln.ok/\1<=fs.length/\fs.length<=8/\∃ (xs:List (Bool×List Lk.Obj)) (hx:xs.length=fs.length),(∀ i (h:i < fs.length),uG fs[i] (xs[i]'(by omega)).1 (xs[i]'(by omega)).2)/\e = .returned (.tuple #[.string (bs (Ln.gJ (Ln.bQ xs) bt bf bd).1),fQ (Ln.gJ (Ln.bQ xs) bt bf bd).2]))
theorem ymq {bt bf bd:Int} (h:pO bt bf bd=Ln.ok):Im.Base bt/\Im.Base bf/\Im.Base bd:=by
 have e:(pO bt bf bd).e=0:=by rw [h]; rfl
 unfold pO at e;by_cases h1:¬ Im.Base bt
 ·rw [if_pos h1] at e; cases e
 rw [if_neg h1] at e;by_cases h2:¬ Im.Base bf
 ·rw [if_pos h2] at e; cases e
 rw [if_neg h2] at e;by_cases h3:¬ Im.Base bd
 ·rw [if_pos h3] at e; cases e
 exact ⟨Classical.not_not.1 h1,Classical.not_not.1 h2,Classical.not_not.1 h3⟩
theorem ykY {fs:List (List UInt8)} {xs:List (Bool×List Lk.Obj)} (hx:xs.length=fs.length) (h8:fs.length<=8) (h:∀ i (h:i < fs.length),uG fs[i] (xs[i]'(by omega)).1 (xs[i]'(by omega)).2):(∀ o∈Ln.bQ xs,yv o)/\(Ln.bQ xs).length<=48:=by
 have q:∀ x∈xs,(∀ o∈x.2,yv o)/\x.2.length<=6:=by
  intro x hm;obtain ⟨i,hi,rfl⟩:=List.getElem_of_mem hm;exact yjD (h i (by omega))
 refine ⟨ylJ yv xs [] (fun x hm=>(q x hm).1) (by simp),?_⟩
 have:=ylK xs [] (fun x hm=>(q x hm).2)
 unfold Ln.bQ;simp only [List.length_nil] at this;omega
theorem mQ.flt {W:World} {I R:Nat} {img:Im.dZ} {cs:Array Value} (h:mQ W I img) (hb:yc W R cs 45) (a b c:Value):mQ (((W.setCell ⟨R,0,none⟩ a).setCell ⟨R,1,none⟩ b).setCell ⟨R,2,none⟩ c) I img:=by
 have G:=World.grownBy.trans (World.grownBy.trans (ye W R 0 a) (ye _ R 1 b)) (ye _ R 2 c);obtain ⟨vt,vf,vd,q0,q1,q2,q3⟩:=h;have RT:=bR.blk hb;exact ⟨vt,vf,vd,yF q0 G RT (by decide),yA q1 G RT (by decide),yA q2 G RT (by decide),yA q3 G RT (by decide)⟩
theorem Zg {W:World} {R:Nat} {x y z:Value} (h:yc W R #[x,y,z] 45) (a b c:Value):yc (((W.setCell ⟨R,0,none⟩ a).setCell ⟨R,1,none⟩ b).setCell ⟨R,2,none⟩ c) R #[a,b,c] 45:=by
 simpa using ((h.set 0 a).set 1 b).set 2 c
theorem Us {xs:List Int} (h:rY xs):Qb xs:=fun i hi=>by
 have:=h _ (iq hi)
 omega
theorem ypn (bt bf bd:Int) (af:Option Addr) (cf:Nat) (fs:List (List UInt8)) (w:World) (hin:AQ w af fs) (hsz:∀ f∈fs,f.length<=1048576) (ht:dQ w) (hn:fs.length<=1048576) :
  Calls Tryz.prog 28 #[.slice af fs.length cf,.agg #[.int .i64 bt,.int .i64 bf,.int .i64 bd]] w fun e w'=>J2 bt bf bd fs e/\w.grownBy w' none:=by
 have HT:=hid ht;have HI:=hid hin;have cG:=hid (fun W (hg:w.grownBy W none)=>ymA bt bf bd af cf fs W (HI.o.kept hg) hsz (HT.o.grown hg) hn);have hs1:(w.alloc (.cells #[.int .i64 bt,.int .i64 bf,.int .i64 bd] 33)).heap.size=w.heap.size+1:=Array.size_push _;have A1:=aJ (w.alloc (.cells #[.int .i64 bt,.int .i64 bf,.int .i64 bd] 33)) (.cells #[.int .i64 0,.int .i64 0,.string ⟨#[]⟩] 45) none;have G1:=hid (ya (aJ w (.cells #[.int .i64 bt,.int .i64 bf,.int .i64 bd] 33) none) A1);have BR:=hid (yc.new (w.alloc (.cells #[.int .i64 bt,.int .i64 bf,.int .i64 bd] 33)) #[.int .i64 0,.int .i64 0,.string ⟨#[]⟩] 45)
 rw [hs1] at BR;clear hin ht A1 hs1;go_enter Tryz.func28,Tryz.ntmps28;go_wp2_with fail;generalize (w.alloc (.cells #[.int .i64 bt,.int .i64 bf,.int .i64 bd] 33)).alloc (.cells #[.int .i64 0,.int .i64 0,.string ⟨#[]⟩] 45)=W1 at *;have GY:w.heap.size<=w.heap.size+1:=by omega
 generalize w.heap.size+1=R at *;refine (cG.o _ G1.o).mono ?_;rintro e W2 ⟨hg,h2⟩;have G2:=hid (ya G1.o h2);have vV:=hid (BR.o.grown h2 (by simp));have WA:=BR.o.lt;have hR2:=vV.o.lt;have H12:=hid h2;clear h2 cG BR;rcases hg with ⟨f,hf,rfl,hc⟩ | ⟨hb,hl1,hl2,xs,hx,P,vm,bl,gl,hfi,rfl,hga⟩
 ·have Ey:=hid (show J2 bt bf bd fs (.returned (.tuple #[.string (bs []),fQ f])) from .inl ⟨f,hf,rfl,hc⟩);obtain ⟨fe,fa,fn⟩:=f;unfold fQ;dsimp only at *;have d1:(fe == 0)=false:=by simpa using hf
  have d2:(fe != 0)=true:=by simpa using hf
  have BX:=hid (yc.new W2 #[.int .i64 fe,.int .i64 fa,.string (bs fn)] 45);have AX:=hid (aJ W2 (.cells #[.int .i64 fe,.int .i64 fa,.string (bs fn)] 45) none);have BF:=hid (vV.o.grown AX.o (by simp));have G3:=hid (ya G2.o AX.o);clear hf hc;go_wp2;generalize W2.alloc (.cells #[.int .i64 fe,.int .i64 fa,.string (bs fn)] 45)=V at *;have Ru:R≠W2.heap.size:=by omega
  generalize W2.heap.size=X at *;have x0:V.cell? ⟨X,0,none⟩=some (.int .i64 fe):=BX.o.cell 0;have x1:V.cell? ⟨X,1,none⟩=some (.int .i64 fa):=BX.o.cell 1;have x2:V.cell? ⟨X,2,none⟩=some (.string (bs fn)):=BX.o.cell 2;have z0:V.cell? ⟨R,0,none⟩=some (.int .i64 0):=BF.o.cell 0;have z1:V.cell? ⟨R,1,none⟩=some (.int .i64 0):=BF.o.cell 1;have z2:V.cell? ⟨R,2,none⟩=some (.string ⟨#[]⟩):=BF.o.cell 2;have f0:=BF.o.free 0;have f1:=BF.o.free 1;have f2:=BF.o.free 2
  go_region_held3 (fun w'=>w'.cell? ⟨X,0,none⟩=some (.int .i64 fe)/\w'.cell? ⟨X,1,none⟩=some (.int .i64 fa)/\w'.cell? ⟨X,2,none⟩=some (.string (bs fn)))
   (go_keep)
   (fail)
  go_wp2;have F:=uo (((BF.o.set 0 (.int .i64 fe)).set 1 (.int .i64 fa)).set 2 (.string (bs fn)));have h0:=F.cell 0;have h1:=F.cell 1;have h2:=F.cell 2;simp only [gu,fZ,gq,bI,bN,bK] at h0 h1 h2;refine bodyPost_ret (v:=.tuple #[.string (bs []),fQ ⟨fe,fa,fn⟩]) ?_ rfl ⟨Ey.o,yh (yz G3.o _ GY _ _ _)⟩;clear F z0 z1 z2 f0 f1 f2;generalize World.drew _=WF at *;simp [results,Tryz.results28,go_sem,fQ,bs,h0,h1,h2]
 ·have LV:=ykY hx hl2 hfi;have FIN:=hid (fun (b:List UInt8) (f:Ln.qN) (h:Ln.gJ (Ln.bQ xs) bt bf bd=(b,f))=>show J2 bt bf bd fs (.returned (.tuple #[.string (bs b),fQ f])) from .inr ⟨hb,hl1,hl2,xs,hx,hfi,by rw [h]⟩);have hbs:=ymq hb;clear hb hl1 hl2 hfi;generalize Ln.bQ xs=os at *;have OK:=hid (yqK LV.1 LV.2 hbs.1 hbs.2.1 hbs.2.2);have RA:=hid (YC os LV.1);have t:=KH hbs.1;have f:=KH hbs.2.1;have d:=KH hbs.2.2;have LO:=hga.gK;have AX:=aJ W2 (.cells #[.int .i64 0,.int .i64 0,.string (bs [])] 45) none;have HP:=hid ((hga.prog.kept AX).f);have BX:=hid (yc.new W2 #[.int .i64 0,.int .i64 0,.string (bs [])] 45)
  have BF:=hid (vV.o.grown AX (by simp));have Ru:R≠W2.heap.size:=by omega
  have hX1:=hid H12.o.size;have RS:=hid (show Ln.gJ os bt bf bd=if (Ln.bJ os).e≠0 then ([],Ln.bJ os) else if (Ln.bZ (Ln.eY os bt bf bd) (Ln.dM os bt bf bd)).e≠0 then ([],Ln.bZ (Ln.eY os bt bf bd) (Ln.dM os bt bf bd)) else (Im.bytes (Ln.eY os bt bf bd),Ln.ok) from rfl);have Qx:=hid LV.2;clear hga AX hx LV hbs;unfold fQ Ln.ok;dsimp only
  go_upto_region 4 with fail
  generalize W2.alloc (.cells #[.int .i64 0,.int .i64 0,.string (bs [])] 45)=V at *;generalize W2.heap.size=X at *;have II:=hid (ylx V W1 P bt bf bd vm bl gl os V HP.o);generalize Ln.bJ os=tf at *;obtain ⟨te,ta,tn⟩:=tf;unfold fQ aW at II;unfold aW;dsimp only at *;go_wp2_with fail;refine II.o.mono ?_;rintro e V3 ⟨rfl,h3⟩;have P3:=hid h3.toProgAt;have Em:=hid (h3.kf _ _ BX.o);have uz:=hid (h3.kf _ _ BF.o);clear h3 II HP BX BF vV;have P4:=hid (P3.o.flt Em.o hX1.o (.int .i64 te) (.int .i64 ta) (.string (bs tn)));have Lc:=hid (Zg Em.o (.int .i64 te) (.int .i64 ta) (.string (bs tn)));have BF:=hid (PU uz.o Ru (.int .i64 te) (.int .i64 ta) (.string (bs tn)))
  have x0:V3.cell? ⟨X,0,none⟩=some (.int .i64 0):=Em.o.cell 0;have x1:V3.cell? ⟨X,1,none⟩=some (.int .i64 0):=Em.o.cell 1;have x2:V3.cell? ⟨X,2,none⟩=some (.string (bs [])):=Em.o.cell 2;have y0:V3.frozen? ⟨X,0,none⟩=false:=Em.o.free 0;have y1:V3.frozen? ⟨X,1,none⟩=false:=Em.o.free 1;have y2:V3.frozen? ⟨X,2,none⟩=false:=Em.o.free 2
  go_upto_region 5 with fail
  clear x0 x1 x2 y0 y1 y2 P3 Em uz;generalize (((V3.setCell ⟨X,0,none⟩ (.int .i64 te)).setCell ⟨X,1,none⟩ (.int .i64 ta)).setCell ⟨X,2,none⟩ (.string (bs tn)))=V4 at *;have x0:V4.cell? ⟨X,0,none⟩=some (.int .i64 te):=Lc.o.cell 0;have x1:V4.cell? ⟨X,1,none⟩=some (.int .i64 ta):=Lc.o.cell 1;have x2:V4.cell? ⟨X,2,none⟩=some (.string (bs tn)):=Lc.o.cell 2;have G3:=hid (ya G1.o P4.o.gr);by_cases he:te=0
  case neg =>
   have d1:(te == 0)=false:=by simpa using he
   have d2:(te != 0)=true:=by simpa using he
   have Ey:=hid (FIN.o [] ⟨te,ta,tn⟩ (by rw [RS.o,if_pos he]));clear he;go_wp2;have z0:V4.cell? ⟨R,0,none⟩=some (.int .i64 0):=BF.o.cell 0;have z1:V4.cell? ⟨R,1,none⟩=some (.int .i64 0):=BF.o.cell 1;have z2:V4.cell? ⟨R,2,none⟩=some (.string ⟨#[]⟩):=BF.o.cell 2;have f0:=BF.o.free 0;have f1:=BF.o.free 1;have f2:=BF.o.free 2
   go_region_held3 (fun w'=>w'.cell? ⟨X,0,none⟩=some (.int .i64 te)/\w'.cell? ⟨X,1,none⟩=some (.int .i64 ta)/\w'.cell? ⟨X,2,none⟩=some (.string (bs tn)))
    (go_keep)
    (fail)
   go_wp2;have F:=uo (((BF.o.set 0 (.int .i64 te)).set 1 (.int .i64 ta)).set 2 (.string (bs tn)));have h0:=F.cell 0;have h1:=F.cell 1;have h2:=F.cell 2;simp only [gu,fZ,gq,bI,bN,bK] at h0 h1 h2;refine bodyPost_ret (v:=.tuple #[.string (bs []),fQ ⟨te,ta,tn⟩]) ?_ rfl ⟨Ey.o,yh (yz G3.o _ GY _ _ _)⟩;clear F z0 z1 z2 f0 f1 f2;generalize World.drew _=WF at *;simp [results,Tryz.results28,go_sem,fQ,bs,h0,h1,h2]
  case pos =>
   subst he;have Am:=hid (show Ln.gJ os bt bf bd=if (Ln.bZ (Ln.eY os bt bf bd) (Ln.dM os bt bf bd)).e≠0 then ([],Ln.bZ (Ln.eY os bt bf bd) (Ln.dM os bt bf bd)) else (Im.bytes (Ln.eY os bt bf bd),Ln.ok) by rw [RS.o,if_neg (by simp)]);have IG:=hid (ymN V4 W1 P bt bf bd vm bl gl _ _ 0 V4 P4.o.f (fun m hm=>by rw [<- LO]; exact (RA.o m hm).nice) (fun m hm=>(RA.o m hm).obj) (fun m hm=>(RA.o m hm).short) (by omega) (by omega) (by omega));clear RS RA;unfold aW at IG;go_wp2_with fail;refine IG.o.mono ?_;rintro e V5 ⟨rfl,h5⟩;have P5:=hid (show ProgAt W1 P bt bf bd vm bl gl (Ln.dM os bt bf bd) (Ln.named os Ln.gI) (Ln.noughts bd (Ln.shorten (Ln.lay bt bf bd (Ln.dB os (os.map Ln.bare))))) V5 from h5.toProgAt)
   have UU:=hid (h5.kf _ _ Lc.o);have wC:=hid (h5.kf _ _ BF.o);clear h5 IG x0 x1 x2 P4 Lc BF G3;have cB:=hid (ynF W1 P bt bf bd vm bl gl _ _ _ V5 (HT.o.grown (ya G1.o P5.o.gr)) P5.o (by rw [<- LO]; exact OK.o.nice) OK.o.valid OK.o.low OK.o.mean (by rw [<- LO]; exact OK.o.start) (by rw [<- LO]; exact Qx.o) (by omega) (by omega) (by omega));unfold aW at cB;go_wp2_with fail;refine cB.o.mono ?_;rintro e V6 ⟨I,rfl,hI,h6⟩;have I6:=hid (show mQ V6 I (Ln.eY os bt bf bd) from hI);have P6:=hid (P5.o.kept h6);have UW:=hid (UU.o.grown h6 (by simp));have UL:=hid (wC.o.grown h6 (by simp));clear hI h6 cB P5 UU wC
   have cC:=hid (ygQ W1 P bt bf bd vm bl gl _ _ _ I _ V6 P6.o (by rw [<- LO]; exact OK.o.nice) I6.o OK.o.JD);generalize Ln.bZ (Ln.eY os bt bf bd) (Ln.dM os bt bf bd)=pf at *;obtain ⟨pe,pa,pn⟩:=pf;unfold aW fQ at cC;dsimp only at *;go_wp2_with fail;refine cC.o.mono ?_;rintro e V7 ⟨rfl,h7⟩;have I7:=hid (I6.o.kept h7);have P7:=hid (P6.o.kept h7);have DU:=hid (UW.o.grown h7 (by simp));have UM:=hid (UL.o.grown h7 (by simp));clear h7 cC I6 P6 UW UL;have I8:=hid (I7.o.flt DU.o (.int .i64 pe) (.int .i64 pa) (.string (bs pn)));have P8:=hid (P7.o.flt DU.o hX1.o (.int .i64 pe) (.int .i64 pa) (.string (bs pn)))
   have NS:=hid (Zg DU.o (.int .i64 pe) (.int .i64 pa) (.string (bs pn)));have BF:=hid (PU UM.o Ru (.int .i64 pe) (.int .i64 pa) (.string (bs pn)));have x0:V7.cell? ⟨X,0,none⟩=some (.int .i64 0):=DU.o.cell 0;have x1:V7.cell? ⟨X,1,none⟩=some (.int .i64 ta):=DU.o.cell 1;have x2:V7.cell? ⟨X,2,none⟩=some (.string (bs tn)):=DU.o.cell 2;have y0:V7.frozen? ⟨X,0,none⟩=false:=DU.o.free 0;have y1:V7.frozen? ⟨X,1,none⟩=false:=DU.o.free 1;have y2:V7.frozen? ⟨X,2,none⟩=false:=DU.o.free 2
   go_upto_region 10 with fail
   clear x0 x1 x2 y0 y1 y2 P7 DU UM I7;generalize (((V7.setCell ⟨X,0,none⟩ (.int .i64 pe)).setCell ⟨X,1,none⟩ (.int .i64 pa)).setCell ⟨X,2,none⟩ (.string (bs pn)))=V8 at *;have x0:V8.cell? ⟨X,0,none⟩=some (.int .i64 pe):=NS.o.cell 0;have x1:V8.cell? ⟨X,1,none⟩=some (.int .i64 pa):=NS.o.cell 1;have x2:V8.cell? ⟨X,2,none⟩=some (.string (bs pn)):=NS.o.cell 2;have G3:=hid (ya G1.o P8.o.gr);by_cases he:pe=0
   case neg =>
    have d1:(pe == 0)=false:=by simpa using he
    have d2:(pe != 0)=true:=by simpa using he
    have Ey:=hid (FIN.o [] ⟨pe,pa,pn⟩ (by rw [Am.o,if_pos he]));clear he;go_wp2;have z0:V8.cell? ⟨R,0,none⟩=some (.int .i64 0):=BF.o.cell 0;have z1:V8.cell? ⟨R,1,none⟩=some (.int .i64 0):=BF.o.cell 1;have z2:V8.cell? ⟨R,2,none⟩=some (.string ⟨#[]⟩):=BF.o.cell 2;have f0:=BF.o.free 0;have f1:=BF.o.free 1;have f2:=BF.o.free 2
    go_region_held3 (fun w'=>w'.cell? ⟨X,0,none⟩=some (.int .i64 pe)/\w'.cell? ⟨X,1,none⟩=some (.int .i64 pa)/\w'.cell? ⟨X,2,none⟩=some (.string (bs pn)))
     (go_keep)
     (fail)
    go_wp2;have F:=uo (((BF.o.set 0 (.int .i64 pe)).set 1 (.int .i64 pa)).set 2 (.string (bs pn)));have h0:=F.cell 0;have h1:=F.cell 1;have h2:=F.cell 2;simp only [gu,fZ,gq,bI,bN,bK] at h0 h1 h2;refine bodyPost_ret (v:=.tuple #[.string (bs []),fQ ⟨pe,pa,pn⟩]) ?_ rfl ⟨Ey.o,yh (yz G3.o _ GY _ _ _)⟩;clear F z0 z1 z2 f0 f1 f2;generalize World.drew _=WF at *;simp [results,Tryz.results28,go_sem,fQ,bs,h0,h1,h2]
   case pos =>
    subst he;have Ey:=hid (FIN.o (Im.bytes (Ln.eY os bt bf bd)) Ln.ok (by rw [Am.o,if_neg (by simp)]));have iw:=yld (Ln.named os Ln.gI) bt bf bd (Ln.noughts bd (Ln.shorten (Ln.lay bt bf bd (Ln.dB os (os.map Ln.bare))))) OK.o.valid;have cW:=hid (yjL I (Ln.eY os bt bf bd) V8 I8.o OK.o.JD (Us iw.1) (Us iw.2.1) (Us iw.2.2));clear iw;go_wp2_with fail;refine cW.o.mono ?_;rintro e V9 ⟨rfl,h9⟩;have G9:=hid (ya G3.o h9);have BR:=hid (BF.o.grown h9 (by simp));clear h9 cW x0 x1 x2 P8 NS I8 BF;have z0:V9.cell? ⟨R,0,none⟩=some (.int .i64 0):=BR.o.cell 0;have z1:V9.cell? ⟨R,1,none⟩=some (.int .i64 0):=BR.o.cell 1
    have z2:V9.cell? ⟨R,2,none⟩=some (.string ⟨#[]⟩):=BR.o.cell 2;have f0:=BR.o.free 0;have f1:=BR.o.free 1;have f2:=BR.o.free 2;go_wp2;have F:=((BR.o.set 0 (.int .i64 0)).set 1 (.int .i64 0)).set 2 (.string ⟨#[]⟩);have h0:=F.cell 0;have h1:=F.cell 1;have h2:=F.cell 2;simp only [gu,fZ,gq,bI,bN,bK] at h0 h1 h2;refine bodyPost_ret (v:=.tuple #[.string (bs (Im.bytes (Ln.eY os bt bf bd))),fQ Ln.ok]) ?_ rfl ⟨Ey.o,yz G9.o _ GY _ _ _⟩;clear F z0 z1 z2 f0 f1 f2;generalize World.setCell _ _ _=WF at *;simp [results,Tryz.results28,go_sem,fQ,Ln.ok,bs,h0,h1,h2]
theorem XJ (B:Nat) (s:ByteArray) (b g:Nat) (st:As.St) (W:World) (h:yl B s b g st W) :
  Calls Tryz.prog 138 #[.pointer (some ⟨b,0,none⟩)] W fun e W'=>e = .returned (.bool (As.mX st.ah))/\W'=W:=by
 have c:=vQ h;have hs:=h.ok.ah;clear h;generalize st.ah=ah at *;rcases (show ah=1\/ah=2\/ah=3\/ah=4 by omega) with rfl | rfl | rfl | rfl
 all_goals
  go_enter Tryz.func138,Tryz.ntmps138;go_wp2;go_ret;exact ⟨rfl,rfl⟩
theorem ykT {B:Nat} {s:ByteArray} {b g:Nat} {V:World} {st:As.St} (h:yl B s b g st V) (i:Nat) (hi:i < 4):∃ vt vf vd ag cs vs vr x,rT B V b g st.obj vt vf vd (.slice (some ⟨ag,0,none⟩) 4 cs) vs vr/\V.cell? ⟨g,4,none⟩=some (.slice (some ⟨ag,0,none⟩) 4 cs) /\
  st.obj.align[i]?=some x/\V.cell? ⟨ag,i,none⟩=some (.int .i64 x)/\(∀ o,V.frozen? ⟨ag,o,none⟩=false)/\4<=cs:=by
 have h4:=h.ok.align;obtain ⟨vt,vf,vd,va,vs,vr,ho⟩:=h.own;obtain ⟨gy,cs,rfl⟩:=yi ho.align;obtain ⟨ag,cur,rfl,hb,-,-,hcs⟩:=Zo ho.align (by omega);obtain ⟨ag',off,hag,hc⟩:=yy.aO ho.align (by omega);simp only [Option.some.injEq,Addr.mk.injEq] at hag;obtain ⟨rfl,rfl,-⟩:=hag;have k:=hc i (by omega);rw [Nat.zero_add] at k;have g4:=ho.blk.cell 4;simp only [bI,bN,bK] at g4;rw [h4] at ho g4 hcs;exact ⟨vt,vf,vd,ag,cs,vs,vr,st.obj.align[i]'(by omega),ho,g4,j3 (by omega),k,fun o=>hb.free o,hcs⟩
theorem KE (B:Nat) (s:ByteArray) (b g:Nat) (st:As.St) (k:Int) (W:World) (h:yl B s b g st W) :
  Calls Tryz.prog 200 #[.pointer (some ⟨b,0,none⟩),.int .i64 k] W fun en W'=>en = .returned (.tuple #[])/\Does B s b g W (As.bT k st) W':=by
 have HW:=hid h;have c13:=vQ h;have c14:=uq h;have hs:=h.ok.ah;obtain ⟨i,hi⟩:∃ i,i+1=st.ah:=⟨st.ah - 1,by omega⟩
 have hi4:i < 4:=by omega
 obtain ⟨vt,vf,vd,ag,cs,vs,vr,x,ho,g4,hx,kx,hfz,hcs⟩:=ykT h i hi4;have fz:=hfz i;have HO:=hid ho;clear h ho hfz;have RS:=hid (show As.bT k st=if x < k then { st with obj:={ st.obj with align:=st.obj.align.set i k } } else st from by
  unfold As.bT;rw [show st.ah - 1=i by omega,hx];rfl)
 generalize As.bT k st=X at *;have e1:(st.ah:Int)=(i:Int)+1:=by omega
 rw [e1] at c13;have d1:decide ((i:Int) < 0)=false:=by simp
 have d2:decide ((4:Int)<=(i:Int))=false:=by simp; omega
 have d3:decide (4<=i)=false:=by simp; omega
 have g1:(0:Int)<=(i:Int):=by omega
 have g2:(i:Int) < 4:=by omega
 clear hs hi hx e1;by_cases c:x < k
 ·have d:decide (x < k)=true:=by simp [c]
  rw [if_pos c] at RS;have P:=hid (HW.o.does.after (HW.o.CQ HO.o i hi4 k));clear c;go_enter Tryz.func200,Tryz.ntmps200;go_wp2
  go_end0
  rw [RS.o];exact ⟨rfl,P.o⟩
 ·have d:decide (x < k)=false:=by simp; omega
  rw [if_neg c] at RS;clear c;go_enter Tryz.func200,Tryz.ntmps200;go_wp2
  go_end0
  rw [RS.o];exact ⟨rfl,HW.o.does⟩
theorem yov (s:List UInt8) (lo hi:Int) (st:As.St) (h:As.failed (As.number s lo hi st).2=false):lo<=(As.number s lo hi st).1/\(As.number s lo hi st).1<=hi:=by
 have key:∀ neg pos st,As.failed (As.aS s neg pos lo hi st).2=false->lo<=(As.aS s neg pos lo hi st).1/\(As.aS s neg pos lo hi st).1<=hi:=by
  intro neg pos st hf;unfold As.aS at hf ⊢;generalize (if neg then -(st.tok.n:Int) else (st.tok.n:Int))=x at *;split at hf
  ·rename_i hk;rw [if_pos hk];by_cases h:x < lo\/hi < x
   ·rw [if_pos h] at hf;rw [OW _ _ _ (by omega)] at hf
    cases hf
   ·rw [if_neg h]; simp only; omega
  ·rw [OW _ _ _ (by omega)] at hf
   cases hf
 unfold As.number at h ⊢;split at h
 ·rename_i hm; rw [if_pos hm]; exact key _ _ _ h
 ·rename_i hm; rw [if_neg hm]; exact key _ _ _ h
theorem ynA (B:Nat) (s:ByteArray) (b g:Nat) (st0:As.St) (W:World) (h:yl B s b g st0 W) :
  Calls Tryz.prog 156 #[.pointer (some ⟨b,0,none⟩)] W fun en W'=>en = .returned (.tuple #[])/\Does B s b g W (As.align (sl s) st0) W':=by
 have D0:=hid h.does;clear h;obtain ⟨X,hX⟩:∃ X,X=As.align (sl s) st0:=⟨_,rfl⟩
 rw [<- hX];unfold As.align at hX;dsimp only at hX;have RS:=hid hX;clear hX;have NO:=hid (yov (sl s) 2 4 st0);go_enter Tryz.func156,Tryz.ntmps156;go_wp2_with fail;refine (Gn B s b g st0 2 4 _ D0.o.1).mono ?_;rintro e V1 ⟨rfl,hh⟩;have D1:=hid (D0.o.aN hh);clear hh D0;generalize As.number (sl s) 2 4 st0=R1 at *;obtain ⟨n,st1⟩:=R1;dsimp only at RS D1 NO ⊢;go_wp2_with fail;refine (D9 B s b g st1 V1 D1.o.1).mono ?_;rintro e w1 ⟨rfl,rfl⟩
 cases hf:As.failed st1
 ·rw [hf,if_neg (by simp)] at RS;have hn:=NO.o hf;clear hf NO;have cI:=hid (fun V hV=>XJ B s b g st1 V hV);have hsb:=TL D1.o.1.ok;rcases (show n=2\/n=3\/n=4 by omega) with rfl | rfl | rfl
  ·clear hn;have Am:=hid (show X=As.bT 2 (As.dh 4 st1) from RS.o);clear RS;go_wp2_with fail;refine (cI.o w1 D1.o.1).mono ?_;rintro e w2 ⟨rfl,rfl⟩
   cases hc:As.mX st1.ah
   ·have RT:=hid (show As.dh 4 st1=As.lay (List.replicate (((4:Int) - 4 * As.bM st1.obj st1.ah % 4) % 4 / 4).toNat 0) st1 from by unfold As.dh; rw [hc]; rfl);clear hc;have cL:=hid (fun V hV=>KR B s b g st1 V hV);have HD0:=hid (fun n=>D1.o.drewN n);have c13:=vQ D1.o.1;have c14:=uq D1.o.1;generalize As.bM st1.obj st1.ah=q at *;obtain ⟨qn,rfl⟩:=Int.eq_ofNat_of_zero_le hsb.1;have hq2:(qn:Int)<=1200:=hsb.2;have hq3:(0:Int)<=4 * (qn:Int):=by omega
    have EC:=hid (show (((4:Int) - 4 * (qn:Int) % 4) % 4 / 4)=(((((4:Int) - 4 * (qn:Int) % 4) % 4 / 4).toNat:Nat):Int) by omega);have HC:=hid (show (((4:Int) - 4 * (qn:Int) % 4) % 4 / 4).toNat<=4096 by omega);have r0:(0:Int)<=4 * (qn:Int) % 4:=by omega
    have r1:4 * (qn:Int) % 4 < 4:=by omega
    generalize (((4:Int) - 4 * (qn:Int) % 4) % 4 / 4).toNat=cnt at *;go_wp2
    go_quiet ((go_at_call 87; exact Calls.quiet_of_same (cL.o _ (HD0.o _).1)))
    have D2:=hid (HD0.o nq);clear HD0 c13 c14 cL;generalize w2.drewN nq=V2 at *;go_wp2_with fail;refine (KC 0 cnt _ (by have e:=EC.o; omega) _ HC.o).mono ?_;rintro e V3 ⟨⟨ao,cap,rfl,hw⟩,hg⟩;have D3:=hid (D2.o.grown hg);have uN:=hid hw;clear hg hw D2;go_wp2_with fail;refine (Qi B s b g st1 0 cnt ao cap V3 D3.o.1 uN.o HC.o).mono ?_;rintro e V4 ⟨rfl,h4⟩;have D4:=hid (D3.o.after h4);clear h4;rw [<- RT.o] at D4;go_wp2_with fail;refine (KE B s b g _ 2 V4 D4.o.1).mono ?_;rintro e V5 ⟨rfl,h5⟩;have D5:=hid (D4.o.after h5);clear h5;go_wp2
    go_end0
    rw [Am.o];exact ⟨rfl,D5.o⟩
   ·have RT:=hid (show As.dh 4 st1=st1 from by unfold As.dh; rw [hc]; rfl);clear hc;rw [RT.o] at Am;go_wp2_with fail;refine (KE B s b g _ 2 w2 D1.o.1).mono ?_;rintro e V5 ⟨rfl,h5⟩;have D5:=hid (D1.o.after h5);clear h5;go_wp2
    go_end0
    rw [Am.o];exact ⟨rfl,D5.o⟩
  ·clear hn;have Am:=hid (show X=As.bT 3 (As.dh 8 st1) from RS.o);clear RS;go_wp2_with fail;refine (cI.o w1 D1.o.1).mono ?_;rintro e w2 ⟨rfl,rfl⟩
   cases hc:As.mX st1.ah
   ·have RT:=hid (show As.dh 8 st1=As.lay (List.replicate (((8:Int) - 4 * As.bM st1.obj st1.ah % 8) % 8 / 4).toNat 0) st1 from by unfold As.dh; rw [hc]; rfl);clear hc;have cL:=hid (fun V hV=>KR B s b g st1 V hV);have HD0:=hid (fun n=>D1.o.drewN n);have c13:=vQ D1.o.1;have c14:=uq D1.o.1;generalize As.bM st1.obj st1.ah=q at *;obtain ⟨qn,rfl⟩:=Int.eq_ofNat_of_zero_le hsb.1;have hq2:(qn:Int)<=1200:=hsb.2;have hq3:(0:Int)<=4 * (qn:Int):=by omega
    have EC:=hid (show (((8:Int) - 4 * (qn:Int) % 8) % 8 / 4)=(((((8:Int) - 4 * (qn:Int) % 8) % 8 / 4).toNat:Nat):Int) by omega);have HC:=hid (show (((8:Int) - 4 * (qn:Int) % 8) % 8 / 4).toNat<=4096 by omega);have r0:(0:Int)<=4 * (qn:Int) % 8:=by omega
    have r1:4 * (qn:Int) % 8 < 8:=by omega
    generalize (((8:Int) - 4 * (qn:Int) % 8) % 8 / 4).toNat=cnt at *;go_wp2
    go_quiet ((go_at_call 87; exact Calls.quiet_of_same (cL.o _ (HD0.o _).1)))
    have D2:=hid (HD0.o nq);clear HD0 c13 c14 cL;generalize w2.drewN nq=V2 at *;go_wp2_with fail;refine (KC 0 cnt _ (by have e:=EC.o; omega) _ HC.o).mono ?_;rintro e V3 ⟨⟨ao,cap,rfl,hw⟩,hg⟩;have D3:=hid (D2.o.grown hg);have uN:=hid hw;clear hg hw D2;go_wp2_with fail;refine (Qi B s b g st1 0 cnt ao cap V3 D3.o.1 uN.o HC.o).mono ?_;rintro e V4 ⟨rfl,h4⟩;have D4:=hid (D3.o.after h4);clear h4;rw [<- RT.o] at D4;go_wp2_with fail;refine (KE B s b g _ 3 V4 D4.o.1).mono ?_;rintro e V5 ⟨rfl,h5⟩;have D5:=hid (D4.o.after h5);clear h5;go_wp2
    go_end0
    rw [Am.o];exact ⟨rfl,D5.o⟩
   ·have RT:=hid (show As.dh 8 st1=As.bX 6 0 4 (List.replicate 1 19) st1 from by unfold As.dh; rw [hc]; rfl);clear hc;go_wp2_with fail;refine (KC 19 1 _ rfl _ (by omega)).mono ?_;rintro e V3 ⟨⟨ao,cap,rfl,hw⟩,hg⟩;have D3:=hid (D1.o.grown hg);have uN:=hid hw;clear hg hw;go_wp2_with fail;refine (XU B s b g st1 6 0 4 19 1 ao cap V3 D3.o.1 uN.o (by omega)).mono ?_;rintro e V4 ⟨rfl,h4⟩;have D4:=hid (D3.o.after h4);clear h4;rw [<- RT.o] at D4;go_wp2_with fail;refine (KE B s b g _ 3 V4 D4.o.1).mono ?_;rintro e V5 ⟨rfl,h5⟩;have D5:=hid (D4.o.after h5);clear h5;go_wp2
    go_end0
    rw [Am.o];exact ⟨rfl,D5.o⟩
  ·clear hn;have Am:=hid (show X=As.bT 4 (As.dh 16 st1) from RS.o);clear RS;go_wp2_with fail;refine (cI.o w1 D1.o.1).mono ?_;rintro e w2 ⟨rfl,rfl⟩
   cases hc:As.mX st1.ah
   ·have RT:=hid (show As.dh 16 st1=As.lay (List.replicate (((16:Int) - 4 * As.bM st1.obj st1.ah % 16) % 16 / 4).toNat 0) st1 from by unfold As.dh; rw [hc]; rfl);clear hc;have cL:=hid (fun V hV=>KR B s b g st1 V hV);have HD0:=hid (fun n=>D1.o.drewN n);have c13:=vQ D1.o.1;have c14:=uq D1.o.1;generalize As.bM st1.obj st1.ah=q at *;obtain ⟨qn,rfl⟩:=Int.eq_ofNat_of_zero_le hsb.1;have hq2:(qn:Int)<=1200:=hsb.2;have hq3:(0:Int)<=4 * (qn:Int):=by omega
    have EC:=hid (show (((16:Int) - 4 * (qn:Int) % 16) % 16 / 4)=(((((16:Int) - 4 * (qn:Int) % 16) % 16 / 4).toNat:Nat):Int) by omega);have HC:=hid (show (((16:Int) - 4 * (qn:Int) % 16) % 16 / 4).toNat<=4096 by omega);have r0:(0:Int)<=4 * (qn:Int) % 16:=by omega
    have r1:4 * (qn:Int) % 16 < 16:=by omega
    generalize (((16:Int) - 4 * (qn:Int) % 16) % 16 / 4).toNat=cnt at *;go_wp2
    go_quiet ((go_at_call 87; exact Calls.quiet_of_same (cL.o _ (HD0.o _).1)))
    have D2:=hid (HD0.o nq);clear HD0 c13 c14 cL;generalize w2.drewN nq=V2 at *;go_wp2_with fail;refine (KC 0 cnt _ (by have e:=EC.o; omega) _ HC.o).mono ?_;rintro e V3 ⟨⟨ao,cap,rfl,hw⟩,hg⟩;have D3:=hid (D2.o.grown hg);have uN:=hid hw;clear hg hw D2;go_wp2_with fail;refine (Qi B s b g st1 0 cnt ao cap V3 D3.o.1 uN.o HC.o).mono ?_;rintro e V4 ⟨rfl,h4⟩;have D4:=hid (D3.o.after h4);clear h4;rw [<- RT.o] at D4;go_wp2_with fail;refine (KE B s b g _ 4 V4 D4.o.1).mono ?_;rintro e V5 ⟨rfl,h5⟩;have D5:=hid (D4.o.after h5);clear h5;go_wp2
    go_end0
    rw [Am.o];exact ⟨rfl,D5.o⟩
   ·have RT:=hid (show As.dh 16 st1=As.bX 6 0 12 (List.replicate 3 19) st1 from by unfold As.dh; rw [hc]; rfl);clear hc;go_wp2_with fail;refine (KC 19 3 _ rfl _ (by omega)).mono ?_;rintro e V3 ⟨⟨ao,cap,rfl,hw⟩,hg⟩;have D3:=hid (D1.o.grown hg);have uN:=hid hw;clear hg hw;go_wp2_with fail;refine (XU B s b g st1 6 0 12 19 3 ao cap V3 D3.o.1 uN.o (by omega)).mono ?_;rintro e V4 ⟨rfl,h4⟩;have D4:=hid (D3.o.after h4);clear h4;rw [<- RT.o] at D4;go_wp2_with fail;refine (KE B s b g _ 4 V4 D4.o.1).mono ?_;rintro e V5 ⟨rfl,h5⟩;have D5:=hid (D4.o.after h5);clear h5;go_wp2
    go_end0
    rw [Am.o];exact ⟨rfl,D5.o⟩
 ·rw [hf,if_pos rfl] at RS;clear hf;go_wp2
  (try simp only [Exit.inBlock,Exit.then]); refine bodyPost_ret (results_none rfl _ _ _) rfl ?_
  rw [RS.o];exact ⟨rfl,D1.o⟩
theorem yjy (t:List UInt8) (w:World) :
  Calls Tryz.prog 137 #[.string (bs t)] w fun e w'=>e = .returned (.int .i64 (As.iV t:Nat))/\w'=w:=by
 have RS:=hid (show As.iV t=(
 if t=[46,116,101,120,116] then 15 else
 if t=[46,102,97,114] then 15 else
 if t=[46,100,97,116,97] then 15 else
 if t=[46,98,115,115] then 15 else
 if t=[46,119,111,114,100] then 16 else
 if t=[46,115,112,97,99,101] then 17 else
 if t=[46,97,108,105,103,110] then 18 else
 if t=[46,103,108,111,98,108] then 19 else
 if t=[46,119,101,97,107] then 19 else
 0) from rfl)
 generalize As.iV t=X at *;have e:∀ l:List UInt8,((bs t).toList == l)=decide (t=l):=fun l=>by rw [yH,Bool.eq_iff_iff,beq_iff_eq,decide_eq_true_iff]
 by_cases h:t=[46,116,101,120,116]
 ·rw [if_pos h] at RS;have d0:=e [46,116,101,120,116];rw [decide_eq_true h] at d0;clear h e;go_enter Tryz.func137,Tryz.ntmps137;go_wp2;go_ret;exact ⟨by rw [RS.o]; rfl,rfl⟩
 have d0:=e [46,116,101,120,116];rw [if_neg h] at RS;rw [decide_eq_false h] at d0;clear h;by_cases h:t=[46,102,97,114]
 ·rw [if_pos h] at RS;have d1:=e [46,102,97,114];rw [decide_eq_true h] at d1;clear h e;go_enter Tryz.func137,Tryz.ntmps137;go_wp2;go_ret;exact ⟨by rw [RS.o]; rfl,rfl⟩
 have d1:=e [46,102,97,114];rw [if_neg h] at RS;rw [decide_eq_false h] at d1;clear h;by_cases h:t=[46,100,97,116,97]
 ·rw [if_pos h] at RS;have d2:=e [46,100,97,116,97];rw [decide_eq_true h] at d2;clear h e;go_enter Tryz.func137,Tryz.ntmps137;go_wp2;go_ret;exact ⟨by rw [RS.o]; rfl,rfl⟩
 have d2:=e [46,100,97,116,97];rw [if_neg h] at RS;rw [decide_eq_false h] at d2;clear h;by_cases h:t=[46,98,115,115]
 ·rw [if_pos h] at RS;have d3:=e [46,98,115,115];rw [decide_eq_true h] at d3;clear h e;go_enter Tryz.func137,Tryz.ntmps137;go_wp2;go_ret;exact ⟨by rw [RS.o]; rfl,rfl⟩
 have d3:=e [46,98,115,115];rw [if_neg h] at RS;rw [decide_eq_false h] at d3;clear h;by_cases h:t=[46,119,111,114,100]
 ·rw [if_pos h] at RS;have d4:=e [46,119,111,114,100];rw [decide_eq_true h] at d4;clear h e;go_enter Tryz.func137,Tryz.ntmps137;go_wp2;go_ret;exact ⟨by rw [RS.o]; rfl,rfl⟩
 have d4:=e [46,119,111,114,100];rw [if_neg h] at RS;rw [decide_eq_false h] at d4;clear h;by_cases h:t=[46,115,112,97,99,101]
 ·rw [if_pos h] at RS;have d5:=e [46,115,112,97,99,101];rw [decide_eq_true h] at d5;clear h e;go_enter Tryz.func137,Tryz.ntmps137;go_wp2;go_ret;exact ⟨by rw [RS.o]; rfl,rfl⟩
 have d5:=e [46,115,112,97,99,101];rw [if_neg h] at RS;rw [decide_eq_false h] at d5;clear h;by_cases h:t=[46,97,108,105,103,110]
 ·rw [if_pos h] at RS;have d6:=e [46,97,108,105,103,110];rw [decide_eq_true h] at d6;clear h e;go_enter Tryz.func137,Tryz.ntmps137;go_wp2;go_ret;exact ⟨by rw [RS.o]; rfl,rfl⟩
 have d6:=e [46,97,108,105,103,110];rw [if_neg h] at RS;rw [decide_eq_false h] at d6;clear h;by_cases h:t=[46,103,108,111,98,108]
 ·rw [if_pos h] at RS;have d7:=e [46,103,108,111,98,108];rw [decide_eq_true h] at d7;clear h e;go_enter Tryz.func137,Tryz.ntmps137;go_wp2;go_ret;exact ⟨by rw [RS.o]; rfl,rfl⟩
 have d7:=e [46,103,108,111,98,108];rw [if_neg h] at RS;rw [decide_eq_false h] at d7;clear h;by_cases h:t=[46,119,101,97,107]
 ·rw [if_pos h] at RS;have d8:=e [46,119,101,97,107];rw [decide_eq_true h] at d8;clear h e;go_enter Tryz.func137,Tryz.ntmps137;go_wp2;go_ret;exact ⟨by rw [RS.o]; rfl,rfl⟩
 have d8:=e [46,119,101,97,107];rw [if_neg h] at RS;rw [decide_eq_false h] at d8;clear h;clear e;go_enter Tryz.func137,Tryz.ntmps137;go_wp2;go_ret;exact ⟨by rw [RS.o]; rfl,rfl⟩
theorem ylD (t:List UInt8) (w:World) :
  Calls Tryz.prog 88 #[.string (bs t)] w fun e w'=>e = .returned (.int .i64 (As.shapeOf t:Nat))/\w'=w:=by
 have RS:=hid (show As.shapeOf t=(
 if t=[97,100,100] then 1 else
 if t=[115,117,98] then 1 else
 if t=[115,108,116] then 1 else
 if t=[115,108,116,117] then 1 else
 if t=[120,111,114] then 1 else
 if t=[111,114] then 1 else
 if t=[97,110,100] then 1 else
 if t=[97,100,100,105] then 2 else
 if t=[115,108,116,105] then 2 else
 if t=[120,111,114,105] then 2 else
 if t=[111,114,105] then 2 else
 if t=[97,110,100,105] then 2 else
 if t=[108,117,105] then 3 else
 if t=[108,119] then 4 else
 if t=[115,119] then 5 else
 if t=[106,97,108,114] then 6 else
 if t=[101,99,97,108,108] then 7 else
 if t=[114,101,116] then 7 else
 if t=[110,111,112] then 7 else
 if t=[98,101,113] then 8 else
 if t=[98,110,101] then 8 else
 if t=[98,108,116] then 8 else
 if t=[98,103,101] then 8 else
 if t=[98,108,116,117] then 8 else
 if t=[98,103,101,117] then 8 else
 if t=[106,97,108] then 9 else
 if t=[106] then 10 else
 if t=[109,118] then 11 else
 if t=[108,105] then 12 else
 if t=[99,97,108,108] then 13 else
 if t=[116,97,105,108] then 13 else
 if t=[108,97] then 14 else
 As.iV t) from rfl)
 generalize As.shapeOf t=X at *;have e:∀ l:List UInt8,((bs t).toList == l)=decide (t=l):=fun l=>by rw [yH,Bool.eq_iff_iff,beq_iff_eq,decide_eq_true_iff]
 by_cases h:t=[97,100,100]
 ·rw [if_pos h] at RS;have d0:=e [97,100,100];rw [decide_eq_true h] at d0;clear h e;go_enter Tryz.func88,Tryz.ntmps88;go_wp2;go_ret;exact ⟨by rw [RS.o]; rfl,rfl⟩
 have d0:=e [97,100,100];rw [if_neg h] at RS;rw [decide_eq_false h] at d0;clear h;by_cases h:t=[115,117,98]
 ·rw [if_pos h] at RS;have d1:=e [115,117,98];rw [decide_eq_true h] at d1;clear h e;go_enter Tryz.func88,Tryz.ntmps88;go_wp2;go_ret;exact ⟨by rw [RS.o]; rfl,rfl⟩
 have d1:=e [115,117,98];rw [if_neg h] at RS;rw [decide_eq_false h] at d1;clear h;by_cases h:t=[115,108,116]
 ·rw [if_pos h] at RS;have d2:=e [115,108,116];rw [decide_eq_true h] at d2;clear h e;go_enter Tryz.func88,Tryz.ntmps88;go_wp2;go_ret;exact ⟨by rw [RS.o]; rfl,rfl⟩
 have d2:=e [115,108,116];rw [if_neg h] at RS;rw [decide_eq_false h] at d2;clear h;by_cases h:t=[115,108,116,117]
 ·rw [if_pos h] at RS;have d3:=e [115,108,116,117];rw [decide_eq_true h] at d3;clear h e;go_enter Tryz.func88,Tryz.ntmps88;go_wp2;go_ret;exact ⟨by rw [RS.o]; rfl,rfl⟩
 have d3:=e [115,108,116,117];rw [if_neg h] at RS;rw [decide_eq_false h] at d3;clear h;by_cases h:t=[120,111,114]
 ·rw [if_pos h] at RS;have d4:=e [120,111,114];rw [decide_eq_true h] at d4;clear h e;go_enter Tryz.func88,Tryz.ntmps88;go_wp2;go_ret;exact ⟨by rw [RS.o]; rfl,rfl⟩
 have d4:=e [120,111,114];rw [if_neg h] at RS;rw [decide_eq_false h] at d4;clear h;by_cases h:t=[111,114]
 ·rw [if_pos h] at RS;have d5:=e [111,114];rw [decide_eq_true h] at d5;clear h e;go_enter Tryz.func88,Tryz.ntmps88;go_wp2;go_ret;exact ⟨by rw [RS.o]; rfl,rfl⟩
 have d5:=e [111,114];rw [if_neg h] at RS;rw [decide_eq_false h] at d5;clear h;by_cases h:t=[97,110,100]
 ·rw [if_pos h] at RS;have d6:=e [97,110,100];rw [decide_eq_true h] at d6;clear h e;go_enter Tryz.func88,Tryz.ntmps88;go_wp2;go_ret;exact ⟨by rw [RS.o]; rfl,rfl⟩
 have d6:=e [97,110,100];rw [if_neg h] at RS;rw [decide_eq_false h] at d6;clear h;by_cases h:t=[97,100,100,105]
 ·rw [if_pos h] at RS;have d7:=e [97,100,100,105];rw [decide_eq_true h] at d7;clear h e;go_enter Tryz.func88,Tryz.ntmps88;go_wp2;go_ret;exact ⟨by rw [RS.o]; rfl,rfl⟩
 have d7:=e [97,100,100,105];rw [if_neg h] at RS;rw [decide_eq_false h] at d7;clear h;by_cases h:t=[115,108,116,105]
 ·rw [if_pos h] at RS;have d8:=e [115,108,116,105];rw [decide_eq_true h] at d8;clear h e;go_enter Tryz.func88,Tryz.ntmps88;go_wp2;go_ret;exact ⟨by rw [RS.o]; rfl,rfl⟩
 have d8:=e [115,108,116,105];rw [if_neg h] at RS;rw [decide_eq_false h] at d8;clear h;by_cases h:t=[120,111,114,105]
 ·rw [if_pos h] at RS;have d9:=e [120,111,114,105];rw [decide_eq_true h] at d9;clear h e;go_enter Tryz.func88,Tryz.ntmps88;go_wp2;go_ret;exact ⟨by rw [RS.o]; rfl,rfl⟩
 have d9:=e [120,111,114,105];rw [if_neg h] at RS;rw [decide_eq_false h] at d9;clear h;by_cases h:t=[111,114,105]
 ·rw [if_pos h] at RS;have GV:=e [111,114,105];rw [decide_eq_true h] at GV;clear h e;go_enter Tryz.func88,Tryz.ntmps88;go_wp2;go_ret;exact ⟨by rw [RS.o]; rfl,rfl⟩
 have GV:=e [111,114,105];rw [if_neg h] at RS;rw [decide_eq_false h] at GV;clear h;by_cases h:t=[97,110,100,105]
 ·rw [if_pos h] at RS;have GX:=e [97,110,100,105];rw [decide_eq_true h] at GX;clear h e;go_enter Tryz.func88,Tryz.ntmps88;go_wp2;go_ret;exact ⟨by rw [RS.o]; rfl,rfl⟩
 have GX:=e [97,110,100,105];rw [if_neg h] at RS;rw [decide_eq_false h] at GX;clear h;by_cases h:t=[108,117,105]
 ·rw [if_pos h] at RS;have Fb:=e [108,117,105];rw [decide_eq_true h] at Fb;clear h e;go_enter Tryz.func88,Tryz.ntmps88;go_wp2;go_ret;exact ⟨by rw [RS.o]; rfl,rfl⟩
 have Fb:=e [108,117,105];rw [if_neg h] at RS;rw [decide_eq_false h] at Fb;clear h;by_cases h:t=[108,119]
 ·rw [if_pos h] at RS;have QS:=e [108,119];rw [decide_eq_true h] at QS;clear h e;go_enter Tryz.func88,Tryz.ntmps88;go_wp2;go_ret;exact ⟨by rw [RS.o]; rfl,rfl⟩
 have QS:=e [108,119];rw [if_neg h] at RS;rw [decide_eq_false h] at QS;clear h;by_cases h:t=[115,119]
 ·rw [if_pos h] at RS;have QT:=e [115,119];rw [decide_eq_true h] at QT;clear h e;go_enter Tryz.func88,Tryz.ntmps88;go_wp2;go_ret;exact ⟨by rw [RS.o]; rfl,rfl⟩
 have QT:=e [115,119];rw [if_neg h] at RS;rw [decide_eq_false h] at QT;clear h;by_cases h:t=[106,97,108,114]
 ·rw [if_pos h] at RS;have QU:=e [106,97,108,114];rw [decide_eq_true h] at QU;clear h e;go_enter Tryz.func88,Tryz.ntmps88;go_wp2;go_ret;exact ⟨by rw [RS.o]; rfl,rfl⟩
 have QU:=e [106,97,108,114];rw [if_neg h] at RS;rw [decide_eq_false h] at QU;clear h;by_cases h:t=[101,99,97,108,108]
 ·rw [if_pos h] at RS;have QV:=e [101,99,97,108,108];rw [decide_eq_true h] at QV;clear h e;go_enter Tryz.func88,Tryz.ntmps88;go_wp2;go_ret;exact ⟨by rw [RS.o]; rfl,rfl⟩
 have QV:=e [101,99,97,108,108];rw [if_neg h] at RS;rw [decide_eq_false h] at QV;clear h;by_cases h:t=[114,101,116]
 ·rw [if_pos h] at RS;have QW:=e [114,101,116];rw [decide_eq_true h] at QW;clear h e;go_enter Tryz.func88,Tryz.ntmps88;go_wp2;go_ret;exact ⟨by rw [RS.o]; rfl,rfl⟩
 have QW:=e [114,101,116];rw [if_neg h] at RS;rw [decide_eq_false h] at QW;clear h;by_cases h:t=[110,111,112]
 ·rw [if_pos h] at RS;have QX:=e [110,111,112];rw [decide_eq_true h] at QX;clear h e;go_enter Tryz.func88,Tryz.ntmps88;go_wp2;go_ret;exact ⟨by rw [RS.o]; rfl,rfl⟩
 have QX:=e [110,111,112];rw [if_neg h] at RS;rw [decide_eq_false h] at QX;clear h;by_cases h:t=[98,101,113]
 ·rw [if_pos h] at RS;have QY:=e [98,101,113];rw [decide_eq_true h] at QY;clear h e;go_enter Tryz.func88,Tryz.ntmps88;go_wp2;go_ret;exact ⟨by rw [RS.o]; rfl,rfl⟩
 have QY:=e [98,101,113];rw [if_neg h] at RS;rw [decide_eq_false h] at QY;clear h;by_cases h:t=[98,110,101]
 ·rw [if_pos h] at RS;have QZ:=e [98,110,101];rw [decide_eq_true h] at QZ;clear h e;go_enter Tryz.func88,Tryz.ntmps88;go_wp2;go_ret;exact ⟨by rw [RS.o]; rfl,rfl⟩
 have QZ:=e [98,110,101];rw [if_neg h] at RS;rw [decide_eq_false h] at QZ;clear h;by_cases h:t=[98,108,116]
 ·rw [if_pos h] at RS;have Q8:=e [98,108,116];rw [decide_eq_true h] at Q8;clear h e;go_enter Tryz.func88,Tryz.ntmps88;go_wp2;go_ret;exact ⟨by rw [RS.o]; rfl,rfl⟩
 have Q8:=e [98,108,116];rw [if_neg h] at RS;rw [decide_eq_false h] at Q8;clear h;by_cases h:t=[98,103,101]
 ·rw [if_pos h] at RS;have Q9:=e [98,103,101];rw [decide_eq_true h] at Q9;clear h e;go_enter Tryz.func88,Tryz.ntmps88;go_wp2;go_ret;exact ⟨by rw [RS.o]; rfl,rfl⟩
 have Q9:=e [98,103,101];rw [if_neg h] at RS;rw [decide_eq_false h] at Q9;clear h;by_cases h:t=[98,108,116,117]
 ·rw [if_pos h] at RS;have Ra:=e [98,108,116,117];rw [decide_eq_true h] at Ra;clear h e;go_enter Tryz.func88,Tryz.ntmps88;go_wp2;go_ret;exact ⟨by rw [RS.o]; rfl,rfl⟩
 have Ra:=e [98,108,116,117];rw [if_neg h] at RS;rw [decide_eq_false h] at Ra;clear h;by_cases h:t=[98,103,101,117]
 ·rw [if_pos h] at RS;have Rb:=e [98,103,101,117];rw [decide_eq_true h] at Rb;clear h e;go_enter Tryz.func88,Tryz.ntmps88;go_wp2;go_ret;exact ⟨by rw [RS.o]; rfl,rfl⟩
 have Rb:=e [98,103,101,117];rw [if_neg h] at RS;rw [decide_eq_false h] at Rb;clear h;by_cases h:t=[106,97,108]
 ·rw [if_pos h] at RS;have Rc:=e [106,97,108];rw [decide_eq_true h] at Rc;clear h e;go_enter Tryz.func88,Tryz.ntmps88;go_wp2;go_ret;exact ⟨by rw [RS.o]; rfl,rfl⟩
 have Rc:=e [106,97,108];rw [if_neg h] at RS;rw [decide_eq_false h] at Rc;clear h;by_cases h:t=[106]
 ·rw [if_pos h] at RS;have Rf:=e [106];rw [decide_eq_true h] at Rf;clear h e;go_enter Tryz.func88,Tryz.ntmps88;go_wp2;go_ret;exact ⟨by rw [RS.o]; rfl,rfl⟩
 have Rf:=e [106];rw [if_neg h] at RS;rw [decide_eq_false h] at Rf;clear h;by_cases h:t=[109,118]
 ·rw [if_pos h] at RS;have Rh:=e [109,118];rw [decide_eq_true h] at Rh;clear h e;go_enter Tryz.func88,Tryz.ntmps88;go_wp2;go_ret;exact ⟨by rw [RS.o]; rfl,rfl⟩
 have Rh:=e [109,118];rw [if_neg h] at RS;rw [decide_eq_false h] at Rh;clear h;by_cases h:t=[108,105]
 ·rw [if_pos h] at RS;have Ri:=e [108,105];rw [decide_eq_true h] at Ri;clear h e;go_enter Tryz.func88,Tryz.ntmps88;go_wp2;go_ret;exact ⟨by rw [RS.o]; rfl,rfl⟩
 have Ri:=e [108,105];rw [if_neg h] at RS;rw [decide_eq_false h] at Ri;clear h;by_cases h:t=[99,97,108,108]
 ·rw [if_pos h] at RS;have Rj:=e [99,97,108,108];rw [decide_eq_true h] at Rj;clear h e;go_enter Tryz.func88,Tryz.ntmps88;go_wp2;go_ret;exact ⟨by rw [RS.o]; rfl,rfl⟩
 have Rj:=e [99,97,108,108];rw [if_neg h] at RS;rw [decide_eq_false h] at Rj;clear h;by_cases h:t=[116,97,105,108]
 ·rw [if_pos h] at RS;have Rk:=e [116,97,105,108];rw [decide_eq_true h] at Rk;clear h e;go_enter Tryz.func88,Tryz.ntmps88;go_wp2;go_ret;exact ⟨by rw [RS.o]; rfl,rfl⟩
 have Rk:=e [116,97,105,108];rw [if_neg h] at RS;rw [decide_eq_false h] at Rk;clear h;by_cases h:t=[108,97]
 ·rw [if_pos h] at RS;have Rl:=e [108,97];rw [decide_eq_true h] at Rl;clear h e;go_enter Tryz.func88,Tryz.ntmps88;go_wp2;go_ret;exact ⟨by rw [RS.o]; rfl,rfl⟩
 have Rl:=e [108,97];rw [if_neg h] at RS;rw [decide_eq_false h] at Rl;clear h;clear e;have c:=hid (yjy t w);go_enter Tryz.func88,Tryz.ntmps88;go_wp2_with fail;refine c.o.mono ?_;rintro e w1 ⟨rfl,rfl⟩;go_wp2;go_ret;exact ⟨by rw [RS.o]; rfl,rfl⟩
def nI (W:World):Prop:=∀ i,i < 26->W.cell? ⟨2,i,none⟩=some (.string (bs (As.names.getD i [])))
theorem nI.below {B:Nat} {W W':World} (h:nI W) (hb:Below B W W') (hB:3<=B):nI W':=fun i hi=>(hb.cell (show 2 < B by omega)).trans (h i hi)
theorem ypx (k:Nat) (h1:1<=k) (h2:k<=25):As.named (As.names.getD k [])=k:=by
 rcases (show k=1\/k=2\/k=3\/k=4\/k=5\/k=6\/k=7\/k=8\/k=9\/k=10\/k=11\/k=12\/k=13\/k=14\/k=15\/k=16\/k=17\/k=18\/k=19\/k=20\/k=21\/k=22\/k=23\/k=24\/k=25 by omega) with rfl | rfl | rfl | rfl | rfl | rfl | rfl | rfl | rfl | rfl | rfl | rfl | rfl | rfl | rfl | rfl | rfl | rfl | rfl | rfl | rfl | rfl | rfl | rfl | rfl <;> decide
theorem ymZ (t:List UInt8) (h:∀ k,1<=k->k<=25->As.names.getD k []≠t):As.named t=0:=by
 unfold As.named;have e:(List.range 26).find? (fun k=>decide (1<=k) && As.names.getD k [] == t)=none:=by
  rw [List.find?_eq_none];intro k hk;rw [List.mem_range] at hk;simp only [Bool.and_eq_true,decide_eq_true_eq,beq_iff_eq,not_and];intro h1;exact h k h1 (by omega)
 rw [e];rfl
theorem yhP (t:List UInt8) (w:World) (ht:nI w) :
  Calls Tryz.prog 91 #[.string (bs t)] w fun e w'=>e = .returned (.int .i64 (As.named t:Nat))/\w'=w:=by
 have HT:=hid ht;have NA:=hid ypx;have NN:=hid (ymZ t);clear ht;generalize hX:As.named t=X at *;have HX:=hid hX;clear hX;go_enter Tryz.func91,Tryz.ntmps91;go_wp2
 go_loop [3] (fun i=>∃ k:Nat,1<=k/\k<=26/\i = .int .i64 k/\∀ j,1<=j->j < k->As.names.getD j []≠t) (fun i=>26 - (intOf i).toNat)
 case atStart=>exact ⟨1,Nat.le_refl _,by omega,rfl,fun j h1 h2=>by omega⟩
 case round =>
  obtain ⟨k,hk1,hk2,rfl,hall⟩:=hrel;have HA:=hid hall;clear hall;by_cases hlt:k<=25
  ·have cx:=HT.o k (by omega);have NK:=hid (NA.o k hk1 hlt);have g1:(1:Int)<=(k:Int):=by omega
   have g2:(k:Int)<=25:=by omega
   generalize hnm:As.names.getD k []=nm at *;have HNM:=hid hnm;clear hnm;by_cases e1:nm=t
   ·have b1:((bs nm).toList == (bs t).toList)=true:=by rw [e1]; simp
    have E:=hid (show X=k by rw [<- HX.o,<- e1]; exact NK.o);clear e1;go_wp2;go_ret;exact ⟨by rw [E.o]; rfl,rfl⟩
   ·have E:=hid e1;have b1:((bs nm).toList == (bs t).toList)=false:=by rw [yH,yH]; simpa using e1
    clear e1;go_wp2
    go_round
    case rel=>exact ⟨k+1,by omega,by omega,by go_num,fun j hj hjk=>(Nat.lt_succ_iff_lt_or_eq.1 hjk).elim (fun h=>HA.o j hj h) (fun h=>by subst h; rw [HNM.o]; exact E.o)⟩
    case measure=>simp [intOf]; omega
  ·have g2:(25:Int) < (k:Int):=by omega
   have E:=hid (NN.o (fun j h1 h2=>HA.o j h1 (by omega)));go_wp2;go_ret;exact ⟨by rw [E.o]; rfl,rfl⟩
theorem yjX (B:Nat) (s:ByteArray) (b g:Nat) (st:As.St) (shape:Nat) (W:World) (h:yl B s b g st W) (h1:1<=shape) (h2:shape<=19) :
  Calls Tryz.prog 89 #[.pointer (some ⟨b,0,none⟩),.int .i64 shape] W fun e W'=>e = .returned (.bool (As.iE shape st.ah))/\W'=W:=by
 have c:=vQ h;have cI:=hid (XJ B s b g st W h);have hs:=h.ok.ah;clear h;generalize st.ah=ah at *;have RS:=hid (show As.iE shape ah=if shape<=14 then As.mX ah else !(shape == 16) || !(ah == 4) from rfl);generalize As.iE shape ah=X at *;by_cases vY:shape<=14
 ·have d:decide ((shape:Int)<=14)=true:=by simp; omega
  rw [if_pos vY] at RS;clear vY;go_enter Tryz.func89,Tryz.ntmps89;go_wp2_with fail;refine cI.o.mono ?_;rintro e w1 ⟨rfl,rfl⟩;go_wp2;go_ret;exact ⟨by rw [RS.o]; rfl,rfl⟩
 ·have d:decide ((shape:Int)<=14)=false:=by simp; omega
  rw [if_neg vY] at RS;by_cases h16:shape=16
  ·have d1:((shape:Int) == 16)=true:=by simp; omega
   have d1':((shape:Int) != 16)=false:=by simp; omega
   rw [show (shape == 16)=true by simp [h16]] at RS;clear vY h16 h1 h2;rcases (show ah=1\/ah=2\/ah=3\/ah=4 by omega) with rfl | rfl | rfl | rfl
   all_goals
    go_enter Tryz.func89,Tryz.ntmps89;go_wp2;go_ret;exact ⟨by rw [RS.o]; rfl,rfl⟩
  ·have d1:((shape:Int) == 16)=false:=by simp; omega
   have d1':((shape:Int) != 16)=true:=by simp; omega
   rw [show (shape == 16)=false by simp [h16]] at RS;clear vY h16 h1 h2;go_enter Tryz.func89,Tryz.ntmps89;go_wp2;go_ret;exact ⟨by rw [RS.o]; rfl,rfl⟩
theorem ygX (B:Nat) (s:ByteArray) (b g:Nat) (st:As.St) (shape op:Nat) (W:World) (h:yl B s b g st W) (h1:1<=shape) (h2:shape<=14) (ho:shape=1\/shape=2\/shape=8->1<=op/\op<=25) :
  Calls Tryz.prog 90 #[.pointer (some ⟨b,0,none⟩),.int .i64 shape,.int .i64 op] W fun en W'=>en = .returned (.tuple #[])/\Does B s b g W (As.instruction (sl s) shape op st) W':=by
 rcases (show shape=1\/shape=2\/shape=3\/shape=4\/shape=5\/shape=6\/shape=7\/shape=8\/shape=9\/shape=10\/shape=11\/shape=12\/shape=13\/shape=14 by omega) with rfl | rfl | rfl | rfl | rfl | rfl | rfl | rfl | rfl | rfl | rfl | rfl | rfl | rfl
 ·have c:=hid (yja B s b g st op W h (ho (by omega)).1 (ho (by omega)).2);have RS:=hid (show As.instruction (sl s) 1 op st=As.dX (sl s) op st from by unfold As.instruction; rw [if_pos rfl]);generalize As.instruction (sl s) 1 op st=X at *;clear h ho h1 h2;go_enter Tryz.func90,Tryz.ntmps90;go_wp2_with fail;refine c.o.mono ?_;rintro e VF ⟨rfl,hh⟩;have DF:=hid hh;clear hh c;go_wp2
  go_end0
  rw [RS.o];exact ⟨rfl,DF.o⟩
 ·have c:=hid (yif B s b g st op W h (ho (by omega)).1 (ho (by omega)).2);have RS:=hid (show As.instruction (sl s) 2 op st=As.dI (sl s) op st from by unfold As.instruction; rw [if_neg (by decide),if_pos rfl]);generalize As.instruction (sl s) 2 op st=X at *;clear h ho h1 h2;go_enter Tryz.func90,Tryz.ntmps90;go_wp2_with fail;refine c.o.mono ?_;rintro e VF ⟨rfl,hh⟩;have DF:=hid hh;clear hh c;go_wp2
  go_end0
  rw [RS.o];exact ⟨rfl,DF.o⟩
 ·have c:=hid (yoJ B s b g st W h);have RS:=hid (show As.instruction (sl s) 3 op st=As.upper (sl s) st from by unfold As.instruction; rw [if_neg (by decide),if_neg (by decide),if_pos rfl]);generalize As.instruction (sl s) 3 op st=X at *;clear h ho h1 h2;go_enter Tryz.func90,Tryz.ntmps90;go_wp2_with fail;refine c.o.mono ?_;rintro e VF ⟨rfl,hh⟩;have DF:=hid hh;clear hh c;go_wp2
  go_end0
  rw [RS.o];exact ⟨rfl,DF.o⟩
 ·have c:=hid (ypo B s b g st W h);have RS:=hid (show As.instruction (sl s) 4 op st=As.load (sl s) st from by unfold As.instruction; rw [if_neg (by decide),if_neg (by decide),if_neg (by decide),if_pos rfl]);generalize As.instruction (sl s) 4 op st=X at *;clear h ho h1 h2;go_enter Tryz.func90,Tryz.ntmps90;go_wp2_with fail;refine c.o.mono ?_;rintro e VF ⟨rfl,hh⟩;have DF:=hid hh;clear hh c;go_wp2
  go_end0
  rw [RS.o];exact ⟨rfl,DF.o⟩
 ·have c:=hid (yoF B s b g st W h);have RS:=hid (show As.instruction (sl s) 5 op st=As.store (sl s) st from by unfold As.instruction; rw [if_neg (by decide),if_neg (by decide),if_neg (by decide),if_neg (by decide),if_pos rfl]);generalize As.instruction (sl s) 5 op st=X at *;clear h ho h1 h2;go_enter Tryz.func90,Tryz.ntmps90;go_wp2_with fail;refine c.o.mono ?_;rintro e VF ⟨rfl,hh⟩;have DF:=hid hh;clear hh c;go_wp2
  go_end0
  rw [RS.o];exact ⟨rfl,DF.o⟩
 ·have c:=hid (ygC B s b g st W h);have RS:=hid (show As.instruction (sl s) 6 op st=As.bO (sl s) st from by unfold As.instruction; rw [if_neg (by decide),if_neg (by decide),if_neg (by decide),if_neg (by decide),if_neg (by decide),if_pos rfl]);generalize As.instruction (sl s) 6 op st=X at *;clear h ho h1 h2;go_enter Tryz.func90,Tryz.ntmps90;go_wp2_with fail;refine c.o.mono ?_;rintro e VF ⟨rfl,hh⟩;have DF:=hid hh;clear hh c;go_wp2
  go_end0
  rw [RS.o];exact ⟨rfl,DF.o⟩
 ·have c:=hid (yoO B s b g st W h);have RS:=hid (show As.instruction (sl s) 7 op st=As.bare st from by unfold As.instruction; rw [if_neg (by decide),if_neg (by decide),if_neg (by decide),if_neg (by decide),if_neg (by decide),if_neg (by decide),if_pos rfl]);generalize As.instruction (sl s) 7 op st=X at *;clear h ho h1 h2;go_enter Tryz.func90,Tryz.ntmps90;go_wp2_with fail;refine c.o.mono ?_;rintro e VF ⟨rfl,hh⟩;have DF:=hid hh;clear hh c;go_wp2
  go_end0
  rw [RS.o];exact ⟨rfl,DF.o⟩
 ·have c:=hid (ymr B s b g st op W h (ho (by omega)).1 (ho (by omega)).2);have RS:=hid (show As.instruction (sl s) 8 op st=As.branch (sl s) op st from by unfold As.instruction; rw [if_neg (by decide),if_neg (by decide),if_neg (by decide),if_neg (by decide),if_neg (by decide),if_neg (by decide),if_neg (by decide),if_pos rfl]);generalize As.instruction (sl s) 8 op st=X at *;clear h ho h1 h2;go_enter Tryz.func90,Tryz.ntmps90;go_wp2_with fail;refine c.o.mono ?_;rintro e VF ⟨rfl,hh⟩;have DF:=hid hh;clear hh c;go_wp2
  go_end0
  rw [RS.o];exact ⟨rfl,DF.o⟩
 ·have c:=hid (yjN B s b g st W h);have RS:=hid (show As.instruction (sl s) 9 op st=As.fB (sl s) st from by unfold As.instruction; rw [if_neg (by decide),if_neg (by decide),if_neg (by decide),if_neg (by decide),if_neg (by decide),if_neg (by decide),if_neg (by decide),if_neg (by decide),if_pos rfl]);generalize As.instruction (sl s) 9 op st=X at *;clear h ho h1 h2;go_enter Tryz.func90,Tryz.ntmps90;go_wp2_with fail;refine c.o.mono ?_;rintro e VF ⟨rfl,hh⟩;have DF:=hid hh;clear hh c;go_wp2
  go_end0
  rw [RS.o];exact ⟨rfl,DF.o⟩
 ·have c:=hid (ypj B s b g st W h);have RS:=hid (show As.instruction (sl s) 10 op st=As.fC (sl s) 0 st from by unfold As.instruction; rw [if_neg (by decide),if_neg (by decide),if_neg (by decide),if_neg (by decide),if_neg (by decide),if_neg (by decide),if_neg (by decide),if_neg (by decide),if_neg (by decide),if_pos rfl]);generalize As.instruction (sl s) 10 op st=X at *;clear h ho h1 h2;go_enter Tryz.func90,Tryz.ntmps90;go_wp2_with fail;refine c.o.mono ?_;rintro e VF ⟨rfl,hh⟩;have DF:=hid hh;clear hh c;go_wp2
  go_end0
  rw [RS.o];exact ⟨rfl,DF.o⟩
 ·have c:=hid (ypw B s b g st W h);have RS:=hid (show As.instruction (sl s) 11 op st=As.move (sl s) st from by unfold As.instruction; rw [if_neg (by decide),if_neg (by decide),if_neg (by decide),if_neg (by decide),if_neg (by decide),if_neg (by decide),if_neg (by decide),if_neg (by decide),if_neg (by decide),if_neg (by decide),if_pos rfl]);generalize As.instruction (sl s) 11 op st=X at *;clear h ho h1 h2;go_enter Tryz.func90,Tryz.ntmps90;go_wp2_with fail;refine c.o.mono ?_;rintro e VF ⟨rfl,hh⟩;have DF:=hid hh;clear hh c;go_wp2
  go_end0
  rw [RS.o];exact ⟨rfl,DF.o⟩
 ·have c:=hid (yhR B s b g st W h);have RS:=hid (show As.instruction (sl s) 12 op st=As.dF (sl s) st from by unfold As.instruction; rw [if_neg (by decide),if_neg (by decide),if_neg (by decide),if_neg (by decide),if_neg (by decide),if_neg (by decide),if_neg (by decide),if_neg (by decide),if_neg (by decide),if_neg (by decide),if_neg (by decide),if_pos rfl]);generalize As.instruction (sl s) 12 op st=X at *;clear h ho h1 h2;go_enter Tryz.func90,Tryz.ntmps90;go_wp2_with fail;refine c.o.mono ?_;rintro e VF ⟨rfl,hh⟩;have DF:=hid hh;clear hh c;go_wp2
  go_end0
  rw [RS.o];exact ⟨rfl,DF.o⟩
 ·have c:=hid (yoP B s b g st W h);have RS:=hid (show As.instruction (sl s) 13 op st=As.call (sl s) st from by unfold As.instruction; rw [if_neg (by decide),if_neg (by decide),if_neg (by decide),if_neg (by decide),if_neg (by decide),if_neg (by decide),if_neg (by decide),if_neg (by decide),if_neg (by decide),if_neg (by decide),if_neg (by decide),if_neg (by decide),if_pos rfl]);generalize As.instruction (sl s) 13 op st=X at *;clear h ho h1 h2;go_enter Tryz.func90,Tryz.ntmps90;go_wp2_with fail;refine c.o.mono ?_;rintro e VF ⟨rfl,hh⟩;have DF:=hid hh;clear hh c;go_wp2
  go_end0
  rw [RS.o];exact ⟨rfl,DF.o⟩
 ·have c:=hid (yhb B s b g st W h);have RS:=hid (show As.instruction (sl s) 14 op st=As.bY (sl s) st from by unfold As.instruction; rw [if_neg (by decide),if_neg (by decide),if_neg (by decide),if_neg (by decide),if_neg (by decide),if_neg (by decide),if_neg (by decide),if_neg (by decide),if_neg (by decide),if_neg (by decide),if_neg (by decide),if_neg (by decide),if_neg (by decide),if_pos rfl]);generalize As.instruction (sl s) 14 op st=X at *;clear h ho h1 h2;go_enter Tryz.func90,Tryz.ntmps90;go_wp2_with fail;refine c.o.mono ?_;rintro e VF ⟨rfl,hh⟩;have DF:=hid hh;clear hh c;go_wp2
  go_end0
  rw [RS.o];exact ⟨rfl,DF.o⟩
theorem yiF (B:Nat) (s:ByteArray) (b g:Nat) (st:As.St) (shape:Nat) (W:World) (h:yl B s b g st W) (h1:15<=shape) (h2:shape<=19) :
  Calls Tryz.prog 92 #[.pointer (some ⟨b,0,none⟩),.int .i64 shape] W fun en W'=>en = .returned (.tuple #[])/\Does B s b g W (As.directive (sl s) shape st) W':=by
 rcases (show shape=15\/shape=16\/shape=17\/shape=18\/shape=19 by omega) with rfl | rfl | rfl | rfl | rfl
 ·have HW:=hid h;have c:=hid (ylC B s b g st W h);have RS:=hid (show As.directive (sl s) 15 st=As.fE st from rfl);generalize As.directive (sl s) 15 st=X at *;clear h h1 h2;go_enter Tryz.func92,Tryz.ntmps92;go_wp2_with fail;refine c.o.mono ?_;rintro e VF ⟨rfl,hh⟩;have DF:=hid (hh.does HW.o);clear hh c;go_wp2
  go_end0
  rw [RS.o];exact ⟨rfl,DF.o⟩
 ·have HW:=hid h;have c:=hid (ypZ B s b g st W h);have RS:=hid (show As.directive (sl s) 16 st=As.word (sl s) st from rfl);generalize As.directive (sl s) 16 st=X at *;clear h h1 h2;go_enter Tryz.func92,Tryz.ntmps92;go_wp2_with fail;refine c.o.mono ?_;rintro e VF ⟨rfl,hh⟩;have DF:=hid hh;clear hh c;go_wp2
  go_end0
  rw [RS.o];exact ⟨rfl,DF.o⟩
 ·have HW:=hid h;have c:=hid (yoD B s b g st W h);have RS:=hid (show As.directive (sl s) 17 st=As.space (sl s) st from rfl);generalize As.directive (sl s) 17 st=X at *;clear h h1 h2;go_enter Tryz.func92,Tryz.ntmps92;go_wp2_with fail;refine c.o.mono ?_;rintro e VF ⟨rfl,hh⟩;have DF:=hid hh;clear hh c;go_wp2
  go_end0
  rw [RS.o];exact ⟨rfl,DF.o⟩
 ·have HW:=hid h;have c:=hid (ynA B s b g st W h);have RS:=hid (show As.directive (sl s) 18 st=As.align (sl s) st from rfl);generalize As.directive (sl s) 18 st=X at *;clear h h1 h2;go_enter Tryz.func92,Tryz.ntmps92;go_wp2_with fail;refine c.o.mono ?_;rintro e VF ⟨rfl,hh⟩;have DF:=hid hh;clear hh c;go_wp2
  go_end0
  rw [RS.o];exact ⟨rfl,DF.o⟩
 ·have HW:=hid h;have c:=hid (ykV B s b g st W h);have RS:=hid (show As.directive (sl s) 19 st=As.binding (sl s) st from rfl);generalize As.directive (sl s) 19 st=X at *;clear h h1 h2;go_enter Tryz.func92,Tryz.ntmps92;go_wp2_with fail;refine c.o.mono ?_;rintro e VF ⟨rfl,hh⟩;have DF:=hid hh;clear hh c;go_wp2
  go_end0
  rw [RS.o];exact ⟨rfl,DF.o⟩
end Go.Proofs.YtpgklkhgfcjceaaGreatDoor
