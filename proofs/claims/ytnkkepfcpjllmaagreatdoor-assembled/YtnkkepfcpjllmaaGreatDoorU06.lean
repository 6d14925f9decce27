
import Derived.Test.YtnkkepfcpjllmaaGreatDoorU05
set_option maxHeartbeats 16000000
set_option maxRecDepth 100000
namespace Go.Proofs.YtnkkepfcpjllmaaGreatDoor
open Go.RowKit
theorem yd.iX {W:World} {g:Nat} {cs:Array Value} {t:TypeId} (h:yd W g cs t):yd W.drew g cs t:=h
theorem wR.begin {s:ByteArray} {b:Nat} {tail:List Value} {p:Nat} {w:World} (h:fG s b tail p w):wR s b tail w p ((w.alloc (.cells #[.int .i64 0,.int .i64 0,.string ⟨#[]⟩,.int .i64 0] 62)).alloc (.cells #[.int .i64 0,.int .i64 0,.string ⟨#[]⟩] 27)):=by
 refine ⟨(yd.new w _ _).grown (aW _ _ none) (by simp),?_,(h.grown (aW _ _ none)).grown (aW _ _ none),ya (aW _ _ _) (aW _ _ _)⟩
 have:=yd.new (w.alloc (.cells #[.int .i64 0,.int .i64 0,.string ⟨#[]⟩,.int .i64 0] 62)) #[.int .i64 0,.int .i64 0,.string ⟨#[]⟩] 27
 rw [show (w.alloc (.cells #[.int .i64 0,.int .i64 0,.string ⟨#[]⟩,.int .i64 0] 62)).heap.size=w.heap.size+1 by simp] at this;exact this
theorem wR.call {s:ByteArray} {b:Nat} {tail:List Value} {w:World} {k k':Nat} {W W':World} (h:wR s b tail w k W) (hb:b < w.heap.size) (hsc:fG s b tail k' W') (hg:W.grownBy W' (some b)):wR s b tail w k' W' :=
 ⟨h.t.grown hg (by simp; omega),h.f.grown hg (by simp; omega),hsc,ya h.gr hg⟩
theorem yjY (s:ByteArray) (b:Nat) (tail:List Value) (p:Nat) (w:World) (h:fG s b tail p w) (hs:s.size<=1000) (hp:p<=s.size) :
  Calls Tryz.prog 58 #[.pointer (some ⟨b,0,none⟩)] w fun e w'=>e = .returned (rE (As.next (sl s) p))/\fG s b tail (As.next (sl s) p).2.2 w'/\w.grownBy w' (some b):=by
 have hbl:=yd.lt h;have B0:=hid (wR.begin h);have RJ:As.skip As.blank (sl s) p<=s.size:=by have:=kH (f:=As.blank) (s:=sl s) (k:=p) (by rw [yx]; exact hp); rw [yx] at this; exact this
 have cB:=hid (fun W hW=>ygb s b tail p W hW hs hp);have RR:=hid (show As.next (sl s) p=As.gN (sl s) (As.skip As.blank (sl s) p) from rfl);clear h;generalize As.next (sl s) p=R at *;generalize As.skip As.blank (sl s) p=q at *;have cE:=hid (fun W hW=>yiZ s b tail q W hW hs RJ);have cN:=hid (fun W hW=>yhU s b tail q W hW hs RJ);have cW:=hid (fun W hW=>yhy s b tail q W hW hs RJ);go_enter Tryz.func58,Tryz.ntmps58;go_wp2_with fail;refine Calls.fO (wR s b tail w p) B0.o ?_;clear B0;intro V h0;refine (cB.o V h0.sc).mono ?_;rintro e V1 ⟨rfl,hsc,hg⟩;have H1:=hid (h0.call hbl hsc hg);clear h0 hsc hg cB V
 have c1:=H1.o.sc.c1;go_wp2_with fail;refine (cE.o V1 H1.o.sc).mono ?_;rintro e V2 ⟨rfl,nn,rfl⟩;have H2:=hid (H1.o.drewN nn);clear H1 cE c1;generalize V1.drewN nn=V2 at *;by_cases hlt:q < s.size
 ·have GQ:=hid (show (sl s)[q]?=some (s[q]'hlt) from by rw [kg (by rw [yx]; exact hlt)]; rfl);have Cg:=hid (show R=(if As.ends (s[q]'hlt) then (⟨4,q,[],0⟩,(0,0),q) else if As.aK (s[q]'hlt) then As.gU (sl s) q else if As.aI (s[q]'hlt) then (⟨1,q,((sl s).drop q).takeWhile As.aI,0⟩,(0,0),As.skip As.aI (sl s) q) else if As.gG (s[q]'hlt) then (⟨3,q,[s[q]'hlt],0⟩,(0,0),q+1) else (As.Tok.nil,(2,q),q)) from by
   rw [RR.o]; unfold As.gN; rw [GQ.o])
  rw [show ((sl s)[q]?.map As.ends).getD true=As.ends (s[q]'hlt) from by rw [GQ.o]; rfl];clear RR GQ
  cases hE:As.ends (s[q]'hlt)
  ·simp only [hE,Bool.false_eq_true,if_false] at Cg;clear hE;have c0:=H2.o.sc.c0;have c1:=H2.o.sc.c1;have f1:=H2.o.sc.f1;have t0:=H2.o.t.cell 0;have t1:=H2.o.t.cell 1;have t2:=H2.o.t.cell 2;have t3:=H2.o.t.cell 3;have v0:=H2.o.t.free 0;have v1:=H2.o.t.free 1;have v2:=H2.o.t.free 2;have v3:=H2.o.t.free 3;have x0:=H2.o.f.cell 0;have x1:=H2.o.f.cell 1;have x2:=H2.o.f.cell 2;have y0:=H2.o.f.free 0;have y1:=H2.o.f.free 1;have y2:=H2.o.f.free 2;simp only [bB,yml,bf] at t0 t1 t2 t3 x0 x1 x2;have g1:(0:Int)<=(q:Int):=by omega
   have g2:(q:Int) < (s.size:Int):=by omega
   have cD:=hid (fun W=>Qg (s[q]'hlt) W);have cI:=hid (fun W=>Ua (s[q]'hlt) W);have cS:=hid (fun W=>yiC (s[q]'hlt) W);go_wp2_with fail;refine (cD.o _).mono ?_;rintro e w1 ⟨rfl,rfl⟩;clear cD
   cases hD:As.aK (s[q]'hlt)
   ·simp only [hD,Bool.false_eq_true,if_false] at Cg;clear hD;go_wp2_with fail;refine (cI.o _).mono ?_;rintro e w1 ⟨rfl,rfl⟩;clear cI
    cases hI:As.aI (s[q]'hlt)
    ·simp only [hI,Bool.false_eq_true,if_false] at Cg;clear hI;go_wp2_with fail;refine (cS.o _).mono ?_;rintro e w1 ⟨rfl,rfl⟩;clear cS
     cases hS:As.gG (s[q]'hlt)
     ·simp only [hS,Bool.false_eq_true,if_false] at Cg;clear hS;have RF:=hid Cg.o;go_wp2;have F:=H2.o.put hbl (.int .i64 0) (.int .i64 0) (.string ⟨#[]⟩) (.int .i64 0) (.int .i64 2) (.int .i64 q) (.string ⟨#[]⟩);have e0:=F.1.cell 0;have e1:=F.1.cell 1;have e2:=F.1.cell 2;have e3:=F.1.cell 3;have h0:=F.2.1.cell 0;have h1:=F.2.1.cell 1;have h2:=F.2.1.cell 2;simp only [bB,yml,bf] at e0 e1 e2 e3 h0 h1 h2;refine bodyPost_ret (v:=rE R) ?_ rfl ⟨rfl,by rw [RF.o]; exact F.2.2.1,F.2.2.2⟩;rw [RF.o];clear F t0 t1 t2 t3 v0 v1 v2 v3 x0 x1 x2 y0 y1 y2 H2;simp only [sets,jA,jE] at e0 e1 e2 e3 h0 h1 h2;generalize World.setCell _ _ _=WF at *
      simp [results,Tryz.results58,go_sem,rE,tokA,pU,As.Tok.nil,bs,e0,e1,e2,e3,h0,h1,h2]
     ·simp only [hS,if_true] at Cg;clear hS;have RF:=hid Cg.o;have EX:=hid (show s.extract q (q+1)=bs [s[q]'hlt] from by rw [KD,Nat.add_sub_cancel_left]; exact congrArg bs (by rw [Js (by rw [yx]; exact hlt)]; rfl));have g3:(q:Int)+1<=(s.size:Int):=by omega
      have g4:(q:Int)<=(q:Int)+1:=by omega
      go_wp2
      go_region
      go_wp2;rw [EX.o];have F:=(show wR s b tail w (q+1) (w1.setCell ⟨b,1,none⟩ (.int .i64 ((q:Int)+1))) from H2.o.step hbl (q+1)).put hbl (.int .i64 3) (.int .i64 q) (.string (bs [s[q]'hlt])) (.int .i64 0) (.int .i64 0) (.int .i64 0) (.string ⟨#[]⟩);have e0:=F.1.iX.cell 0;have e1:=F.1.iX.cell 1;have e2:=F.1.iX.cell 2;have e3:=F.1.iX.cell 3;have h0:=F.2.1.iX.cell 0;have h1:=F.2.1.iX.cell 1;have h2:=F.2.1.iX.cell 2;simp only [bB,yml,bf] at e0 e1 e2 e3 h0 h1 h2;refine bodyPost_ret (v:=rE R) ?_ rfl ⟨rfl,by rw [RF.o]; exact yd.iX F.2.2.1,yg F.2.2.2⟩;rw [RF.o];clear F t0 t1 t2 t3 v0 v1 v2 v3 x0 x1 x2 y0 y1 y2 H2
      simp only [sets,jA,jE] at e0 e1 e2 e3 h0 h1 h2;generalize World.drew _=WF at *;simp [results,Tryz.results58,go_sem,rE,tokA,pU,e0,e1,e2,e3,h0,h1,h2]
    ·simp only [hI,if_true] at Cg;clear hI;have RF:=hid Cg.o;have hr:=kH (f:=As.aI) (s:=sl s) (k:=q) (by rw [yx]; omega);rw [yx] at hr;have hr2:=IJ As.aI (sl s) q;have EX:=hid (show s.extract q (As.skip As.aI (sl s) q)=bs (((sl s).drop q).takeWhile As.aI) from by
      rw [KD];unfold As.skip;rw [Nat.add_sub_cancel_left];exact congrArg bs (List.prefix_iff_eq_take.1 (List.takeWhile_prefix As.aI)).symm)
     clear t0 t1 t2 t3 v0 v1 v2 v3 x0 x1 x2 y0 y1 y2 c0 c1 f1;go_wp2_with fail;refine (cW.o _ H2.o.sc).mono ?_;rintro e V3 ⟨rfl,hsc,hg⟩;have H3:=hid (H2.o.call hbl hsc hg);clear hsc hg cW H2;generalize As.skip As.aI (sl s) q=r at *;generalize ((sl s).drop q).takeWhile As.aI=tx at *;have g3:(q:Int)<=(r:Int):=by omega
     have g4:(r:Int)<=(s.size:Int):=by omega
     have c0:=H3.o.sc.c0;have c1:=H3.o.sc.c1;have f1:=H3.o.sc.f1;have t0:=H3.o.t.cell 0;have t1:=H3.o.t.cell 1;have t2:=H3.o.t.cell 2;have t3:=H3.o.t.cell 3;have v0:=H3.o.t.free 0;have v1:=H3.o.t.free 1;have v2:=H3.o.t.free 2;have v3:=H3.o.t.free 3;have x0:=H3.o.f.cell 0;have x1:=H3.o.f.cell 1;have x2:=H3.o.f.cell 2;have y0:=H3.o.f.free 0;have y1:=H3.o.f.free 1;have y2:=H3.o.f.free 2;simp only [bB,yml,bf] at t0 t1 t2 t3 x0 x1 x2;go_wp2
     go_region
     go_wp2;rw [EX.o];have F:=H3.o.put hbl (.int .i64 1) (.int .i64 q) (.string (bs tx)) (.int .i64 0) (.int .i64 0) (.int .i64 0) (.string ⟨#[]⟩);have e0:=F.1.iX.cell 0;have e1:=F.1.iX.cell 1;have e2:=F.1.iX.cell 2;have e3:=F.1.iX.cell 3;have h0:=F.2.1.iX.cell 0;have h1:=F.2.1.iX.cell 1;have h2:=F.2.1.iX.cell 2;simp only [bB,yml,bf] at e0 e1 e2 e3 h0 h1 h2;refine bodyPost_ret (v:=rE R) ?_ rfl ⟨rfl,by rw [RF.o]; exact yd.iX F.2.2.1,yg F.2.2.2⟩;rw [RF.o];clear F t0 t1 t2 t3 v0 v1 v2 v3 x0 x1 x2 y0 y1 y2 H3;simp only [sets,jA,jE] at e0 e1 e2 e3 h0 h1 h2;generalize World.drew _=WF at *;simp [results,Tryz.results58,go_sem,rE,tokA,pU,e0,e1,e2,e3,h0,h1,h2]
   ·simp only [hD,if_true] at Cg;clear hD;have RF:=hid Cg.o;clear t0 t1 t2 t3 v0 v1 v2 v3 x0 x1 x2 y0 y1 y2 c0 c1 f1;go_wp2_with fail;refine (cN.o _ H2.o.sc).mono ?_;rintro e V3 ⟨rfl,hsc,hg⟩;have H3:=hid (H2.o.call hbl hsc hg);clear hsc hg cN H2;generalize As.gU (sl s) q=R3 at *;obtain ⟨⟨kk,pp,tt,nn⟩,⟨fe,fa⟩,rr⟩:=R3;simp only [rE,tokA,pU];have c0:=H3.o.sc.c0;have c1:=H3.o.sc.c1;have f1:=H3.o.sc.f1;have t0:=H3.o.t.cell 0;have t1:=H3.o.t.cell 1;have t2:=H3.o.t.cell 2;have t3:=H3.o.t.cell 3;have v0:=H3.o.t.free 0;have v1:=H3.o.t.free 1;have v2:=H3.o.t.free 2;have v3:=H3.o.t.free 3;have x0:=H3.o.f.cell 0
    have x1:=H3.o.f.cell 1;have x2:=H3.o.f.cell 2;have y0:=H3.o.f.free 0;have y1:=H3.o.f.free 1;have y2:=H3.o.f.free 2;simp only [bB,yml,bf] at t0 t1 t2 t3 x0 x1 x2;go_wp2;have F:=H3.o.put hbl (.int .i64 kk) (.int .i64 pp) (.string (bs tt)) (.int .i64 nn) (.int .i64 fe) (.int .i64 fa) (.string ⟨#[]⟩);have e0:=F.1.cell 0;have e1:=F.1.cell 1;have e2:=F.1.cell 2;have e3:=F.1.cell 3;have h0:=F.2.1.cell 0;have h1:=F.2.1.cell 1;have h2:=F.2.1.cell 2;simp only [bB,yml,bf] at e0 e1 e2 e3 h0 h1 h2;refine bodyPost_ret (v:=rE R) ?_ rfl ⟨rfl,by rw [RF.o]; exact F.2.2.1,F.2.2.2⟩;rw [RF.o];clear F t0 t1 t2 t3 v0 v1 v2 v3 x0 x1 x2 y0 y1 y2 H3
    simp only [sets,jA,jE] at e0 e1 e2 e3 h0 h1 h2;generalize World.setCell _ _ _=WF at *;simp [results,Tryz.results58,go_sem,rE,tokA,pU,e0,e1,e2,e3,h0,h1,h2]
  ·simp only [hE,if_true] at Cg;clear hE;have RF:=hid Cg.o;have c0:=H2.o.sc.c0;have c1:=H2.o.sc.c1;have f1:=H2.o.sc.f1;have t0:=H2.o.t.cell 0;have t1:=H2.o.t.cell 1;have t2:=H2.o.t.cell 2;have t3:=H2.o.t.cell 3;have v0:=H2.o.t.free 0;have v1:=H2.o.t.free 1;have v2:=H2.o.t.free 2;have v3:=H2.o.t.free 3;have x0:=H2.o.f.cell 0;have x1:=H2.o.f.cell 1;have x2:=H2.o.f.cell 2;have y0:=H2.o.f.free 0;have y1:=H2.o.f.free 1;have y2:=H2.o.f.free 2;simp only [bB,yml,bf] at t0 t1 t2 t3 x0 x1 x2;go_wp2;have F:=H2.o.put hbl (.int .i64 4) (.int .i64 q) (.string ⟨#[]⟩) (.int .i64 0) (.int .i64 0) (.int .i64 0) (.string ⟨#[]⟩)
   have e0:=F.1.cell 0;have e1:=F.1.cell 1;have e2:=F.1.cell 2;have e3:=F.1.cell 3;have h0:=F.2.1.cell 0;have h1:=F.2.1.cell 1;have h2:=F.2.1.cell 2;simp only [bB,yml,bf] at e0 e1 e2 e3 h0 h1 h2;refine bodyPost_ret (v:=rE R) ?_ rfl ⟨rfl,by rw [RF.o]; exact F.2.2.1,F.2.2.2⟩;rw [RF.o];clear F t0 t1 t2 t3 v0 v1 v2 v3 x0 x1 x2 y0 y1 y2 H2;simp only [sets,jA,jE] at e0 e1 e2 e3 h0 h1 h2;generalize World.setCell _ _ _=WF at *;simp [results,Tryz.results58,go_sem,rE,tokA,pU,bs,e0,e1,e2,e3,h0,h1,h2]
 ·have RF:=hid (show R=(⟨4,q,[],0⟩,(0,0),q) from by rw [RR.o]; unfold As.gN; rw [List.getElem?_eq_none (by rw [yx]; omega)]);rw [show ((sl s)[q]?.map As.ends).getD true=true from by rw [List.getElem?_eq_none (by rw [yx]; omega)]; rfl];have c0:=H2.o.sc.c0;have c1:=H2.o.sc.c1;have f1:=H2.o.sc.f1;have t0:=H2.o.t.cell 0;have t1:=H2.o.t.cell 1;have t2:=H2.o.t.cell 2;have t3:=H2.o.t.cell 3;have v0:=H2.o.t.free 0;have v1:=H2.o.t.free 1;have v2:=H2.o.t.free 2;have v3:=H2.o.t.free 3;have x0:=H2.o.f.cell 0;have x1:=H2.o.f.cell 1;have x2:=H2.o.f.cell 2;have y0:=H2.o.f.free 0;have y1:=H2.o.f.free 1;have y2:=H2.o.f.free 2
  simp only [bB,yml,bf] at t0 t1 t2 t3 x0 x1 x2;go_wp2;have F:=H2.o.put hbl (.int .i64 4) (.int .i64 q) (.string ⟨#[]⟩) (.int .i64 0) (.int .i64 0) (.int .i64 0) (.string ⟨#[]⟩);have e0:=F.1.cell 0;have e1:=F.1.cell 1;have e2:=F.1.cell 2;have e3:=F.1.cell 3;have h0:=F.2.1.cell 0;have h1:=F.2.1.cell 1;have h2:=F.2.1.cell 2;simp only [bB,yml,bf] at e0 e1 e2 e3 h0 h1 h2;refine bodyPost_ret (v:=rE R) ?_ rfl ⟨rfl,by rw [RF.o]; exact F.2.2.1,F.2.2.2⟩;rw [RF.o];clear F t0 t1 t2 t3 v0 v1 v2 v3 x0 x1 x2 y0 y1 y2 H2;simp only [sets,jA,jE] at e0 e1 e2 e3 h0 h1 h2;generalize World.setCell _ _ _=WF at *;simp [results,Tryz.results58,go_sem,rE,tokA,pU,bs,e0,e1,e2,e3,h0,h1,h2]
theorem yhR (s:ByteArray) (b:Nat) (tail:List Value) (p:Nat) (w:World) (h:fG s b tail p w) (hs:s.size<=1000) (hp:p<=s.size) :
  Calls Tryz.prog 39 #[.pointer (some ⟨b,0,none⟩)] w fun e w'=>e = .returned (.bool (As.lineEnd (sl s) p).1)/\fG s b tail (As.lineEnd (sl s) p).2 w'/\w.grownBy w' (some b):=by
 have H:=hid h;clear h;have SL:=hid (yx s);go_enter Tryz.func39,Tryz.ntmps39;go_wp2
 go_loopw [] (fun wr=>∃ k:Nat,k<=s.size/\fG s b tail k wr/\As.skip As.bF (sl s) k=As.skip As.bF (sl s) p/\w.grownBy wr (some b)) (fun wr=>s.size - F8 b wr)
 case atStart=>exact ⟨p,hp,H.o,rfl,World.grownBy.refl _ _⟩
 case round =>
  obtain ⟨k,hk,hsc,hsk,hgr⟩:=hrel;have c0:=hsc.c0;have c1:=hsc.c1;have f1:=hsc.f1;have HS:=hid hsc;have HK:=hid hsk;have HG:=hid hgr;clear hsc hsk hgr;by_cases hlt:k < s.size
  ·have d:decide ((k:Int) < (s.size:Int))=true:=by simp; omega
   have g1:(0:Int)<=(k:Int):=by omega
   have g2:(k:Int) < (s.size:Int):=by omega
   have HL:=hid (show k < (sl s).length by rw [SL.o]; exact hlt);have GET:=hid (LK s k hlt);by_cases e1:(s[k]'hlt).toNat=10
   ·have d1:(((s[k]'hlt).toNat:Int) == 10)=true:=by simp; omega
    have d2:(((s[k]'hlt).toNat:Int) != 10)=false:=by simp; omega
    have d3:decide ((s.size:Int)<=(k:Int))=false:=by simp; omega
    have E:=hid (LH (f:=As.bF) HL.o (by rw [GET.o]; unfold As.bF; rw [e1]; rfl));clear e1;go_wp2
    go_quiet (fail)
    go_wp2
    go_quiet (fail)
    go_wp2;go_ret;have F:As.lineEnd (sl s) p=(true,k+1):=by unfold As.lineEnd; rw [<- HK.o,E.o,if_pos HL.o]
    rw [F];exact ⟨rfl,HS.o.step _ (k+1),OG HG.o _ _⟩
   ·have d1:(((s[k]'hlt).toNat:Int) == 10)=false:=by simp; omega
    have d2:(((s[k]'hlt).toNat:Int) != 10)=true:=by simp; omega
    have E:=hid (KF (f:=As.bF) HL.o (by rw [GET.o]; unfold As.bF; rw [beq_eq_false_iff_ne.2 e1]; rfl));clear e1;go_wp2
    go_quiet (fail)
    go_wp2
    go_roundw
    case rel=>exact ⟨k+1,by omega,HS.o.step _ (k+1),by rw [<- E.o,HK.o],OG HG.o _ _⟩
    case measure=>exact Oy HS.o _ hlt
  ·have d:decide ((k:Int) < (s.size:Int))=false:=by simp; omega
   have d3:decide ((s.size:Int)<=(k:Int))=true:=by simp; omega
   have E:=hid (Ls (f:=As.bF) (s:=sl s) (k:=k) (by rw [SL.o]; omega));go_wp2
   go_quiet (fail)
   go_wp2
   go_quiet (fail)
   go_wp2;go_ret;have F:As.lineEnd (sl s) p=(false,k):=by unfold As.lineEnd; rw [<- HK.o,E.o,if_neg (by rw [SL.o]; exact hlt)]
   rw [F];exact ⟨rfl,(HS.o.drewN _).drewN _,yc (yc HG.o _) _⟩
theorem yjk (s:ByteArray) (q:Nat) (hs:s.size<=1000) (hq:q<=s.size):Aw (As.gN (sl s) q).1/\(As.gN (sl s) q).2.1.1<=99/\(As.gN (sl s) q).2.1.2<=1000/\(As.gN (sl s) q).2.2<=s.size/\q<=(As.gN (sl s) q).2.2:=by
 have tok0:=LJ;by_cases hlt:q < s.size
 ·have e:(sl s)[q]?=some (s[q]'hlt):=by rw [kg (by rw [yx]; exact hlt)]; rfl
  have hlen:∀ f:UInt8->Bool,(((sl s).drop q).takeWhile f).length<=1000:=fun f=>by
   have h1:=(List.takeWhile_prefix f (l:=(sl s).drop q)).length_le;rw [List.length_drop,yx] at h1;omega
  have hsk:∀ f:UInt8->Bool,As.skip f (sl s) q<=s.size:=fun f=>by
   have:=kH (f:=f) (s:=sl s) (k:=q) (by rw [yx]; omega)
   rw [yx] at this;exact this
  unfold As.gN;rw [e];simp only;split
  ·exact ⟨⟨by simp,by simp; omega,by simp,by simp⟩,by simp,by simp,hq,Nat.le_refl _⟩
  split
  ·obtain ⟨w1,w2,w3,w4⟩:=PO As.aK s q hq _ rfl;unfold As.gU;split
   ·exact ⟨tok0,by simp,by simp; omega,by simp; omega,by simp⟩
   split
   ·exact ⟨tok0,by simp,by have:=hsk As.aK; simp; omega,hsk _,IJ _ _ _⟩
   ·refine ⟨⟨by simp,by simp; omega,hlen _,?_⟩,by simp,by simp,hsk _,IJ _ _ _⟩
    have:=Qs _ w1 10 (by omega)
    rw [List.take_of_length_le (by omega)] at this;exact this
  split
  ·exact ⟨⟨by simp,by simp; omega,hlen _,by simp⟩,by simp,by simp,hsk _,IJ _ _ _⟩
  split
  ·exact ⟨⟨by simp,by simp; omega,by simp,by simp⟩,by simp,by simp,by simp; omega,by simp⟩
  ·exact ⟨tok0,by simp,by simp; omega,hq,Nat.le_refl _⟩
 ·have e:(sl s)[q]?=none:=List.getElem?_eq_none (by rw [yx]; omega);unfold As.gN;rw [e];exact ⟨⟨by simp,by simp; omega,by simp,by simp⟩,by simp,by simp,hq,Nat.le_refl _⟩
theorem ykL (s:ByteArray) (p:Nat) (hs:s.size<=1000) (hp:p<=s.size):Aw (As.next (sl s) p).1/\(As.next (sl s) p).2.1.1<=99/\(As.next (sl s) p).2.1.2<=1000/\(As.next (sl s) p).2.2<=s.size/\p<=(As.next (sl s) p).2.2:=by
 have hq:=kH (f:=As.blank) (s:=sl s) (k:=p) (by rw [yx]; exact hp);rw [yx] at hq;obtain ⟨a,b,c,d,e⟩:=yjk s (As.skip As.blank (sl s) p) hs hq;have h2:=IJ As.blank (sl s) p;exact ⟨a,b,c,d,Nat.le_trans h2 e⟩
theorem OA (t:As.Tok) (c:List UInt8) (w:World) :
  Calls Tryz.prog 35 #[tokA t,.string (bs c)] w fun e w'=>e = .returned (.bool (t.is c))/\w.grownBy w' none:=by
 obtain ⟨kind,pos,text,n⟩:=t;have E:=hid (show As.Tok.is ⟨kind,pos,text,n⟩ c=(kind == 3 && text == c) from rfl);generalize As.Tok.is ⟨kind,pos,text,n⟩ c=x at *;unfold tokA;simp only;have G:=hid (fun o:Obj=>aW w o none)
 cases hk:(kind == 3)
 ·have d:((kind:Int) == 3)=false:=by simp at hk ⊢; omega
  rw [hk] at E;clear hk;go_enter Tryz.func35,Tryz.ntmps35;go_wp2;go_ret;exact ⟨by rw [E.o]; rfl,G.o _⟩
 ·have d:((kind:Int) == 3)=true:=by simp at hk ⊢; omega
  rw [hk] at E;clear hk
  cases ht:(text == c)
  ·have b1:((bs text).toList == (bs c).toList)=false:=by rw [yA,yA]; exact ht
   rw [ht] at E;clear ht;go_enter Tryz.func35,Tryz.ntmps35;go_wp2;go_ret;exact ⟨by rw [E.o]; rfl,G.o _⟩
  ·have b1:((bs text).toList == (bs c).toList)=true:=by rw [yA,yA]; exact ht
   rw [ht] at E;clear ht;go_enter Tryz.func35,Tryz.ntmps35;go_wp2;go_ret;exact ⟨by rw [E.o]; rfl,G.o _⟩
def Qk (g:Nat) (st:As.St):List Value :=
 [.int .i64 st.tok.kind,.int .i64 st.tok.pos,.string (bs st.tok.text),.int .i64 st.tok.n,.int .i64 st.fe,.int .i64 st.fa,.string ⟨#[]⟩,
  .int .i64 st.op.kind,.int .i64 st.op.pos,.string (bs st.op.text),.int .i64 st.op.n,.int .i64 st.ah,.pointer (some ⟨g,0,none⟩)]
theorem yd.new1 (W:World) (o:Obj) (cs:Array Value) (t:TypeId):yd ((W.alloc o).alloc (.cells cs t)) (W.heap.size+1) cs t:=by
 have:=yd.new (W.alloc o) cs t
 rw [show (W.alloc o).heap.size=W.heap.size+1 by simp] at this;exact this
section
variable {B:Nat} {s:ByteArray} {b g:Nat} {st:As.St} {W W':World}
theorem yl.sc (h:yl B s b g st W):fG s b (Qk g st) st.p W:=h.blk
theorem jH.p' (h:jH s st) (q:Nat) (hq:q<=s.size):jH s { st with p:=q } :=
 ⟨h.size,hq,h.tok,h.fe,h.fa,h.op,h.ah,h.text,h.far,h.data,h.bss,h.align,h.syms,h.aj⟩
theorem yl.scanned (h:yl B s b g st W) {q:Nat} (hsc:fG s b (Qk g st) q W') (hg:W.grownBy W' (some b)) (hq:q<=s.size):kP B s b g W { st with p:=q } W' :=
 ⟨h.put _ hsc hg rfl (h.ok.p' q hq),hg⟩
end
theorem FT (B:Nat) (s:ByteArray) (b g:Nat) (st:As.St) (W:World) (h:yl B s b g st W) :
  Calls Tryz.prog 33 #[.pointer (some ⟨b,0,none⟩)] W fun en W'=>en = .returned (.tuple #[])/\kP B s b g W (As.advance (sl s) st) W':=by
 have cF:=hid (Gi B s b g st W h);have H:=hid h;clear h
 cases hf:As.failed st
 ·have cN:=hid (yjY s b (Qk g st) st.p W H.o.sc H.o.ok.size H.o.ok.p);obtain ⟨o1,o2,o3,o4,-⟩:=ykL s st.p H.o.ok.size H.o.ok.p;have RA:=hid (show As.advance (sl s) st=if (As.next (sl s) st.p).2.1.1 == 0 then { st with p:=(As.next (sl s) st.p).2.2,tok:=(As.next (sl s) st.p).1 } else As.refuse (As.next (sl s) st.p).2.1.1 (As.next (sl s) st.p).2.1.2 { st with p:=(As.next (sl s) st.p).2.2 } from by unfold As.advance; rw [hf]; rfl);generalize As.next (sl s) st.p=R at *;obtain ⟨⟨kk,pp,tt,nn⟩,⟨fe,fa⟩,rr⟩:=R;simp only at o1 o2 o3 o4 RA;rw [hf] at cF;clear hf;go_enter Tryz.func33,Tryz.ntmps33;go_wp2_with fail
  refine cF.o.mono ?_;rintro e w1 ⟨rfl,rfl⟩;clear cF;go_wp2_with fail;refine cN.o.mono ?_;rintro e V ⟨rfl,hsc,hg⟩;simp only [rE,tokA,pU] at hsc ⊢;have hd:kP B s b g w1 { st with p:=rr } V:=H.o.scanned hsc hg o4;clear hsc hg cN H;have HD:=hid hd;have H1:=hid hd.1;clear hd
  cases hz:(fe == 0)
  ·have d:((fe:Int) == 0)=false:=by simp at hz ⊢; omega
   have d':((fe:Int) != 0)=true:=by simp at hz ⊢; omega
   rw [hz] at RA;clear hz;go_wp2_with fail;refine (yM B s b g _ fe fa _ ((HD.o.alloc _).alloc _).1 o2 o3).mono ?_;rintro e V2 ⟨rfl,h2⟩;have HF:=hid (((HD.o.alloc _).alloc _).after h2);clear h2;go_wp2
   (try simp only [Exit.inBlock,Exit.then]); refine bodyPost_ret (results_none rfl _ _ _) rfl ?_
   rw [RA.o];exact ⟨rfl,HF.o⟩
  ·have d:((fe:Int) == 0)=true:=by simp at hz ⊢; omega
   have d':((fe:Int) != 0)=false:=by simp at hz ⊢; omega
   rw [hz] at RA;clear hz;have k2:=H1.o.blk.free 2;have k3:=H1.o.blk.free 3;have k4:=H1.o.blk.free 4;have k5:=H1.o.blk.free 5;have c2:=yP H1.o 2;have c3:=yP H1.o 3;have c4:=yP H1.o 4;have c5:=yP H1.o 5;simp only [yK,bB,yml,bf] at c2 c3 c4 c5;have hbl:=H1.o.blk.lt;have hn1:b≠V.heap.size:=by omega
   have hn2:b≠V.heap.size+1:=by omega
   go_wp2
   go_end0
   rw [RA.o];have F:=HD.o.sets [(2,.int .i64 kk),(3,.int .i64 pp),(4,.string (bs tt)),(5,.int .i64 nn)] { st with p:=rr,tok:=⟨kk,pp,tt,nn⟩ }
    (by simp only [nE,yK,jA,jE,iW,iR,iT]) rfl (H1.o.ok.tok' _ o1 _ _ H1.o.ok.fe H1.o.ok.fa)
   exact ⟨rfl,(F.alloc _).alloc _⟩
 ·have R:=hid (show As.advance (sl s) st=st by unfold As.advance; rw [hf]; rfl);rw [hf] at cF;clear hf;go_enter Tryz.func33,Tryz.ntmps33;go_wp2_with fail;refine cF.o.mono ?_;rintro e w1 ⟨rfl,rfl⟩;go_wp2
  (try simp only [Exit.inBlock,Exit.then]); refine bodyPost_ret (results_none rfl _ _ _) rfl ?_
  rw [R.o];exact ⟨rfl,H.o.kC⟩
theorem Wz (B:Nat) (s:ByteArray) (b g:Nat) (st:As.St) (W:World) (h:yl B s b g st W) :
  Calls Tryz.prog 34 #[.pointer (some ⟨b,0,none⟩)] W fun en W'=>en = .returned (tokA (As.aU (sl s) st).1)/\kP B s b g W (As.aU (sl s) st).2 W':=by
 have H:=hid h;have hbl:=h.blk.lt;have c2:=yP h 2;have c3:=yP h 3;have c4:=yP h 4;have c5:=yP h 5;simp only [yK,bB,yml,bf] at c2 c3 c4 c5;clear h;have hn1:b≠W.heap.size:=by omega
 have hn2:b≠W.heap.size+1:=by omega
 cases hk:(st.tok.kind == 1)
 ·have d:((st.tok.kind:Int) == 1)=false:=by simp at hk ⊢; omega
  have d':((st.tok.kind:Int) != 1)=true:=by simp at hk ⊢; omega
  have R:=hid (show As.aU (sl s) st=(As.Tok.nil,st) by unfold As.aU; rw [hk]; rfl);clear hk;go_enter Tryz.func34,Tryz.ntmps34;go_wp2;have F:=yd.new W #[.int .i64 0,.int .i64 0,.string ⟨#[]⟩,.int .i64 0] 62;have e0:=F.cell 0;have e1:=F.cell 1;have e2:=F.cell 2;have e3:=F.cell 3;simp only [bB,yml,bf] at e0 e1 e2 e3;rw [R.o];refine bodyPost_ret (v:=tokA As.Tok.nil) ?_ rfl ⟨rfl,H.o.kC.alloc _⟩;clear F;generalize World.alloc _ _=WF at *;simp [results,Tryz.results34,go_sem,tokA,As.Tok.nil,bs,e0,e1,e2,e3]
 ·have d:((st.tok.kind:Int) == 1)=true:=by simp at hk ⊢; omega
  have d':((st.tok.kind:Int) != 1)=false:=by simp at hk ⊢; omega
  have R:=hid (show As.aU (sl s) st=(st.tok,As.advance (sl s) st) by unfold As.aU; rw [hk]; rfl);clear hk;go_enter Tryz.func34,Tryz.ntmps34;go_wp2_with fail;refine (FT B s b g st _ ((H.o.kC.alloc _).alloc _).1).mono ?_;rintro e V ⟨rfl,hd⟩;have L1:=hid ((((yd.new W #[.int .i64 0,.int .i64 0,.string ⟨#[]⟩,.int .i64 0] 62).grown (aW _ (.cells #[.int .i64 st.tok.kind,.int .i64 st.tok.pos,.string (bs st.tok.text),.int .i64 st.tok.n] 62) none) (by simp)).grown hd.2 (by simp; omega)));have L2:=hid ((yd.new1 W (.cells #[.int .i64 0,.int .i64 0,.string ⟨#[]⟩,.int .i64 0] 62) #[.int .i64 st.tok.kind,.int .i64 st.tok.pos,.string (bs st.tok.text),.int .i64 st.tok.n] 62).grown hd.2 (by simp; omega))
  have HD:=hid (((H.o.kC.alloc _).alloc _).after hd);clear hd c2 c3 c4 c5;have m0:=L2.o.cell 0;have m1:=L2.o.cell 1;have m2:=L2.o.cell 2;have m3:=L2.o.cell 3;have t0:=L1.o.cell 0;have t1:=L1.o.cell 1;have t2:=L1.o.cell 2;have t3:=L1.o.cell 3;have v0:=L1.o.free 0;have v1:=L1.o.free 1;have v2:=L1.o.free 2;have v3:=L1.o.free 3;simp only [bB,yml,bf] at m0 m1 m2 m3 t0 t1 t2 t3;go_wp2;rw [R.o];have D:=HD.o.local L1.o (by unfold w9; decide) H.o.size (Nat.le_refl _) [(0,.int .i64 st.tok.kind),(1,.int .i64 st.tok.pos),(2,.string (bs st.tok.text)),(3,.int .i64 st.tok.n)];have F:=vG [(0,.int .i64 st.tok.kind),(1,.int .i64 st.tok.pos),(2,.string (bs st.tok.text)),(3,.int .i64 st.tok.n)] L1.o
  have e0:=F.cell 0;have e1:=F.cell 1;have e2:=F.cell 2;have e3:=F.cell 3;simp only [nE,jA,jE,iW,iR,iT,bB,yml,bf] at e0 e1 e2 e3;refine bodyPost_ret (v:=tokA st.tok) ?_ rfl ⟨rfl,D⟩;clear D F t0 t1 t2 t3 v0 v1 v2 v3 m0 m1 m2 m3;simp only [sets,jA,jE] at e0 e1 e2 e3;generalize World.setCell _ _ _=WF at *;simp [results,Tryz.results34,go_sem,tokA,e0,e1,e2,e3]
theorem yhj (s:ByteArray) (w:World) (hs:s.size<=1000) :
  Calls Tryz.prog 96 #[.string s] w fun e w'=>e = .returned (.bool (As.bX (sl s)))/\w'=w:=by
 have HP:=hid (show As.bX (sl s)=(sl s).any (fun c=>c.toNat == 46) from rfl);generalize As.bX (sl s)=x at *;go_enter Tryz.func96,Tryz.ntmps96;go_wp2
 go_loop [3] (fun i=>∃ k:Nat,k<=s.size/\i = .int .i64 k/\∀ j (hj:j < s.size),j < k->(s[j]'hj).toNat≠46) (fun i=>s.size - (intOf i).toNat)
 case atStart=>exact ⟨0,Nat.zero_le _,rfl,fun j _ hj=>absurd hj (Nat.not_lt_zero j)⟩
 case round =>
  obtain ⟨k,hk,rfl,hall⟩:=hrel;have HA:=hid hall;clear hall;by_cases hlt:k < s.size
  ·by_cases e1:(s[k]'hlt).toNat=46
   ·have d1:(((s[k]'hlt).toNat:Int) == 46)=true:=by simp; omega
    have E:=hid (show x=true by rw [HP.o,List.any_eq_true]; exact ⟨s[k]'hlt,by rw [<- LK s k hlt]; exact lM _,by rw [e1]; rfl⟩);clear e1;go_wp2;go_ret;exact ⟨by rw [E.o]; rfl,rfl⟩
   ·have d1:(((s[k]'hlt).toNat:Int) == 46)=false:=by simp; omega
    have E:=hid e1;clear e1;go_wp2
    go_round
    case rel=>exact ⟨k+1,by omega,by go_num,fun j hj hjk=>(Nat.lt_succ_iff_lt_or_eq.1 hjk).elim (fun h=>HA.o j hj h) (fun h=>by subst h; exact E.o)⟩
    case measure=>simp [intOf]; omega
  ·have E:=hid (show x=false from by
    rw [HP.o,List.any_eq_false];intro c hc;obtain ⟨j,hj,rfl⟩:=List.getElem_of_mem hc;have hj':j < s.size:=by rw [yx] at hj; exact hj
    have:=HA.o j hj' (by omega)
    simp only [beq_iff_eq];exact this)
   go_wp2;go_ret;exact ⟨by rw [E.o]; rfl,rfl⟩
theorem yiI (l:List UInt8):As.dY l=if 2<=l.length/\l.length<=3/\(l[0]?.map (·.toNat))=some 120/\¬ ((l[1]?.map (·.toNat))=some 48/\2 < l.length)/\(∀ c∈l.drop 1,As.aK c=true)/\As.dec (l.drop 1)<=31 then some (As.dec (l.drop 1)) else none:=by
 match l with
 | []=>simp [As.dY]
 | [a]=>simp [As.dY]
 | [x,a] =>
  simp only [As.dY,Gn,List.length_nil,bf,Option.map_some,Option.some.injEq,List.drop_succ_cons,List.drop_zero,List.mem_singleton,forall_eq,As.dec,jA,jE];by_cases h:x.toNat=120/\As.aK a=true
  ·have h2:=h.2;unfold As.aK at h2;simp at h2;rw [if_pos h,if_pos ⟨by omega,by omega,h.1,by simp,h.2,by omega⟩];simp
  ·rw [if_neg h,if_neg (fun k=>h ⟨k.2.2.1,k.2.2.2.2.1⟩)]
 | [x,a,b] =>
  simp only [As.dY,Gn,List.length_nil,bf,yml,Option.map_some,Option.some.injEq,List.drop_succ_cons,List.drop_zero,List.mem_cons,List.mem_nil_iff,or_false,forall_eq_or_imp,forall_eq,As.dec,jA,jE];by_cases h:x.toNat=120/\As.aK a=true/\a.toNat≠48/\As.aK b=true/\10 * (a.toNat - 48)+(b.toNat - 48)<=31
  ·rw [if_pos h,if_pos ⟨by omega,by omega,h.1,fun k=>h.2.2.1 k.1,⟨h.2.1,h.2.2.2.1⟩,by omega⟩];simp
  ·rw [if_neg h,if_neg (fun k=>h ⟨k.2.2.1,k.2.2.2.2.1.1,fun e=>k.2.2.2.1 ⟨e,by omega⟩,k.2.2.2.2.1.2,by have:=k.2.2.2.2.2; omega⟩)]
 | a :: b :: c :: d :: l =>
  rw [if_neg (fun k=>by have:=k.2.1; simp at this)];rfl
def Dn (r:Option Nat):Value:=.tuple #[.int .i64 (r.getD 0),.bool r.isSome]
theorem Wp (s:ByteArray) (w:World) (hs:s.size<=1000) :
  Calls Tryz.prog 97 #[.string s] w fun e w'=>e = .returned (Dn (As.dY (sl s)))/\w'=w:=by
 have SP:=hid (yiI (sl s));generalize As.dY (sl s)=R at *;have SL:=hid (yx s);have no:Hd (R=none->Dn R = .tuple #[.int .i64 0,.bool false]):=fun h=>by rw [h]; rfl
 by_cases c1:s.size < 2
 ·have D:decide ((s.size:Int) < 2)=true:=by simp; omega
  have RN:=hid (show R=none by rw [SP.o,if_neg (fun k=>by have:=k.1; rw [SL.o] at this; omega)]);clear c1;go_enter Tryz.func97,Tryz.ntmps97;go_wp2;go_ret2;exact ⟨by rw [no.o RN.o]; rfl,rfl⟩
 by_cases c2:3 < s.size
 ·have D1:decide ((s.size:Int) < 2)=false:=by simp; omega
  have D:decide ((3:Int) < (s.size:Int))=true:=by simp; omega
  have RN:=hid (show R=none by rw [SP.o,if_neg (fun k=>by have:=k.2.1; rw [SL.o] at this; omega)]);clear c1 c2;go_enter Tryz.func97,Tryz.ntmps97;go_wp2;go_ret2;exact ⟨by rw [no.o RN.o]; rfl,rfl⟩
 have D1:decide ((s.size:Int) < 2)=false:=by simp; omega
 have D2:decide ((3:Int) < (s.size:Int))=false:=by simp; omega
 have h0:0 < s.size:=by omega
 have h1:1 < s.size:=by omega
 have g0:(0:Int) < (s.size:Int):=by omega
 have g1:(1:Int) < (s.size:Int):=by omega
 have E0:=hid (show ((sl s)[0]?.map (·.toNat))=some (s[0]'h0).toNat by rw [kg (by rw [SL.o]; exact h0)]; rfl);have E1:=hid (show ((sl s)[1]?.map (·.toNat))=some (s[1]'h1).toNat by rw [kg (by rw [SL.o]; exact h1)]; rfl);by_cases c3:¬ (s[0]'h0).toNat=120
 ·have D3:(((s[0]'h0).toNat:Int) == 120)=false:=by simp; omega
  have D4:(((s[0]'h0).toNat:Int) != 120)=true:=by simp; omega
  have RN:=hid (show R=none by rw [SP.o,if_neg (fun k=>by have:=k.2.2.1; rw [E0.o] at this; exact c3 (Option.some.inj this))]);clear c1 c2 c3;go_enter Tryz.func97,Tryz.ntmps97;go_wp2;go_ret2;exact ⟨by rw [no.o RN.o]; rfl,rfl⟩
 have D3:(((s[0]'h0).toNat:Int) == 120)=true:=by simp; omega
 have D4:(((s[0]'h0).toNat:Int) != 120)=false:=by simp; omega
 have C3:=hid (show (s[0]'h0).toNat=120 by omega);clear c3;by_cases c4:(s[1]'h1).toNat=48/\2 < s.size
 ·have D5:(((s[1]'h1).toNat:Int) == 48)=true:=by simp; omega
  have D6:decide ((2:Int) < (s.size:Int))=true:=by simp; omega
  have RN:=hid (show R=none by rw [SP.o,if_neg (fun k=>k.2.2.2.1 ⟨by rw [E1.o,c4.1],by rw [SL.o]; exact c4.2⟩)]);clear c1 c2 c4;go_enter Tryz.func97,Tryz.ntmps97;go_wp2;go_ret2;exact ⟨by rw [no.o RN.o]; rfl,rfl⟩
 have C4:=hid c4;have DS:=hid (show ((sl s).drop 1).length=s.size - 1 by rw [List.length_drop,SL.o]);have DL:=hid (show ((sl s).drop 1).length<=2 by rw [DS.o]; omega);have DG:=hid (show ∀ j (h:j < ((sl s).drop 1).length) (hk:j+1 < s.size),s[j+1]'hk=((sl s).drop 1)[j] from fun j h hk=>by
  rw [List.getElem_drop]
  have:1+j=j+1:=by omega
  simp only [this];rfl)
 have RS:=hid (show (∀ c∈(sl s).drop 1,As.aK c=true)->As.dec ((sl s).drop 1)<=31->R=some (As.dec ((sl s).drop 1)) from fun a b=>by
  rw [SP.o,if_pos ⟨by rw [SL.o]; omega,by rw [SL.o]; omega,by rw [E0.o,C3.o],fun k=>C4.o ⟨by have:=k.1; rw [E1.o] at this; exact Option.some.inj this,by have:=k.2; rw [SL.o] at this; exact this⟩,a,b⟩])
 have Vq:=hid (show (¬ ∀ c∈(sl s).drop 1,As.aK c=true)->R=none from fun a=>by rw [SP.o,if_neg (fun k=>a k.2.2.2.2.1)]);have Vr:=hid (show (¬ As.dec ((sl s).drop 1)<=31)->R=none from fun a=>by rw [SP.o,if_neg (fun k=>a k.2.2.2.2.2)]);have yes:Hd (∀ r:Nat,R=some r->Dn R = .tuple #[.int .i64 r,.bool true]):=fun r h=>by rw [h]; rfl
 clear SP E0 C3 C4;generalize (sl s).drop 1=ds at *;clear E1;by_cases c5:(s[1]'h1).toNat=48
 ·have D5:(((s[1]'h1).toNat:Int) == 48)=true:=by simp; omega
  have D6:decide ((2:Int) < (s.size:Int))=false:=by simp; omega
  clear c1 c2 c4 c5;go_enter Tryz.func97,Tryz.ntmps97;go_wp2
  go_loop [4,5] (fun r i=>∃ j:Nat,j<=ds.length/\i = .int .i64 (j+1:Nat)/\r = .int .i64 (As.dec (ds.take j))/\∀ c∈ds.take j,As.aK c=true) (fun _ i=>s.size - (intOf i).toNat)
  case atStart=>exact ⟨0,Nat.zero_le _,rfl,rfl,by simp⟩
  case round =>
   obtain ⟨j,hj,rfl,rfl,hall⟩:=hrel;have HA:=hid hall;have hb:=UK (ds.take j) hall;have hl:(ds.take j).length<=2:=by rw [List.length_take]; have:=DL.o; omega
   have hb2:As.dec (ds.take j)<=100:=by
    have h3:10 ^ (ds.take j).length<=10 ^ 2:=Nat.pow_le_pow_right (by decide) hl;omega
   clear hb hl hall;have Jv:=hid (Qc ds j);have QE:=hid (fun h:ds.length<=j=>List.take_of_length_le h);generalize hn:As.dec (ds.take j)=n at *;have HN:=hid hn;clear hn;generalize hm:j+1=m at *;have HM:=hid hm;clear hm;by_cases hlt:m < s.size
   ·have hlt2:(m:Int) < (s.size:Int):=by omega
    have hj2:j < ds.length:=by have:=DS.o; have:=HM.o; omega
    have EG:=hid (show (s[m]'hlt)=ds[j] from by have e:=HM.o; subst e; exact DG.o j hj2 hlt);have cD:=hid (fun W=>Qg (s[m]'hlt) W)
    cases hd:As.aK (s[m]'hlt)
    ·have RN:=hid (Vq.o (fun k=>by have:=k ds[j] (lM hj2); rw [<- EG.o,hd] at this; exact Bool.false_ne_true this));rw [hd] at cD;clear hd;go_wp2_with fail;refine (cD.o _).mono ?_;rintro e w1 ⟨rfl,rfl⟩;go_wp2;go_ret2;exact ⟨by rw [no.o RN.o]; rfl,rfl⟩
    ·have HD:=hid hd;rw [hd] at cD;clear hd;go_wp2_with fail;refine (cD.o _).mono ?_;rintro e w1 ⟨rfl,rfl⟩;go_wp2
     go_round
     case rel =>
      refine ⟨j+1,by omega,by have:=HM.o; go_num,?_,?_⟩
      ·rw [HM.o,Jv.o hj2,<- EG.o]
       have:=HD.o
       unfold As.aK at this;simp at this
       congr 1
       omega
      ·intro c hc;rw [List.take_succ_eq_append_getElem hj2,List.mem_append,List.mem_singleton] at hc;rcases hc with hc | rfl
       ·exact HA.o c hc
       ·rw [<- EG.o]; exact HD.o
     case measure=>simp [intOf]; omega
   ·have hlt2:(s.size:Int)<=(m:Int):=by omega
    have hj2:ds.length<=j:=by have:=DS.o; have:=HM.o; omega
    have ED:=hid (show ds.take j=ds from QE.o hj2);by_cases h31:n<=31
    ·have D7:decide ((31:Int) < (n:Int))=false:=by simp; omega
     have RY:=hid (yes.o n (by rw [RS.o (by rw [<- ED.o]; exact HA.o) (by rw [<- ED.o,HN.o]; exact h31),<- HN.o,ED.o]));clear h31;go_wp2;go_ret2;exact ⟨by rw [RY.o]; rfl,rfl⟩
    ·have D7:decide ((31:Int) < (n:Int))=true:=by simp; omega
     have RN:=hid (Vr.o (by rw [<- ED.o,HN.o]; exact h31));clear h31;go_wp2;go_ret2;exact ⟨by rw [no.o RN.o]; rfl,rfl⟩
 ·have D5:(((s[1]'h1).toNat:Int) == 48)=false:=by simp; omega
  clear c1 c2 c4 c5;go_enter Tryz.func97,Tryz.ntmps97;go_wp2
  go_loop [4,5] (fun r i=>∃ j:Nat,j<=ds.length/\i = .int .i64 (j+1:Nat)/\r = .int .i64 (As.dec (ds.take j))/\∀ c∈ds.take j,As.aK c=true) (fun _ i=>s.size - (intOf i).toNat)
  case atStart=>exact ⟨0,Nat.zero_le _,rfl,rfl,by simp⟩
  case round =>
   obtain ⟨j,hj,rfl,rfl,hall⟩:=hrel;have HA:=hid hall;have hb:=UK (ds.take j) hall;have hl:(ds.take j).length<=2:=by rw [List.length_take]; have:=DL.o; omega
   have hb2:As.dec (ds.take j)<=100:=by
    have h3:10 ^ (ds.take j).length<=10 ^ 2:=Nat.pow_le_pow_right (by decide) hl;omega
   clear hb hl hall;have Jv:=hid (Qc ds j);have QE:=hid (fun h:ds.length<=j=>List.take_of_length_le h);generalize hn:As.dec (ds.take j)=n at *;have HN:=hid hn;clear hn;generalize hm:j+1=m at *;have HM:=hid hm;clear hm;by_cases hlt:m < s.size
   ·have hlt2:(m:Int) < (s.size:Int):=by omega
    have hj2:j < ds.length:=by have:=DS.o; have:=HM.o; omega
    have EG:=hid (show (s[m]'hlt)=ds[j] from by have e:=HM.o; subst e; exact DG.o j hj2 hlt);have cD:=hid (fun W=>Qg (s[m]'hlt) W)
    cases hd:As.aK (s[m]'hlt)
    ·have RN:=hid (Vq.o (fun k=>by have:=k ds[j] (lM hj2); rw [<- EG.o,hd] at this; exact Bool.false_ne_true this));rw [hd] at cD;clear hd;go_wp2_with fail;refine (cD.o _).mono ?_;rintro e w1 ⟨rfl,rfl⟩;go_wp2;go_ret2;exact ⟨by rw [no.o RN.o]; rfl,rfl⟩
    ·have HD:=hid hd;rw [hd] at cD;clear hd;go_wp2_with fail;refine (cD.o _).mono ?_;rintro e w1 ⟨rfl,rfl⟩;go_wp2
     go_round
     case rel =>
      refine ⟨j+1,by omega,by have:=HM.o; go_num,?_,?_⟩
      ·rw [HM.o,Jv.o hj2,<- EG.o]
       have:=HD.o
       unfold As.aK at this;simp at this
       congr 1
       omega
      ·intro c hc;rw [List.take_succ_eq_append_getElem hj2,List.mem_append,List.mem_singleton] at hc;rcases hc with hc | rfl
       ·exact HA.o c hc
       ·rw [<- EG.o]; exact HD.o
     case measure=>simp [intOf]; omega
   ·have hlt2:(s.size:Int)<=(m:Int):=by omega
    have hj2:ds.length<=j:=by have:=DS.o; have:=HM.o; omega
    have ED:=hid (show ds.take j=ds from QE.o hj2);by_cases h31:n<=31
    ·have D7:decide ((31:Int) < (n:Int))=false:=by simp; omega
     have RY:=hid (yes.o n (by rw [RS.o (by rw [<- ED.o]; exact HA.o) (by rw [<- ED.o,HN.o]; exact h31),<- HN.o,ED.o]));clear h31;go_wp2;go_ret2;exact ⟨by rw [RY.o]; rfl,rfl⟩
    ·have D7:decide ((31:Int) < (n:Int))=true:=by simp; omega
     have RN:=hid (Vr.o (by rw [<- ED.o,HN.o]; exact h31));clear h31;go_wp2;go_ret2;exact ⟨by rw [no.o RN.o]; rfl,rfl⟩
theorem zx {B:Nat} {s:ByteArray} {b g:Nat} {st:As.St} {W:World} (h:yl B s b g st W) :
  W.cell? ⟨b,2,none⟩=some (.int .i64 st.tok.kind)/\W.cell? ⟨b,3,none⟩=some (.int .i64 st.tok.pos)/\W.cell? ⟨b,4,none⟩=some (.string (bs st.tok.text))/\W.cell? ⟨b,5,none⟩=some (.int .i64 st.tok.n):=by
 have c2:=yP h 2;have c3:=yP h 3;have c4:=yP h 4;have c5:=yP h 5;simp only [yK,bB,yml,bf] at c2 c3 c4 c5;exact ⟨c2,c3,c4,c5⟩
theorem ygz (B:Nat) (s:ByteArray) (b g:Nat) (st:As.St) (W:World) (h:yl B s b g st W) :
  Calls Tryz.prog 19 #[.pointer (some ⟨b,0,none⟩)] W fun en W'=>en = .returned (.bool (As.bO (sl s) st).1)/\kP B s b g W (As.bO (sl s) st).2 W':=by
 have cF:=hid (Gi B s b g st W h);have H:=hid h;clear h
 cases hf:As.failed st
 ·have cN:=hid (yhR s b (Qk g st) st.p W H.o.sc H.o.ok.size H.o.ok.p);have o4:(As.lineEnd (sl s) st.p).2<=s.size:=by
   have:=kH (f:=As.bF) (s:=sl s) (k:=st.p) (by rw [yx]; exact H.o.ok.p)
   rw [yx] at this;unfold As.lineEnd;split
   ·rename_i hx;rw [yx] at hx;exact hx
   ·exact this
  have RA:=hid (show As.bO (sl s) st=((As.lineEnd (sl s) st.p).1,{ st with p:=(As.lineEnd (sl s) st.p).2 }) from by unfold As.bO; rw [hf]; rfl);generalize As.bO (sl s) st=X at *;generalize As.lineEnd (sl s) st.p=R at *;rw [hf] at cF;clear hf;go_enter Tryz.func19,Tryz.ntmps19;go_wp2_with fail;refine cF.o.mono ?_;rintro e w1 ⟨rfl,rfl⟩;clear cF;go_wp2_with fail;refine cN.o.mono ?_;rintro e V ⟨rfl,hsc,hg⟩;have HD:=hid (H.o.scanned hsc hg o4);clear hsc hg cN;go_wp2;go_ret;rw [RA.o];exact ⟨rfl,HD.o⟩
 ·have R:=hid (show As.bO (sl s) st=(false,st) by unfold As.bO; rw [hf]; rfl);rw [hf] at cF;clear hf;go_enter Tryz.func19,Tryz.ntmps19;go_wp2_with fail;refine cF.o.mono ?_;rintro e w1 ⟨rfl,rfl⟩;go_wp2;go_ret;rw [R.o];exact ⟨rfl,H.o.kC⟩
theorem za (B:Nat) (s:ByteArray) (b g:Nat) (st:As.St) (c:List UInt8) (W:World) (h:yl B s b g st W) :
  Calls Tryz.prog 129 #[.pointer (some ⟨b,0,none⟩),.string (bs c)] W fun en W'=>en = .returned (.tuple #[])/\kP B s b g W (As.sign (sl s) c st) W':=by
 have H:=hid h;obtain ⟨c2,c3,c4,c5⟩:=zx h;clear h;have cI:=hid (OA st.tok c W);have hpos:=H.o.ok.tok.pos;unfold tokA at cI;have RS:=hid (show As.sign (sl s) c st=if st.tok.is c then As.advance (sl s) st else As.refuse 3 st.tok.pos st from rfl);generalize As.sign (sl s) c st=X at *;go_enter Tryz.func129,Tryz.ntmps129;go_wp2_with fail;refine cI.o.mono ?_;rintro e V ⟨rfl,hg⟩;have HD:=hid (H.o.kC.grown hg);clear hg cI c2 c3 c4 c5;obtain ⟨c2,c3,c4,c5⟩:=zx HD.o.1
 cases hi:st.tok.is c
 ·rw [hi] at RS;clear hi;go_wp2_with fail;refine (yM B s b g st 3 st.tok.pos V HD.o.1 (by omega) hpos).mono ?_;rintro e V2 ⟨rfl,h2⟩;have HF:=hid (HD.o.after h2);clear h2;go_wp2
  (try simp only [Exit.inBlock,Exit.then]); refine bodyPost_ret (results_none rfl _ _ _) rfl ?_
  rw [RS.o];exact ⟨rfl,HF.o⟩
 ·rw [hi] at RS;clear hi;go_wp2_with fail;refine (FT B s b g st V HD.o.1).mono ?_;rintro e V2 ⟨rfl,h2⟩;have HF:=hid (HD.o.after h2);clear h2;go_wp2
  go_end0
  rw [RS.o];exact ⟨rfl,HF.o⟩
theorem yX (B:Nat) (s:ByteArray) (b g:Nat) (st:As.St) (W:World) (h:yl B s b g st W) :
  Calls Tryz.prog 128 #[.pointer (some ⟨b,0,none⟩)] W fun en W'=>en = .returned (.int .i64 (As.register (sl s) st).1)/\kP B s b g W (As.register (sl s) st).2 W':=by
 have H:=hid h;obtain ⟨c2,c3,c4,c5⟩:=zx h;clear h;have hpos:=H.o.ok.tok.pos
 cases hk:(st.tok.kind == 1)
 ·have d:((st.tok.kind:Int) == 1)=false:=by simp at hk ⊢; omega
  have d':((st.tok.kind:Int) != 1)=true:=by simp at hk ⊢; omega
  have RS:=hid (show As.register (sl s) st=(0,As.refuse 3 st.tok.pos st) by unfold As.register; rw [hk]; rfl);generalize As.register (sl s) st=X at *;clear hk;go_enter Tryz.func128,Tryz.ntmps128;go_wp2_with fail;refine (yM B s b g st 3 st.tok.pos W H.o (by omega) hpos).mono ?_;rintro e V2 ⟨rfl,h2⟩;have HF:=hid h2;clear h2;go_wp2;go_ret;rw [RS.o];exact ⟨rfl,HF.o⟩
 ·have d:((st.tok.kind:Int) == 1)=true:=by simp at hk ⊢; omega
  have d':((st.tok.kind:Int) != 1)=false:=by simp at hk ⊢; omega
  have cR:=hid (Wp (bs st.tok.text) W (by rw [zw]; exact H.o.ok.tok.text));rw [OT] at cR;have RS:=hid (show As.register (sl s) st=match As.dY st.tok.text with
   | none=>(0,As.refuse 7 st.tok.pos st)
   | some r=>(r,As.advance (sl s) st) by unfold As.register; rw [hk]; rfl)
  generalize As.register (sl s) st=X at *;clear hk;go_enter Tryz.func128,Tryz.ntmps128;go_wp2_with fail;refine cR.o.mono ?_;rintro e w1 ⟨rfl,rfl⟩
  cases hr:As.dY st.tok.text with
  | none =>
   rw [hr] at RS;clear hr cR;simp only [Dn,Option.getD_none,Option.isSome_none];go_wp2_with fail;refine (yM B s b g st 7 st.tok.pos w1 H.o (by omega) hpos).mono ?_;rintro e V2 ⟨rfl,h2⟩;have HF:=hid h2;clear h2;go_wp2;go_ret;rw [RS.o];exact ⟨rfl,HF.o⟩
  | some r =>
   rw [hr] at RS;clear hr cR;simp only [Dn,Option.getD_some,Option.isSome_some];go_wp2_with fail;refine (FT B s b g st w1 H.o).mono ?_;rintro e V2 ⟨rfl,h2⟩;have HF:=hid h2;clear h2;go_wp2;go_ret;rw [RS.o];exact ⟨rfl,HF.o⟩
def kQ (t:As.Tok):Array Value:=#[.int .i64 t.kind,.int .i64 t.pos,.string (bs t.text),.int .i64 t.n]
structure lX (B:Nat) (s:ByteArray) (b g:Nat) (W:World) (r:Nat) (t:As.Tok) (st:As.St) (V:World):Prop where
 d:kP B s b g W st V
 l:yd V r (kQ t) 62
section
variable {B:Nat} {s:ByteArray} {b g r:Nat} {W V V':World} {t:As.Tok} {st st':As.St}
theorem lX.ne (h:lX B s b g W r t st V):r≠b:=by
 intro e;subst e
 have:=h.l.symm.trans h.d.1.blk
 simp [kQ,yK] at this
theorem lX.step (h:lX B s b g W r t st V) (k:kP B s b g V st' V'):lX B s b g W r t st' V':=⟨h.d.after k,h.l.grown k.2 (by have:=h.ne; simpa using this)⟩
theorem lX.cells (h:lX B s b g W r t st V):V.cell? ⟨r,0,none⟩=some (.int .i64 t.kind)/\V.cell? ⟨r,1,none⟩=some (.int .i64 t.pos)/\V.cell? ⟨r,2,none⟩=some (.string (bs t.text))/\V.cell? ⟨r,3,none⟩=some (.int .i64 t.n):=by
 have c0:=h.l.cell 0;have c1:=h.l.cell 1;have c2:=h.l.cell 2;have c3:=h.l.cell 3;simp only [kQ,bB,yml,bf] at c0 c1 c2 c3;exact ⟨c0,c1,c2,c3⟩
theorem lX.begin (h:yl B s b g st W) (t:As.Tok):lX B s b g W W.heap.size t st (W.alloc (.cells (kQ t) 62)):=⟨h.kC.alloc _,yd.new W _ _⟩
end
theorem WV (B:Nat) (s:ByteArray) (b g:Nat) (st:As.St) (t:As.Tok) (W:World) (h:yl B s b g st W) (ht:Aw t) :
  Calls Tryz.prog 59 #[.pointer (some ⟨b,0,none⟩),tokA t] W fun en W'=>en = .returned (.tuple #[])/\kP B s b g W (As.aP t st) W':=by
 have L0:=hid (lX.begin h t);have hpos:=ht.pos;have htx:(bs t.text).size<=1000:=by rw [zw]; exact ht.text
 have hlen:(bs t.text).size=t.text.length:=zw _;clear h;have RC:=hid (show As.aP t st=As.aJ (As.dY t.text).isSome 7 t.pos (As.aJ (decide (6 < t.text.length)) 4 t.pos (As.aJ (As.bX t.text) 3 t.pos st)) from rfl);generalize As.aP t st=X at *;have cP:=hid (fun V=>yhj (bs t.text) V htx);have cR:=hid (fun V=>Wp (bs t.text) V htx);rw [OT] at cP cR;have ref:Hd (∀ (e:Nat) (x:As.St) V,lX B s b g W W.heap.size t x V->e<=99->Calls Tryz.prog 38 #[.pointer (some ⟨b,0,none⟩),.int .i64 e,.int .i64 t.pos] V fun en W'=>en = .returned (.tuple #[])/\lX B s b g W W.heap.size t (As.refuse e t.pos x) W'):=fun e x V hV he =>
  (yM B s b g x e t.pos V hV.d.1 he hpos).mono fun en W' ⟨h1,h2⟩=>⟨h1,hV.step h2⟩
 unfold tokA;go_enter Tryz.func59,Tryz.ntmps59;go_wp2_with fail;refine Calls.fO (lX B s b g W W.heap.size t st) L0.o ?_;clear L0;generalize W.heap.size=r at *;intro V hV;have L0:=hid hV;clear hV;refine (cP.o _).mono ?_;rintro e w1 ⟨rfl,rfl⟩
 cases hp:As.bX t.text
 ·rw [hp] at RC;clear hp cP;obtain ⟨m0,m1,m2,m3⟩:=L0.o.cells;by_cases c6:6 < t.text.length
  ·have D:decide ((6:Int) < (t.text.length:Int))=true:=by simp; omega
   rw [show decide (6 < t.text.length)=true from by simp; omega] at RC;clear c6;go_wp2_with fail;refine (ref.o 4 _ _ L0.o (by omega)).mono ?_;rintro e V2 ⟨rfl,h2⟩;have L2:=hid h2;clear h2 m0 m1 m2 m3 L0;obtain ⟨m0,m1,m2,m3⟩:=L2.o.cells;go_wp2_with fail;refine (cR.o _).mono ?_;rintro e w1 ⟨rfl,rfl⟩;clear m0 m1 m2 m3
   cases hr:As.dY t.text with
   | none =>
    rw [hr] at RC;clear hr cR;simp only [Dn,Option.getD_none,Option.isSome_none];go_wp2
    go_end0
    rw [RC.o];exact ⟨rfl,L2.o.d⟩
   | some rr =>
    rw [hr] at RC;clear hr cR;simp only [Dn,Option.getD_some,Option.isSome_some];obtain ⟨m0,m1,m2,m3⟩:=L2.o.cells;go_wp2_with fail;refine (ref.o 7 _ _ L2.o (by omega)).mono ?_;rintro e V3 ⟨rfl,h3⟩;have L3:=hid h3;clear h3 m0 m1 m2 m3;go_wp2
    go_end0
    rw [RC.o];exact ⟨rfl,L3.o.d⟩
  ·have D:decide ((6:Int) < (t.text.length:Int))=false:=by simp; omega
   rw [show decide (6 < t.text.length)=false from by simp; omega] at RC;clear c6;go_wp2_with fail;refine (cR.o _).mono ?_;rintro e w1 ⟨rfl,rfl⟩;clear m0 m1 m2 m3
   cases hr:As.dY t.text with
   | none =>
    rw [hr] at RC;clear hr cR;simp only [Dn,Option.getD_none,Option.isSome_none];go_wp2
    go_end0
    rw [RC.o];exact ⟨rfl,L0.o.d⟩
   | some rr =>
    rw [hr] at RC;clear hr cR;simp only [Dn,Option.getD_some,Option.isSome_some];obtain ⟨m0,m1,m2,m3⟩:=L0.o.cells;go_wp2_with fail;refine (ref.o 7 _ _ L0.o (by omega)).mono ?_;rintro e V3 ⟨rfl,h3⟩;have L3:=hid h3;clear h3 m0 m1 m2 m3;go_wp2
    go_end0
    rw [RC.o];exact ⟨rfl,L3.o.d⟩
 ·rw [hp] at RC;clear hp cP;obtain ⟨m0,m1,m2,m3⟩:=L0.o.cells;go_wp2_with fail;refine (ref.o 3 _ _ L0.o (by omega)).mono ?_;rintro e V1 ⟨rfl,h1⟩;have L1:=hid h1;clear h1 m0 m1 m2 m3 L0;obtain ⟨m0,m1,m2,m3⟩:=L1.o.cells;by_cases c6:6 < t.text.length
  ·have D:decide ((6:Int) < (t.text.length:Int))=true:=by simp; omega
   rw [show decide (6 < t.text.length)=true from by simp; omega] at RC;clear c6;go_wp2_with fail;refine (ref.o 4 _ _ L1.o (by omega)).mono ?_;rintro e V2 ⟨rfl,h2⟩;have L2:=hid h2;clear h2 m0 m1 m2 m3 L1;obtain ⟨m0,m1,m2,m3⟩:=L2.o.cells;go_wp2_with fail;refine (cR.o _).mono ?_;rintro e w1 ⟨rfl,rfl⟩;clear m0 m1 m2 m3
   cases hr:As.dY t.text with
   | none =>
    rw [hr] at RC;clear hr cR;simp only [Dn,Option.getD_none,Option.isSome_none];go_wp2
    go_end0
    rw [RC.o];exact ⟨rfl,L2.o.d⟩
   | some rr =>
    rw [hr] at RC;clear hr cR;simp only [Dn,Option.getD_some,Option.isSome_some];obtain ⟨m0,m1,m2,m3⟩:=L2.o.cells;go_wp2_with fail;refine (ref.o 7 _ _ L2.o (by omega)).mono ?_;rintro e V3 ⟨rfl,h3⟩;have L3:=hid h3;clear h3 m0 m1 m2 m3;go_wp2
    go_end0
    rw [RC.o];exact ⟨rfl,L3.o.d⟩
  ·have D:decide ((6:Int) < (t.text.length:Int))=false:=by simp; omega
   rw [show decide (6 < t.text.length)=false from by simp; omega] at RC;clear c6;go_wp2_with fail;refine (cR.o _).mono ?_;rintro e w1 ⟨rfl,rfl⟩;clear m0 m1 m2 m3
   cases hr:As.dY t.text with
   | none =>
    rw [hr] at RC;clear hr cR;simp only [Dn,Option.getD_none,Option.isSome_none];go_wp2
    go_end0
    rw [RC.o];exact ⟨rfl,L1.o.d⟩
   | some rr =>
    rw [hr] at RC;clear hr cR;simp only [Dn,Option.getD_some,Option.isSome_some];obtain ⟨m0,m1,m2,m3⟩:=L1.o.cells;go_wp2_with fail;refine (ref.o 7 _ _ L1.o (by omega)).mono ?_;rintro e V3 ⟨rfl,h3⟩;have L3:=hid h3;clear h3 m0 m1 m2 m3;go_wp2
    go_end0
    rw [RC.o];exact ⟨rfl,L3.o.d⟩
structure Loc (B:Nat) (s:ByteArray) (b g:Nat) (W:World) (ls:List (Nat×Array Value×TypeId)) (st:As.St) (V:World):Prop where
 d:kP B s b g W st V
 l:∀ q∈ls,yd V q.1 q.2.1 q.2.2
 new:∀ q∈ls,W.heap.size<=q.1
 lt:b < W.heap.size
section
variable {B:Nat} {s:ByteArray} {b g r:Nat} {W V V':World} {ls:List (Nat×Array Value×TypeId)} {st st':As.St} {cs:Array Value} {t:TypeId}
theorem Loc.begin (h:yl B s b g st W):Loc B s b g W [] st W:=⟨h.kC,by simp,by simp,h.blk.lt⟩
theorem Loc.alloc (h:Loc B s b g W ls st V) (cs:Array Value) (t:TypeId):Loc B s b g W ((V.heap.size,cs,t) :: ls) st (V.alloc (.cells cs t)):=by
 refine ⟨h.d.alloc _,fun q hq=>?_,fun q hq=>?_,h.lt⟩
 ·rcases List.mem_cons.1 hq with rfl | hq
  ·exact yd.new V cs t
  ·exact (h.l q hq).grown (aW _ _ none) (by simp)
 ·rcases List.mem_cons.1 hq with rfl | hq
  ·exact h.d.2.size
  ·exact h.new q hq
theorem Loc.step (h:Loc B s b g W ls st V) (k:kP B s b g V st' V'):Loc B s b g W ls st' V' :=
 ⟨h.d.after k,fun q hq=>(h.l q hq).grown k.2 (by have:=h.new q hq; have:=h.lt; simp; omega),h.new,h.lt⟩
theorem Loc.grown (h:Loc B s b g W ls st V) (k:V.grownBy V' none):Loc B s b g W ls st V' :=
 ⟨h.d.grown k,fun q hq=>(h.l q hq).grown k (by simp),h.new,h.lt⟩
theorem Loc.put (h:Loc B s b g W ls st V) (hq:(r,cs,t)∈ls) (ht:w9 t) (l:List (Nat×Value)):kP B s b g W st (sets V r l)/\yd (sets V r l) r (nE cs l) t :=
 ⟨h.d.local (h.l _ hq) ht (by have:=h.d.1.lo; have:=h.lt; omega) (h.new _ hq) l,vG l (h.l _ hq)⟩
end
theorem Xu (B:Nat) (s:ByteArray) (b g:Nat) (st:As.St) (W:World) (h:yl B s b g st W) :
  Calls Tryz.prog 153 #[.pointer (some ⟨b,0,none⟩)] W fun en W'=>en = .returned (tokA (As.name (sl s) st).1)/\kP B s b g W (As.name (sl s) st).2 W':=by
 have hpos:=h.ok.tok.pos;have HT:=hid h.ok.tok;have hbl:=h.blk.lt;obtain ⟨c2,c3,c4,c5⟩:=zx h;have L0:=hid (((Loc.begin h).alloc (kQ As.Tok.nil) 62).alloc (kQ st.tok) 62);rw [show (W.alloc (.cells (kQ As.Tok.nil) 62)).heap.size=W.heap.size+1 by simp] at L0;clear h;have hn1:b≠W.heap.size:=by omega
 cases hk:(st.tok.kind == 1)
 ·have d:((st.tok.kind:Int) == 1)=false:=by simp at hk ⊢; omega
  have d':((st.tok.kind:Int) != 1)=true:=by simp at hk ⊢; omega
  have RS:=hid (show As.name (sl s) st=(As.Tok.nil,As.refuse 3 st.tok.pos st) by unfold As.name; rw [hk]; rfl);generalize As.name (sl s) st=X at *;clear hk;go_enter Tryz.func153,Tryz.ntmps153;go_wp2_with fail;refine Calls.fO (Loc B s b g W [(W.heap.size+1,kQ st.tok,62),(W.heap.size,kQ As.Tok.nil,62)] st) L0.o ?_;intro V hV;refine (yM B s b g st 3 st.tok.pos V hV.d.1 (by omega) hpos).mono ?_;rintro e V2 ⟨rfl,h2⟩;have L1:=hid (hV.step h2);clear h2 hV L0 V c2 c3 c4 c5;have L2:=L1.o.l (W.heap.size,kQ As.Tok.nil,62) (by simp);have t0:=L2.cell 0;have t1:=L2.cell 1;have t2:=L2.cell 2;have t3:=L2.cell 3
  have v0:=L2.free 0;have v1:=L2.free 1;have v2:=L2.free 2;have v3:=L2.free 3;simp only [kQ,As.Tok.nil,bB,yml,bf] at t0 t1 t2 t3;clear L2;go_wp2;rw [RS.o];obtain ⟨D,F⟩:=L1.o.put (r:=W.heap.size) (cs:=kQ As.Tok.nil) (t:=62) (by simp) (by unfold w9; decide) [(0,.int .i64 0),(1,.int .i64 0),(2,.string ⟨#[]⟩),(3,.int .i64 0)];have e0:=F.cell 0;have e1:=F.cell 1;have e2:=F.cell 2;have e3:=F.cell 3;simp only [kQ,nE,jA,jE,iW,iR,iT,bB,yml,bf] at e0 e1 e2 e3;refine bodyPost_ret (v:=tokA As.Tok.nil) ?_ rfl ⟨rfl,D⟩;clear D F t0 t1 t2 t3 v0 v1 v2 v3;simp only [sets,jA,jE] at e0 e1 e2 e3;generalize World.setCell _ _ _=WF at *
  simp [results,Tryz.results153,go_sem,tokA,As.Tok.nil,bs,e0,e1,e2,e3]
 ·have d:((st.tok.kind:Int) == 1)=true:=by simp at hk ⊢; omega
  have d':((st.tok.kind:Int) != 1)=false:=by simp at hk ⊢; omega
  have RS:=hid (show As.name (sl s) st=(st.tok,As.advance (sl s) (As.aP st.tok st)) by unfold As.name; rw [hk]; rfl);generalize As.name (sl s) st=X at *;clear hk;go_enter Tryz.func153,Tryz.ntmps153;go_wp2_with fail;refine Calls.fO (Loc B s b g W [(W.heap.size+1,kQ st.tok,62),(W.heap.size,kQ As.Tok.nil,62)] st) L0.o ?_;intro V hV;refine (WV B s b g st st.tok V hV.d.1 HT.o).mono ?_;rintro e V2 ⟨rfl,h2⟩;have L1:=hid (hV.step h2);clear h2 hV L0 V c2 c3 c4 c5;go_wp2_with fail;refine (FT B s b g _ V2 L1.o.d.1).mono ?_;rintro e V3 ⟨rfl,h3⟩;have L3:=hid (L1.o.step h3);clear h3 L1 V2;have L2:=L3.o.l (W.heap.size,kQ As.Tok.nil,62) (by simp)
  have t0:=L2.cell 0;have t1:=L2.cell 1;have t2:=L2.cell 2;have t3:=L2.cell 3;have v0:=L2.free 0;have v1:=L2.free 1;have v2:=L2.free 2;have v3:=L2.free 3;have L4:=L3.o.l (W.heap.size+1,kQ st.tok,62) (by simp);have m0:=L4.cell 0;have m1:=L4.cell 1;have m2:=L4.cell 2;have m3:=L4.cell 3;simp only [kQ,As.Tok.nil,bB,yml,bf] at t0 t1 t2 t3 m0 m1 m2 m3;clear L2 L4;go_wp2;rw [RS.o];obtain ⟨D,F⟩:=L3.o.put (r:=W.heap.size) (cs:=kQ As.Tok.nil) (t:=62) (by simp) (by unfold w9; decide) [(0,.int .i64 st.tok.kind),(1,.int .i64 st.tok.pos),(2,.string (bs st.tok.text)),(3,.int .i64 st.tok.n)];have e0:=F.cell 0
  have e1:=F.cell 1;have e2:=F.cell 2;have e3:=F.cell 3;simp only [kQ,nE,jA,jE,iW,iR,iT,bB,yml,bf] at e0 e1 e2 e3;refine bodyPost_ret (v:=tokA st.tok) ?_ rfl ⟨rfl,D⟩;clear D F t0 t1 t2 t3 v0 v1 v2 v3 m0 m1 m2 m3;simp only [sets,jA,jE] at e0 e1 e2 e3;generalize World.setCell _ _ _=WF at *;simp [results,Tryz.results153,go_sem,tokA,e0,e1,e2,e3]
theorem Iz (B:Nat) (s:ByteArray) (b g:Nat) (st:As.St) (lo hi:Int) (W:World) (h:yl B s b g st W) :
  Calls Tryz.prog 131 #[.pointer (some ⟨b,0,none⟩),.int .i64 lo,.int .i64 hi] W fun en W'=>en = .returned (.int .i64 (As.number (sl s) lo hi st).1)/\kP B s b g W (As.number (sl s) lo hi st).2 W':=by
 have H:=hid h;obtain ⟨c2,c3,c4,c5⟩:=zx h;have hpos:=h.ok.tok.pos;clear h;have cI:=hid (OA st.tok [45] W);unfold tokA at cI;have RS:=hid (show As.number (sl s) lo hi st=if st.tok.is [45] then As.aN (sl s) true st.tok.pos lo hi (As.advance (sl s) st) else As.aN (sl s) false st.tok.pos lo hi st from rfl);generalize As.number (sl s) lo hi st=X at *;go_enter Tryz.func131,Tryz.ntmps131;go_wp2_with fail;refine cI.o.mono ?_;rintro e V ⟨rfl,hg⟩;have HD:=hid (H.o.kC.grown hg);clear hg cI c2 c3 c4 c5 H
 cases hi':st.tok.is [45]
 ·rw [hi'] at RS;clear hi';have DV:=hid RS.o;rw [if_neg (by simp)] at DV;clear RS;obtain ⟨c2,c3,c4,c5⟩:=zx HD.o.1;have hnb:=HD.o.1.ok.tok.n;have QF:=hid HD.o.1.ok.tok.pos
  cases hk:(st.tok.kind == 2)
  ·have d:((st.tok.kind:Int) == 2)=false:=by simp at hk ⊢; omega
   have d':((st.tok.kind:Int) != 2)=true:=by simp at hk ⊢; omega
   have RF:=hid (show X=(0,As.refuse 3 st.tok.pos st) by rw [DV.o]; unfold As.aN; rw [hk]; rfl);clear hk DV;go_wp2_with fail;refine (yM B s b g st 3 st.tok.pos V HD.o.1 (by omega) QF.o).mono ?_;rintro e V2 ⟨rfl,h2⟩;have HF:=hid (HD.o.after h2);clear h2;go_wp2;go_ret;rw [RF.o];exact ⟨rfl,HF.o⟩
  ·have d:((st.tok.kind:Int) == 2)=true:=by simp at hk ⊢; omega
   have d':((st.tok.kind:Int) != 2)=false:=by simp at hk ⊢; omega
   have RF:=hid (show X=if (st.tok.n:Int) < lo\/hi < (st.tok.n:Int) then (0,As.refuse 8 st.tok.pos st) else ((st.tok.n:Int),As.advance (sl s) st) by rw [DV.o]; unfold As.aN; rw [hk]; rfl);clear hk DV;by_cases hlo:(st.tok.n:Int) < lo
   ·have D:decide ((st.tok.n:Int) < lo)=true:=by simp; omega
    rw [if_pos (.inl hlo)] at RF;go_wp2_with fail;refine (yM B s b g st 8 st.tok.pos V HD.o.1 (by omega) hpos).mono ?_;rintro e V2 ⟨rfl,h2⟩;have HF:=hid (HD.o.after h2);clear h2;go_wp2;go_ret;rw [RF.o];exact ⟨rfl,HF.o⟩
   ·have D:decide ((st.tok.n:Int) < lo)=false:=by simp; omega
    by_cases hhi:hi < (st.tok.n:Int)
    ·have D2:decide (hi < (st.tok.n:Int))=true:=by simp; omega
     rw [if_pos (.inr hhi)] at RF;go_wp2_with fail;refine (yM B s b g st 8 st.tok.pos V HD.o.1 (by omega) hpos).mono ?_;rintro e V2 ⟨rfl,h2⟩;have HF:=hid (HD.o.after h2);clear h2;go_wp2;go_ret;rw [RF.o];exact ⟨rfl,HF.o⟩
    ·have D2:decide (hi < (st.tok.n:Int))=false:=by simp; omega
     rw [if_neg (by omega)] at RF;go_wp2_with fail;refine (FT B s b g st V HD.o.1).mono ?_;rintro e V2 ⟨rfl,h2⟩;have HF:=hid (HD.o.after h2);clear h2;go_wp2;go_ret;rw [RF.o];exact ⟨rfl,HF.o⟩
 ·rw [hi'] at RS;clear hi';have DV:=hid RS.o;rw [if_pos rfl] at DV;clear RS;go_wp2_with fail;refine (FT B s b g st V HD.o.1).mono ?_;rintro e V1 ⟨rfl,h1⟩;have HD1:=hid (HD.o.after h1);clear h1 HD;generalize As.advance (sl s) st=st1 at *;have HD:=hid HD1.o;clear HD1;obtain ⟨c2,c3,c4,c5⟩:=zx HD.o.1;have hnb:=HD.o.1.ok.tok.n;have QF:=hid HD.o.1.ok.tok.pos
  cases hk:(st1.tok.kind == 2)
  ·have d:((st1.tok.kind:Int) == 2)=false:=by simp at hk ⊢; omega
   have d':((st1.tok.kind:Int) != 2)=true:=by simp at hk ⊢; omega
   have RF:=hid (show X=(0,As.refuse 3 st1.tok.pos st1) by rw [DV.o]; unfold As.aN; rw [hk]; rfl);clear hk DV;go_wp2_with fail;refine (yM B s b g st1 3 st1.tok.pos V1 HD.o.1 (by omega) QF.o).mono ?_;rintro e V2 ⟨rfl,h2⟩;have HF:=hid (HD.o.after h2);clear h2;go_wp2;go_ret;rw [RF.o];exact ⟨rfl,HF.o⟩
  ·have d:((st1.tok.kind:Int) == 2)=true:=by simp at hk ⊢; omega
   have d':((st1.tok.kind:Int) != 2)=false:=by simp at hk ⊢; omega
   have RF:=hid (show X=if -(st1.tok.n:Int) < lo\/hi < -(st1.tok.n:Int) then (0,As.refuse 8 st.tok.pos st1) else (-(st1.tok.n:Int),As.advance (sl s) st1) by rw [DV.o]; unfold As.aN; rw [hk]; rfl);clear hk DV;by_cases hlo:-(st1.tok.n:Int) < lo
   ·have D:decide (-(st1.tok.n:Int) < lo)=true:=by simp; omega
    rw [if_pos (.inl hlo)] at RF;go_wp2_with fail;refine (yM B s b g st1 8 st.tok.pos V1 HD.o.1 (by omega) hpos).mono ?_;rintro e V2 ⟨rfl,h2⟩;have HF:=hid (HD.o.after h2);clear h2;go_wp2;go_ret;rw [RF.o];exact ⟨rfl,HF.o⟩
   ·have D:decide (-(st1.tok.n:Int) < lo)=false:=by simp; omega
    by_cases hhi:hi < -(st1.tok.n:Int)
    ·have D2:decide (hi < -(st1.tok.n:Int))=true:=by simp; omega
     rw [if_pos (.inr hhi)] at RF;go_wp2_with fail;refine (yM B s b g st1 8 st.tok.pos V1 HD.o.1 (by omega) hpos).mono ?_;rintro e V2 ⟨rfl,h2⟩;have HF:=hid (HD.o.after h2);clear h2;go_wp2;go_ret;rw [RF.o];exact ⟨rfl,HF.o⟩
    ·have D2:decide (hi < -(st1.tok.n:Int))=false:=by simp; omega
     rw [if_neg (by omega)] at RF;go_wp2_with fail;refine (FT B s b g st1 V1 HD.o.1).mono ?_;rintro e V2 ⟨rfl,h2⟩;have HF:=hid (HD.o.after h2);clear h2;go_wp2;go_ret;rw [RF.o];exact ⟨rfl,HF.o⟩
end Go.Proofs.YtnkkepfcpjllmaaGreatDoor
