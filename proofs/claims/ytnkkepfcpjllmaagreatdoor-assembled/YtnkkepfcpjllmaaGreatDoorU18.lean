
import Derived.Test.YtnkkepfcpjllmaaGreatDoorU17
import Derived.Deep.CutRange
set_option maxHeartbeats 16000000
set_option maxRecDepth 100000
namespace Go.Proofs.YtnkkepfcpjllmaaGreatDoor
open Go.RowKit
section
variable {B m g:Nat} {ao:Option Addr} {cap:Nat} {L:List Rf.Tk} {d:Rf.Ds} {V:World} {vq vt vf vd va vs vr:Value}
theorem Mo.jW {sg n cs:Nat} (h:Mo B m g ao cap L d V vq vt vf vd va (.slice (some ⟨sg,0,none⟩) n cs) vr) (i j:Nat) (hi:i < d.obj.syms.length) (hj:j < 4) (u:Value) (y:Lk.Sym) (hy:iF y=(iF d.obj.syms[i]).set j u) :
  yG [50] V (V.setCell ⟨sg,i * 4+j,none⟩ u)/\Below B V (V.setCell ⟨sg,i * 4+j,none⟩ u)/\Mo B m g ao cap L { d with obj:={ d.obj with syms:=d.obj.syms.set i y } } (V.setCell ⟨sg,i * 4+j,none⟩ u) vq vt vf vd va (.slice (some ⟨sg,0,none⟩) n cs) vr:=by
 obtain ⟨Vx,cap2,hv⟩:=yi h.own.syms;simp only [Value.slice.injEq] at hv;obtain ⟨rfl,rfl,rfl⟩:=hv;obtain ⟨Gc,cur,e,hb,-,-,-⟩:=Gh h.own.syms (by omega);simp only [Option.some.injEq,Addr.mk.injEq] at e;obtain ⟨rfl,-⟩:=e;have ks:=tX hb (i * 4+j) u;have hB:=(h.own.syms.lt sg rfl).1;have bl:Below B V (V.setCell ⟨sg,i * 4+j,none⟩ u):=zh (i * 4+j) u hB h.size;have hmm:i * 4+4<=d.obj.syms.length * 4:=by have:=Nat.mul_le_mul_right 4 (show i+1<=d.obj.syms.length by omega); omega
 refine ⟨ks,bl,h.newObj ks (by decide) bl ⟨ks _ _ _ (by decide) h.own.blk,yh h.own.text ks (by decide),yh h.own.far ks (by decide),yh h.own.data ks (by decide),yh h.own.align ks (by decide),?_,yh h.own.aj ks (by decide),h.own.apart⟩ ⟨h.sz.text,h.sz.far,h.sz.data,h.sz.bss,h.sz.align,?_,h.sz.aj,?_⟩⟩
 ·rw [List.length_set,<- XM iF 4 (fun x=>rfl) d.obj.syms i j hi hj u y hy];exact OJ h.own.syms (by omega)
 ·rw [List.length_set]; exact h.sz.syms
 ·show d.said.length=(d.obj.syms.set i y).length;rw [List.length_set]; exact h.sz.said
theorem Mo.jf (h:Mo B m g ao cap L d V vq vt vf vd va vs vr) (i:Nat) (hi:i < d.obj.syms.length):∃ sg cs,vs = .slice (some ⟨sg,0,none⟩) d.obj.syms.length cs/\V.cell? ⟨g,5,none⟩=some (.slice (some ⟨sg,0,none⟩) d.obj.syms.length cs) /\
  V.cell? ⟨sg,i * 4+1,none⟩=some (.int .i64 d.obj.syms[i].bind)/\V.cell? ⟨sg,i * 4+2,none⟩=some (.int .i64 d.obj.syms[i].ah)/\V.cell? ⟨sg,i * 4+3,none⟩=some (.int .i64 d.obj.syms[i].off)/\(∀ o,V.frozen? ⟨sg,o,none⟩=false)/\sg≠m/\sg≠g:=by
 obtain ⟨gu,cs,rfl⟩:=yi h.own.syms;obtain ⟨sg,cur,rfl,hb,-,-,-⟩:=Gh h.own.syms (by omega);obtain ⟨Gc,hsg,-,hc⟩:=nS.aF h.own.syms (by omega);simp only [Option.some.injEq,Addr.mk.injEq] at hsg;obtain ⟨rfl,-⟩:=hsg;obtain ⟨-,k1,k2,k3⟩:=hc i hi;have g5:=h.own.blk.cell 5;simp only [bB,yml,bf] at g5;exact ⟨sg,cs,rfl,g5,k1,k2,k3,fun o=>hb.free o,fun e=>h.own.apart.ne (i:=0) (j:=6) rfl rfl (by omega) m rfl (by rw [<- e]; rfl),fun e=>h.own.apart.ne (i:=1) (j:=6) rfl rfl (by omega) g rfl (by rw [<- e]; rfl)⟩
theorem Mo.sS {sg n cs:Nat} (h:Mo B m g ao cap L d V vq vt vf vd (.slice (some ⟨sg,0,none⟩) n cs) vs vr) (i:Nat) (hi:i < 4) (u:Int) :
  yd (V.setCell ⟨sg,i,none⟩ (.int .i64 u)) m (yr g vq (.slice ao L.length cap) d) 46/\rJ B m g ao cap L { d with obj:={ d.obj with align:=d.obj.align.set i u } } (V.setCell ⟨sg,i,none⟩ (.int .i64 u))/\Below B V (V.setCell ⟨sg,i,none⟩ (.int .i64 u))/\yG [3] V (V.setCell ⟨sg,i,none⟩ (.int .i64 u)):=by
 obtain ⟨Vx,cap2,hv⟩:=yi h.own.align;simp only [Value.slice.injEq] at hv;obtain ⟨rfl,rfl,rfl⟩:=hv;have h4:=h.sz.align;obtain ⟨Gc,cur,e,hb,-,-,-⟩:=Gh h.own.align (by omega);simp only [Option.some.injEq,Addr.mk.injEq] at e;obtain ⟨rfl,-⟩:=e;have ks:=tX hb i (.int .i64 u);have hB:=(h.own.align.lt sg rfl).1;have bl:Below B V (V.setCell ⟨sg,i,none⟩ (.int .i64 u)):=zh i _ hB h.size;have gs:=yy V sg i (.int .i64 u);have row:∀ {e:TypeId} {size n j:Nat} {w:Value} {xs:List Value},[gI m,gI g,vt,vf,vd,.slice (some ⟨sg,0,none⟩) d.obj.align.length cs,vs,vr][j]?=some w->5≠j->V.ownsRow B e size w n xs->(V.setCell ⟨sg,i,none⟩ (.int .i64 u)).ownsRow B e size w n xs:=fun hj hne hu =>
  Iy hu fun k hk=>gs.block k (hu.lt k hk).2 (fun e=>h.own.apart.ne (i:=5) rfl hj hne k (by simpa [Value.ownBlock] using e.symm) hk)
 refine ⟨ks _ _ _ (by decide) h.md.blk,⟨vq,vt,vf,vd,.slice (some ⟨sg,0,none⟩) d.obj.align.length cs,vs,vr,h.newObj ks (by decide) bl ⟨ks _ _ _ (by decide) h.own.blk,row (j:=2) rfl (by decide) h.own.text,row (j:=3) rfl (by decide) h.own.far,row (j:=4) rfl (by decide) h.own.data,?_,row (j:=6) rfl (by decide) h.own.syms,row (j:=7) rfl (by decide) h.own.aj,h.own.apart⟩ ⟨h.sz.text,h.sz.far,h.sz.data,h.sz.bss,?_,h.sz.syms,h.sz.aj,h.sz.said⟩⟩,bl,ks⟩
 ·rw [List.length_set,List.map_set];exact OJ h.own.align (by omega)
 ·rw [List.length_set]; exact h.sz.align
theorem Mo.Bp {sg n cs:Nat} (h:Mo B m g ao cap L d V (.slice (some ⟨sg,0,none⟩) n cs) vt vf vd va vs vr) (i:Nat) (hi:i < d.said.length) :
  Mo B m g ao cap L { d with said:=d.said.set i true } (V.setCell ⟨sg,i,none⟩ (.bool true)) (.slice (some ⟨sg,0,none⟩) n cs) vt vf vd va vs vr/\Below B V (V.setCell ⟨sg,i,none⟩ (.bool true))/\yG [4] V (V.setCell ⟨sg,i,none⟩ (.bool true)):=by
 obtain ⟨Vx,cap2,hv⟩:=yi h.said;simp only [Value.slice.injEq] at hv;obtain ⟨rfl,rfl,rfl⟩:=hv;obtain ⟨Gc,cur,e,hb,-,-,-⟩:=Gh h.said (by omega);simp only [Option.some.injEq,Addr.mk.injEq] at e;obtain ⟨rfl,-⟩:=e;have ks:=tX hb i (.bool true);have hB:=(h.said.lt sg rfl).1;have bl:Below B V (V.setCell ⟨sg,i,none⟩ (.bool true)):=zh i _ hB h.size;have tk:=Uo h.md.toks h.tb ks (by decide);refine ⟨⟨⟨ks _ _ _ (by decide) h.md.blk,tk.1,h.md.ne,⟨h.md.ok.k,h.md.ok.len,h.md.ok.toks,h.md.ok.fe,h.md.ok.fa,h.md.ok.op,h.md.ok.ah⟩⟩,tk.2,?_,⟨ks _ _ _ (by decide) h.own.blk,yh h.own.text ks (by decide),yh h.own.far ks (by decide),yh h.own.data ks (by decide),yh h.own.align ks (by decide),yh h.own.syms ks (by decide),yh h.own.aj ks (by decide),h.own.apart⟩,h.lo,⟨h.sz.text,h.sz.far,h.sz.data,h.sz.bss,h.sz.align,h.sz.syms,h.sz.aj,?_⟩,Ow h.tabs bl h.lo.1⟩,bl,ks⟩
 ·rw [List.length_set,List.map_set];exact OJ h.said (by omega)
 ·show (d.said.set i true).length=d.obj.syms.length;rw [List.length_set]; exact h.sz.said
end
theorem XI (n:List UInt8) (a:Nat) (d:Rf.Ds) (h:(Rf.entry n a d).2.fe=0):(Rf.entry n a d).1 < (Rf.entry n a d).2.obj.syms.length:=by
 unfold Rf.entry at h ⊢
 cases hs:As.eH d.obj.syms n with
 | some i =>
  simp only;unfold As.eH at hs;rw [List.findIdx?_eq_some_iff_getElem] at hs;exact hs.1
 | none =>
  rw [hs] at h;simp only at h ⊢;split at h
  ·rename_i c;rw [if_pos c];simp
  ·rename_i c;exact absurd h c
theorem yiv (B m g:Nat) (ao:Option Addr) (cap:Nat) (L:List Rf.Tk) (d:Rf.Ds) (x:Rf.Tk) (W:World) (h:rJ B m g ao cap L d W) (hx:zD x) :
  Calls Tryz.prog 28 #[.pointer (some ⟨m,0,none⟩),jg x] W fun en W'=>en = .returned (.tuple #[])/\yO B m g ao cap L pO W (Rf.label x d) W':=by
 obtain ⟨vq,vt,vf,vd,va,vs,vr,h⟩:=h;have H:=hid h;have HX:=hid hx;have AT:=hx.at_;have hm:=h.md.blk.lt;have A1:=aW W (.cells #[.int .u8 x.kind,.int .i64 x.at_,.string (bs x.text),.int .i64 x.num,.int .i64 x.e] 69) none;have M2:=hid (h.md.does.grown A1);have BL:=hid (yd.new W #[.int .u8 x.kind,.int .i64 x.at_,.string (bs x.text),.int .i64 x.num,.int .i64 x.e] 69);have nm:W.heap.size≠m:=by omega
 have R:=hid (show Rf.label x d=(if (Rf.entry x.text x.at_ (Rf.proper x d)).2.fe=0 then (if (((Rf.entry x.text x.at_ (Rf.proper x d)).2.obj.syms[(Rf.entry x.text x.at_ (Rf.proper x d)).1]?).map (·.ah)).getD 0=0 then { (Rf.entry x.text x.at_ (Rf.proper x d)).2 with obj:={ (Rf.entry x.text x.at_ (Rf.proper x d)).2.obj with syms:=(Rf.entry x.text x.at_ (Rf.proper x d)).2.obj.syms.modify (Rf.entry x.text x.at_ (Rf.proper x d)).1 fun y=>⟨y.name,y.bind,(Rf.entry x.text x.at_ (Rf.proper x d)).2.ah,4 * As.aA (Rf.entry x.text x.at_ (Rf.proper x d)).2.obj (Rf.entry x.text x.at_ (Rf.proper x d)).2.ah⟩ } } else Rf.bad 10 x.at_ (Rf.entry x.text x.at_ (Rf.proper x d)).2) else (Rf.entry x.text x.at_ (Rf.proper x d)).2) from rfl)
 generalize Rf.label x d=X at *;have cP:=hid (fun (V:World) (hV:Md m g vq ao cap L d V)=>WE m g vq ao cap L d x V hV hx);clear h hx A1;unfold jg at *;go_enter Tryz.func28,Tryz.ntmps28;go_wp2_with fail;generalize W.alloc (.cells #[.int .u8 x.kind,.int .i64 x.at_,.string (bs x.text),.int .i64 x.num,.int .i64 x.e] 69)=V2 at *;generalize W.heap.size=rl at *;refine (cP.o V2 M2.o.1).mono ?_;rintro e V3 ⟨rfl,h3⟩;have M3:=hid (M2.o.after h3);have wT:=hid (BL.o.grown h3.2 (by simpa using nm));have l1:=wT.o.cell 1;have l2:=wT.o.cell 2;simp only [bB,yml,bf] at l1 l2;clear h3 M2 BL cP;have D3:=hid (H.o.dW (ts:=pO) M3.o (Rf.og _ _) (WM _ _) (by simp))
 go_wp2_with fail;refine (yiu B m g ao cap L (Rf.proper x d) x.text x.at_ V3 D3.o.1 AT).mono ?_;rintro e V4 ⟨rfl,h4⟩;have D4:=hid (D3.o.after h4 (fun t ht=>ht));have OX:=hid (h4.2.2 _ _ _ (by decide) wT.o);have LT:=hid (XI x.text x.at_ (Rf.proper x d));clear h4 M3 wT l1 l2 D3;generalize Rf.entry x.text x.at_ (Rf.proper x d)=E at *;obtain ⟨i,d4⟩:=E;dsimp only at R D4 LT ⊢;have l1:=OX.o.cell 1;obtain ⟨VX,vt4,vf4,vd4,Z4,Wj,Wi,m4⟩:=D4.o.1;have HM:=hid m4;have c0:=yp m4.md 0;have c2:=yp m4.md 2;have c5:=yp m4.md 5;simp only [yr,bB,yml,bf] at l1 c0 c2 c5;have zP:=m4.md.ok.ah;clear m4;by_cases hf:d4.fe=0
 ·have f1:((d4.fe:Int) != 0)=false:=by simp [hf]
  rw [if_pos hf] at R;have hi:=LT.o hf;rw [kg hi] at R;simp only [Option.map_some,Option.getD_some] at R;obtain ⟨sg,cs,rfl,g5,k1,k2,k3,hfz,n1,n2⟩:=HM.o.jf i hi;have hcap:=yZ HM.o.own.syms;have g1:(0:Int)<=(i:Int):=by omega
  have g2:(i:Int) < (d4.obj.syms.length:Int):=by omega
  clear hf;by_cases hz:d4.obj.syms[i].ah=0
  ·have e1:(d4.obj.syms[i].ah != 0)=false:=by simp [hz]
   rw [if_pos hz] at R;have RX:=hid (show X={ d4 with obj:={ d4.obj with syms:=d4.obj.syms.set i ⟨d4.obj.syms[i].name,d4.obj.syms[i].bind,d4.ah,4 * As.aA d4.obj d4.ah⟩ } } from by rw [R.o,OH _ i hi]);have SZ:=UH d4 HM.o.sz zP;have cW:=hid (Xh B m g ao cap L d4 V4 ⟨_,_,_,_,_,_,_,HM.o⟩);clear hz R;go_wp2_with fail;refine cW.o.mono ?_;rintro e V5 ⟨⟨eP,cap',rfl,-⟩,hg5⟩;have D5:=hid (D4.o.grown hg5);have H5:=hid (HM.o.grown hg5);have q0:=yb c0 hg5;have q2:=yb c2 hg5;have q5:=yb g5 hg5;obtain ⟨Gc,cs',e5,-,-,x2,x3,Wn,-,-⟩:=H5.o.jf i hi;simp only [Value.slice.injEq,Option.some.injEq,Addr.mk.injEq] at e5
   obtain ⟨⟨rfl,-⟩,-,rfl⟩:=e5;have P1:=hid (H5.o.jW i 2 hi (by omega) (.int .i64 d4.ah) ⟨d4.obj.syms[i].name,d4.obj.syms[i].bind,d4.ah,d4.obj.syms[i].off⟩ rfl);have z2:=Wn (i * 4+2);have SL:=hid SZ.1;have hl:=SZ.2;generalize (mJ d4).length=sl at *;clear hg5 c0 c2 g5 k1 k2 k3 hfz cW SZ Wn LT D4 HM;have GD:=hid (yg (World.grownBy.refl (V5.setCell ⟨sg,i * 4+2,none⟩ (.int .i64 d4.ah)) none));have D6:=hid ((D5.o.after (us:=[50]) ⟨⟨_,_,_,_,_,_,_,P1.o.2.2⟩,P1.o.2.1,P1.o.1⟩ (by simp)).grown GD.o);have H6:=hid (P1.o.2.2.grown GD.o);have hj:i * 4+4<=d4.obj.syms.length * 4:=by omega
   clear GD P1 D5;go_wp2
   go_region
   obtain ⟨d6,hd6⟩:∃ d6:Rf.Ds,{ d4 with obj:={ d4.obj with syms:=d4.obj.syms.set i ⟨d4.obj.syms[i].name,d4.obj.syms[i].bind,d4.ah,d4.obj.syms[i].off⟩ } }=d6:=⟨_,rfl⟩
   have VH:i < d6.obj.syms.length:=by rw [<- hd6]; simpa using hi
   have Rw:d6.obj.syms.length=d4.obj.syms.length:=by rw [<- hd6]; simp
   rw [hd6] at D6 H6;have RY:=hid (show X={ d6 with obj:={ d6.obj with syms:=d6.obj.syms.set i ⟨d6.obj.syms[i].name,d6.obj.syms[i].bind,d6.obj.syms[i].ah,4 * (sl:Int)⟩ } } from by
    rw [RX.o,SL.o];subst hd6;simp)
   obtain ⟨Gc,cs',e6,y5,-,-,y3,Jr,-,-⟩:=H6.o.jf i VH;rw [Rw] at e6 y5;simp only [Value.slice.injEq,Option.some.injEq,Addr.mk.injEq,true_and] at e6;obtain ⟨⟨rfl,-⟩,rfl⟩:=e6;have yf:=Jr (i * 4+3);have y0:=yp H6.o.md 0;simp only [yr,bB,bf] at y0;have P2:=hid (H6.o.jW i 3 VH (by omega) (.int .i64 (4 * (sl:Int))) ⟨d6.obj.syms[i].name,d6.obj.syms[i].bind,d6.obj.syms[i].ah,4 * (sl:Int)⟩ rfl);have HL:=hid Rw;clear hd6 RX SL Jr q0 q2 q5 x2 x3 z2 H5 e1 Rw;generalize World.drew _=V6 at *;go_wp2
   go_end0
   rw [RY.o];exact ⟨rfl,D6.o.after (us:=[50]) ⟨⟨_,_,_,_,_,_,_,P2.o.2.2⟩,P2.o.2.1,P2.o.1⟩ (by simp)⟩
  ·have e1:(d4.obj.syms[i].ah != 0)=true:=by simpa using hz
   rw [if_neg hz] at R;clear hz;go_wp2_with fail;refine (yL m g _ ao cap L d4 10 x.at_ V4 HM.o.md (by decide) AT).mono ?_;rintro e V5 ⟨rfl,h5⟩;have D5:=hid (D4.o.after (HM.o.dW (ts:=pO) h5 (yq _ _ _).2 (yq _ _ _).1 (by simp)) (fun t ht=>ht));clear h5;go_wp2
   (try simp only [Exit.inBlock,Exit.then]); refine bodyPost_ret (results_none rfl _ _ _) rfl ?_
   rw [R.o];exact ⟨rfl,D5.o⟩
 ·have f1:((d4.fe:Int) != 0)=true:=by simp; omega
  rw [if_neg hf] at R;clear hf;go_wp2
  (try simp only [Exit.inBlock,Exit.then]); refine bodyPost_ret (results_none rfl _ _ _) rfl ?_
  rw [R.o];exact ⟨rfl,D4.o⟩
abbrev OU:List TypeId:=[46,40,54,3]
theorem Xr (B m g:Nat) (ao:Option Addr) (cap:Nat) (L:List Rf.Tk) (d:Rf.Ds) (kind sym:Nat) (num add:Int) (ar:Option Addr) (nr cr:Nat) (aw:Option Addr) (cw n:Nat) (x:Int) (W:World) (h:rJ B m g ao cap L d W) (hs4:d.ah≠4) (hw:yE W aw cw (List.replicate n x)) (hn:n<=4096) :
  Calls Tryz.prog 75 #[.pointer (some ⟨m,0,none⟩),.int .i64 kind,.agg #[.slice ar nr cr,.int .i64 num,.int .i64 sym,.int .i64 add],.slice aw n cw] W fun en W'=>en = .returned (.tuple #[])/\yO B m g ao cap L rC W (Rf.lay kind sym add (List.replicate n x) d) W':=by
 have c:=Gg B m g ao cap L d kind sym num add ar nr cr aw cw (List.replicate n x) W h hs4 hw (by rw [List.length_replicate]; exact hn);rw [List.length_replicate] at c;exact c
theorem Mo.rR {B m g:Nat} {ao:Option Addr} {cap:Nat} {L:List Rf.Tk} {d:Rf.Ds} {V:World} {vq vt vf vd va vs vr:Value} (h:Mo B m g ao cap L d V vq vt vf vd va vs vr) (i:Nat) (hi:i < 4):∃ sg cs,va = .slice (some ⟨sg,0,none⟩) 4 cs/\V.cell? ⟨g,4,none⟩=some (.slice (some ⟨sg,0,none⟩) 4 cs)/\V.cell? ⟨sg,i,none⟩=some (.int .i64 (d.obj.align.getD i 0))/\V.frozen? ⟨sg,i,none⟩=false/\sg≠m/\sg≠g/\4<=cs:=by
 have h4:=h.sz.align;have ho:=h.own.align;rw [h4] at ho;obtain ⟨gu,cs,rfl⟩:=yi ho;obtain ⟨sg,cur,rfl,hb,hc1,hc2,hc3⟩:=Gh ho (by omega);have g5:=h.own.blk.cell 4;simp only [bB,yml,bf] at g5;refine ⟨sg,cs,rfl,g5,?_,hb.free i,fun e=>h.own.apart.ne (i:=0) (j:=5) rfl rfl (by omega) m rfl (by rw [<- e]; rfl),fun e=>h.own.apart.ne (i:=1) (j:=5) rfl rfl (by omega) g rfl (by rw [<- e]; rfl),hc3⟩;rw [hb.cell];have e1:(cur.toList.take (4 * 1))[i]?=some (.int .i64 (d.obj.align.getD i 0)):=by
  rw [hc2,List.getElem?_map,mP,kg (by omega)];rfl
 rw [List.getElem?_take,if_pos (by omega)] at e1;simpa using e1
theorem X4 (n k p:Nat) (hp:p=1\/p=2\/p=4) (hk:k < Rf.gap n p):¬ (n+k) % p=0:=by
 unfold Rf.gap at hk;rcases hp with rfl | rfl | rfl <;> omega
theorem UQ (n p:Nat) (hp:p=1\/p=2\/p=4):(n+Rf.gap n p) % p=0:=by
 unfold Rf.gap;rcases hp with rfl | rfl | rfl <;> omega
theorem UR (n p:Nat) (hp:p=1\/p=2\/p=4):Rf.gap n p<=3:=by
 unfold Rf.gap;rcases hp with rfl | rfl | rfl <;> omega
theorem Xa (k:Int) (d:Rf.Ds):(Rf.raise k d).ah=d.ah/\(Rf.raise k d).fe=d.fe/\∀ z,As.aA (Rf.raise k d).obj z=As.aA d.obj z:=by
 unfold Rf.raise;split <;> exact ⟨rfl,rfl,fun _=>rfl⟩
theorem yhK (B m g:Nat) (ao:Option Addr) (cap:Nat) (L:List Rf.Tk) (d:Rf.Ds) (v:Int) (W:World) (h:rJ B m g ao cap L d W) (hv:d.fe=0->2<=v/\v<=4) :
  Calls Tryz.prog 78 #[.pointer (some ⟨m,0,none⟩),.int .i64 v] W fun en W'=>en = .returned (.tuple #[])/\yO B m g ao cap L OU W (Rf.fQ v.toNat d) W':=by
 obtain ⟨i0,hi,hz0,hz1,hz2⟩:=info_parts Tryz.iC;obtain ⟨vq,vt,vf,vd,va,vs,vr,h⟩:=h;have H:=hid h;have zP:=h.md.ok.ah;have c0:=yp h.md 0;have c2:=yp h.md 2;have c5:=yp h.md 5;simp only [yr,bB,yml,bf] at c0 c2 c5;obtain ⟨sg,cs,rfl,g4,ka,kf,n1,n2,hcs⟩:=h.rR (d.ah - 1) (by omega);clear h;by_cases hf:d.fe=0
 ·have f1:((d.fe:Int) != 0)=false:=by simp [hf]
  have hv2:=hv hf;have R:=hid (show Rf.fQ v.toNat d=(if d.ah=1\/d.ah=2 then (if 2 < v.toNat then Rf.lay 6 0 (2 ^ v.toNat - 4) (List.replicate (2 ^ v.toNat / 4 - 1) 19) (Rf.raise v.toNat d) else Rf.raise v.toNat d) else Rf.empty (Rf.gap (As.aA d.obj d.ah).toNat (2 ^ v.toNat / 4)) (Rf.raise v.toNat d)) by unfold Rf.fQ; rw [if_pos hf]);generalize Rf.fQ v.toNat d=X at *;have HB:Hd (0<=As.aA d.obj d.ah/\As.aA d.obj d.ah<=1200):=by
   have s:=UH d H.o.sz zP;show _/\_;omega
  clear hv hf;obtain ⟨ix,hix⟩:∃ ix:Nat,d.ah=ix+1:=⟨d.ah - 1,by omega⟩
  obtain ⟨vn,rfl⟩:∃ vn:Nat,v=(vn:Int):=⟨v.toNat,by omega⟩
  rw [Int.toNat_natCast] at R;rw [show d.ah - 1=ix by omega] at ka kf;have hi4:(ix:Int) < 4:=by omega
  have E:=hid hix;have RD:=hid (show Rf.raise (vn:Int) d=if d.obj.align.getD ix 0 < (vn:Int) then { d with obj:={ d.obj with align:=d.obj.align.set ix vn } } else d by unfold Rf.raise; rw [hix]; rfl);rw [hix] at c2;simp only [Int.natCast_add,Int.cast_ofNat_Int] at c2;obtain ⟨zb,hzb⟩:∃ zb,decide (d.obj.align.getD ix 0 < (vn:Int))=zb:=⟨_,rfl⟩
  have ZB:=hid hzb;generalize hal:d.obj.align.getD ix 0=al at ka hzb;have gB:=hid hal;have Zt:ix<=3:=by omega
  clear hix hal;go_enter Tryz.func78,Tryz.ntmps78
  go_upto_region 1 with fail
  go_quiet (fail)
  have HQ:=hid (H.o.grown (yc (World.grownBy.refl W none) nq));have DQ:=hid ((H.o.refl (ts:=OU)).grown (yc (World.grownBy.refl W none) nq));generalize W.drewN nq=VQ at *;have r0:=yp HQ.o.md 0;have r2:=yp HQ.o.md 2;simp only [yr,bB,yml,bf] at r0 r2;rw [E.o] at r2;simp only [Int.natCast_add,Int.cast_ofNat_Int] at r2;obtain ⟨Gc,cs',e6,y4,y3,yf,-,-,-⟩:=HQ.o.rR ix (by omega);simp only [Value.slice.injEq,Option.some.injEq,Addr.mk.injEq,true_and] at e6;obtain ⟨⟨rfl,-⟩,rfl⟩:=e6;rw [gB.o] at y3;clear c0 c2 c5 g4 ka kf
  go_upto_if 30 with fail
  go_cut [] from 31 to 44 (fun wx=>yO B m g ao cap L OU W (Rf.raise (vn:Int) d) wx)
  case first =>
   cases zb
   ·rw [if_neg (of_decide_eq_false ZB.o)] at RD;go_wp2_with fail;go_meet;rw [RD.o];exact DQ.o
   ·rw [if_pos (of_decide_eq_true ZB.o)] at RD;have D1:=hid (show yO B m g ao cap L OU W (Rf.raise (vn:Int) d) ((VQ.setCell ⟨sg,ix,none⟩ (.int .i64 vn)).drew) by
     rw [RD.o];have q:=HQ.o.sS ix (by omega) vn;exact (DQ.o.after (us:=[3]) ⟨q.2.1,q.2.2.1,q.2.2.2⟩ (by simp)).grown (yg (World.grownBy.refl _ none)))
    clear HQ DQ;go_wp2_with fail
    go_region
    go_wp2_with fail;go_meet;exact D1.o
  case rest =>
  have D1:=hid hcut;generalize wc=V1 at *;obtain ⟨KA,vt1,vf1,vd1,va1,vs1,Wd,m1⟩:=D1.o.1;have H1:=hid m1;clear m1 r0 r2 y4 y3 yf RD ZB hzb HQ DQ hcut;have p0:=yp H1.o.md 0;have p2:=yp H1.o.md 2;simp only [yr,bB,yml,bf] at p0 p2;have SD:=hid (Xa (vn:Int) d).1;have SL:=hid (Xa (vn:Int) d).2.2;rw [SD.o] at p2;generalize hd1:Rf.raise (vn:Int) d=d1 at *;by_cases hcode:d.ah=1\/d.ah=2
  ·rw [if_pos hcode] at R;have S4:=hid (show d1.ah≠4 by rw [SD.o]; omega);obtain ⟨t1,t2⟩ | ⟨t1,t2⟩:(((d.ah:Int) == 1)=true/\d.ah=1)\/(((d.ah:Int) == 1)=false/\((d.ah:Int) == 2)=true):=by
    rcases hcode with x | x
    ·exact .inl ⟨by simp [x],x⟩
    ·exact .inr ⟨by simp [x],by simp [x]⟩
   all_goals
    rcases (show vn=2\/vn=3\/vn=4 by omega) with rfl | rfl | rfl
    ·have RX:=hid (show X=d1 from R.o);clear R hcode;go_wp2
     go_loopw [5,6] (fun v i wr=>∃ k:Nat,k<=0/\i = .int .i64 ((k:Int)+1)/\wr.ownsRow V1.heap.size 3 1 v k ((List.replicate k (19:Int)).map (Value.int .i64))/\V1.grownBy wr none) (fun _ i _=>1 - (intOf i).toNat)
     case atStart=>exact ⟨0,Nat.zero_le _,rfl,World.ownsRow_nil _ _ _ _,World.grownBy.refl _ _⟩
     case round =>
      rename_i v _ _;obtain ⟨k,hk,rfl,hown,hgr⟩:=hrel;obtain ⟨av,cv,rfl⟩:=yi hown;have HG:=hid hgr;clear hgr;obtain rfl:k=0:=by omega
      have HO:=hid hown;clear hown;go_wp2
      (try simp only [Exit.inBlock,Exit.then]); refine bodyPost_ret (results_none rfl _ _ _) rfl ?_
      rw [RX.o];exact ⟨rfl,D1.o.grown HG.o⟩
    ·have RX:=hid (show X=Rf.lay 6 0 4 (List.replicate 1 19) d1 from R.o);clear R hcode;go_wp2
     go_loopw [5,6] (fun v i wr=>∃ k:Nat,k<=1/\i = .int .i64 ((k:Int)+1)/\wr.ownsRow V1.heap.size 3 1 v k ((List.replicate k (19:Int)).map (Value.int .i64))/\V1.grownBy wr none) (fun _ i _=>2 - (intOf i).toNat)
     case atStart=>exact ⟨0,Nat.zero_le _,rfl,World.ownsRow_nil _ _ _ _,World.grownBy.refl _ _⟩
     case round =>
      rename_i v _ _;obtain ⟨k,hk,rfl,hown,hgr⟩:=hrel;obtain ⟨av,cv,rfl⟩:=yi hown;have HG:=hid hgr;have hsz:=hgr.size;clear hgr;by_cases hlt:k < 1
      ·have hlt':(k:Int)+1 < 2:=by omega
       go_wp2_with (at_builtin; refine wpList_append_own _ rfl _ _ 36 rfl V1.heap.size 3 i0 (.int .i64 0) 1 8 Tryz.underlying36 hi hz0 hz1 hz2 rfl (by decide) _ _ _ rfl (hown.alloc _) ⟨wr.heap.size,0,none⟩ 1 1 [.int .i64 19] rfl rfl (cell_one_new _ _ _) (by intro u hu; simp at hu; subst hu; rfl) (by unfold maxLen; omega) (by omega) (by simp; omega) ?_; intro v' w3 hown' hgrow _; obtain ⟨Gw,cv',rfl⟩:=yi hown'; have K:=hid (Gj (ya HG.o (aW wr (.cells #[.int .i64 19] 3) none)) hgrow (fun b hb=>(hown.lt b hb).1)); have HO:=hid hown'; clear hgrow hown')
       go_wp2
       go_roundw
       case rel =>
        (repeat apply Exists.intro)
        refine ⟨?_,rfl⟩;exact ⟨k+1,by omega,by go_num,by rw [List.replicate_succ',List.map_append]; exact HO.o,K.o⟩
       case measure=>simp [intOf]; omega
      ·obtain rfl:k=1:=by omega
       have HO:=hid hown;clear hown;go_wp2_with fail;refine (Xr B m g ao cap L _ 6 0 0 4 none 0 0 av cv 1 19 wr (D1.o.grown HG.o).1 S4.o (yE.aF HO.o) (by decide)).mono ?_;rintro e V3 ⟨rfl,h3⟩;have M3:=hid ((D1.o.grown HG.o).after h3 (by simp));clear h3;go_wp2
       (try simp only [Exit.inBlock,Exit.then]); refine bodyPost_ret (results_none rfl _ _ _) rfl ?_
       rw [RX.o];exact ⟨rfl,M3.o⟩
    ·have RX:=hid (show X=Rf.lay 6 0 12 (List.replicate 3 19) d1 from R.o);clear R hcode;go_wp2
     go_loopw [5,6] (fun v i wr=>∃ k:Nat,k<=3/\i = .int .i64 ((k:Int)+1)/\wr.ownsRow V1.heap.size 3 1 v k ((List.replicate k (19:Int)).map (Value.int .i64))/\V1.grownBy wr none) (fun _ i _=>4 - (intOf i).toNat)
     case atStart=>exact ⟨0,Nat.zero_le _,rfl,World.ownsRow_nil _ _ _ _,World.grownBy.refl _ _⟩
     case round =>
      rename_i v _ _;obtain ⟨k,hk,rfl,hown,hgr⟩:=hrel;obtain ⟨av,cv,rfl⟩:=yi hown;have HG:=hid hgr;have hsz:=hgr.size;clear hgr;by_cases hlt:k < 3
      ·have hlt':(k:Int)+1 < 4:=by omega
       go_wp2_with (at_builtin; refine wpList_append_own _ rfl _ _ 36 rfl V1.heap.size 3 i0 (.int .i64 0) 1 8 Tryz.underlying36 hi hz0 hz1 hz2 rfl (by decide) _ _ _ rfl (hown.alloc _) ⟨wr.heap.size,0,none⟩ 1 1 [.int .i64 19] rfl rfl (cell_one_new _ _ _) (by intro u hu; simp at hu; subst hu; rfl) (by unfold maxLen; omega) (by omega) (by simp; omega) ?_; intro v' w3 hown' hgrow _; obtain ⟨Gw,cv',rfl⟩:=yi hown'; have K:=hid (Gj (ya HG.o (aW wr (.cells #[.int .i64 19] 3) none)) hgrow (fun b hb=>(hown.lt b hb).1)); have HO:=hid hown'; clear hgrow hown')
       go_wp2
       go_roundw
       case rel =>
        (repeat apply Exists.intro)
        refine ⟨?_,rfl⟩;exact ⟨k+1,by omega,by go_num,by rw [List.replicate_succ',List.map_append]; exact HO.o,K.o⟩
       case measure=>simp [intOf]; omega
      ·obtain rfl:k=3:=by omega
       have HO:=hid hown;clear hown;go_wp2_with fail;refine (Xr B m g ao cap L _ 6 0 0 12 none 0 0 av cv 3 19 wr (D1.o.grown HG.o).1 S4.o (yE.aF HO.o) (by decide)).mono ?_;rintro e V3 ⟨rfl,h3⟩;have M3:=hid ((D1.o.grown HG.o).after h3 (by simp));clear h3;go_wp2
       (try simp only [Exit.inBlock,Exit.then]); refine bodyPost_ret (results_none rfl _ _ _) rfl ?_
       rw [RX.o];exact ⟨rfl,M3.o⟩
  ·rw [if_neg hcode] at R;have t1:((d.ah:Int) == 1)=false:=by simp; omega
   have t2:((d.ah:Int) == 2)=false:=by simp; omega
   have hc34:d.ah=3\/d.ah=4:=by omega
   rcases (show vn=2\/vn=3\/vn=4 by omega) with rfl | rfl | rfl
   ·have RX:=hid (show X=Rf.empty (Rf.gap (As.aA d.obj d.ah).toNat 1) d1 from R.o);clear R hcode;go_wp2_with fail;refine (Qe g d1.obj V1 H1.o.obj H1.o.sz.bss).mono ?_;rintro e V2 ⟨Bs,at_,ct,af,cf,ad,cd,Z,rfl,hS,-,-,-,-,hg⟩;have D2:=hid (D1.o.grown hg);have r2:=yb p2 hg;have QQ:∃ (sn:Nat) (aL:Option Addr) (ln cL:Nat),d.ah=sn/\sn<=4/\V2.cell? ⟨Bs,sn,none⟩=some (.slice aL ln cL)/\ln<=64/\(As.aA d.obj d.ah).toNat=ln:=by
     rcases hc34 with e4 | e4
     ·exact ⟨3,ad,d1.obj.data.length,cd,e4,by omega,hS.cell 3,H1.o.sz.data,by rw [e4,<- SL.o 3]; unfold As.aA; simp⟩
     ·exact ⟨4,some ⟨Z,0,none⟩,d1.obj.bss.toNat,d1.obj.bss.toNat,e4,by omega,hS.cell 4,by have:=H1.o.sz.bss; omega,by rw [e4,<- SL.o 4]; unfold As.aA; simp⟩
    obtain ⟨sn,aL,ln,cL,hsn,hs5,q,hl,hle⟩:=QQ;have LE:=hid hle;rw [hsn] at r2;have hs6:(sn:Int) < 5:=by omega
    clear hS hg p0 p2 hle hsn hc34 t1 t2;go_wp2
    go_loopw [8] (fun i wr=>∃ k:Nat,k<=Rf.gap ln 1/\i = .int .i64 k/\wr=V2) (fun i _=>Rf.gap ln 1 - (intOf i).toNat)
    case atStart=>exact ⟨0,Nat.zero_le _,rfl,rfl⟩
    case round =>
     obtain ⟨k,hk,rfl,rfl⟩:=hrel;have hg3:=UR ln 1 (by simp)
     ·obtain rfl:k=Rf.gap ln 1:=by unfold Rf.gap at hk ⊢; omega
      have z:=UQ ln 1 (by simp);have z1:(((ln:Int)+(Rf.gap ln 1:Nat)) % 1 != 0)=false:=by simp <;> omega
      have z2:Int.tmod ((ln:Int)+(Rf.gap ln 1:Nat)) 1=((ln:Int)+(Rf.gap ln 1:Nat)) % 1:=Int.tmod_eq_emod_of_nonneg (by omega);go_wp2_with fail;refine (PU B m g ao cap L d1 (Rf.gap ln 1) _ D2.o.1 (by omega)).mono ?_;rintro e V3 ⟨rfl,h3⟩;have M3:=hid (D2.o.after h3 (by simp));clear h3;go_wp2
      go_end0
      rw [RX.o,LE.o];exact ⟨rfl,M3.o⟩
   ·have RX:=hid (show X=Rf.empty (Rf.gap (As.aA d.obj d.ah).toNat 2) d1 from R.o);clear R hcode;go_wp2_with fail;refine (Qe g d1.obj V1 H1.o.obj H1.o.sz.bss).mono ?_;rintro e V2 ⟨Bs,at_,ct,af,cf,ad,cd,Z,rfl,hS,-,-,-,-,hg⟩;have D2:=hid (D1.o.grown hg);have r2:=yb p2 hg;have QQ:∃ (sn:Nat) (aL:Option Addr) (ln cL:Nat),d.ah=sn/\sn<=4/\V2.cell? ⟨Bs,sn,none⟩=some (.slice aL ln cL)/\ln<=64/\(As.aA d.obj d.ah).toNat=ln:=by
     rcases hc34 with e4 | e4
     ·exact ⟨3,ad,d1.obj.data.length,cd,e4,by omega,hS.cell 3,H1.o.sz.data,by rw [e4,<- SL.o 3]; unfold As.aA; simp⟩
     ·exact ⟨4,some ⟨Z,0,none⟩,d1.obj.bss.toNat,d1.obj.bss.toNat,e4,by omega,hS.cell 4,by have:=H1.o.sz.bss; omega,by rw [e4,<- SL.o 4]; unfold As.aA; simp⟩
    obtain ⟨sn,aL,ln,cL,hsn,hs5,q,hl,hle⟩:=QQ;have LE:=hid hle;rw [hsn] at r2;have hs6:(sn:Int) < 5:=by omega
    clear hS hg p0 p2 hle hsn hc34 t1 t2;go_wp2
    go_loopw [8] (fun i wr=>∃ k:Nat,k<=Rf.gap ln 2/\i = .int .i64 k/\wr=V2) (fun i _=>Rf.gap ln 2 - (intOf i).toNat)
    case atStart=>exact ⟨0,Nat.zero_le _,rfl,rfl⟩
    case round =>
     obtain ⟨k,hk,rfl,rfl⟩:=hrel;have hg3:=UR ln 2 (by simp);by_cases hlt:k < Rf.gap ln 2
     ·have z:=X4 ln k 2 (by simp) hlt;have z1:(((ln:Int)+k) % 2 != 0)=true:=by simp; omega
      have z2:Int.tmod ((ln:Int)+k) 2=((ln:Int)+k) % 2:=Int.tmod_eq_emod_of_nonneg (by omega);go_wp2
      go_roundw
      case rel=>exact ⟨k+1,by omega,by go_num,by simp⟩
      case measure=>simp [intOf]; omega
     ·obtain rfl:k=Rf.gap ln 2:=by omega
      have z:=UQ ln 2 (by simp);have z1:(((ln:Int)+(Rf.gap ln 2:Nat)) % 2 != 0)=false:=by simp <;> omega
      have z2:Int.tmod ((ln:Int)+(Rf.gap ln 2:Nat)) 2=((ln:Int)+(Rf.gap ln 2:Nat)) % 2:=Int.tmod_eq_emod_of_nonneg (by omega);go_wp2_with fail;refine (PU B m g ao cap L d1 (Rf.gap ln 2) _ D2.o.1 (by omega)).mono ?_;rintro e V3 ⟨rfl,h3⟩;have M3:=hid (D2.o.after h3 (by simp));clear h3;go_wp2
      go_end0
      rw [RX.o,LE.o];exact ⟨rfl,M3.o⟩
   ·have RX:=hid (show X=Rf.empty (Rf.gap (As.aA d.obj d.ah).toNat 4) d1 from R.o);clear R hcode;go_wp2_with fail;refine (Qe g d1.obj V1 H1.o.obj H1.o.sz.bss).mono ?_;rintro e V2 ⟨Bs,at_,ct,af,cf,ad,cd,Z,rfl,hS,-,-,-,-,hg⟩;have D2:=hid (D1.o.grown hg);have r2:=yb p2 hg;have QQ:∃ (sn:Nat) (aL:Option Addr) (ln cL:Nat),d.ah=sn/\sn<=4/\V2.cell? ⟨Bs,sn,none⟩=some (.slice aL ln cL)/\ln<=64/\(As.aA d.obj d.ah).toNat=ln:=by
     rcases hc34 with e4 | e4
     ·exact ⟨3,ad,d1.obj.data.length,cd,e4,by omega,hS.cell 3,H1.o.sz.data,by rw [e4,<- SL.o 3]; unfold As.aA; simp⟩
     ·exact ⟨4,some ⟨Z,0,none⟩,d1.obj.bss.toNat,d1.obj.bss.toNat,e4,by omega,hS.cell 4,by have:=H1.o.sz.bss; omega,by rw [e4,<- SL.o 4]; unfold As.aA; simp⟩
    obtain ⟨sn,aL,ln,cL,hsn,hs5,q,hl,hle⟩:=QQ;have LE:=hid hle;rw [hsn] at r2;have hs6:(sn:Int) < 5:=by omega
    clear hS hg p0 p2 hle hsn hc34 t1 t2;go_wp2
    go_loopw [8] (fun i wr=>∃ k:Nat,k<=Rf.gap ln 4/\i = .int .i64 k/\wr=V2) (fun i _=>Rf.gap ln 4 - (intOf i).toNat)
    case atStart=>exact ⟨0,Nat.zero_le _,rfl,rfl⟩
    case round =>
     obtain ⟨k,hk,rfl,rfl⟩:=hrel;have hg3:=UR ln 4 (by simp);by_cases hlt:k < Rf.gap ln 4
     ·have z:=X4 ln k 4 (by simp) hlt;have z1:(((ln:Int)+k) % 4 != 0)=true:=by simp; omega
      have z2:Int.tmod ((ln:Int)+k) 4=((ln:Int)+k) % 4:=Int.tmod_eq_emod_of_nonneg (by omega);go_wp2
      go_roundw
      case rel=>exact ⟨k+1,by omega,by go_num,by simp⟩
      case measure=>simp [intOf]; omega
     ·obtain rfl:k=Rf.gap ln 4:=by omega
      have z:=UQ ln 4 (by simp);have z1:(((ln:Int)+(Rf.gap ln 4:Nat)) % 4 != 0)=false:=by simp <;> omega
      have z2:Int.tmod ((ln:Int)+(Rf.gap ln 4:Nat)) 4=((ln:Int)+(Rf.gap ln 4:Nat)) % 4:=Int.tmod_eq_emod_of_nonneg (by omega);go_wp2_with fail;refine (PU B m g ao cap L d1 (Rf.gap ln 4) _ D2.o.1 (by omega)).mono ?_;rintro e V3 ⟨rfl,h3⟩;have M3:=hid (D2.o.after h3 (by simp));clear h3;go_wp2
      go_end0
      rw [RX.o,LE.o];exact ⟨rfl,M3.o⟩
 ·have f1:((d.fe:Int) != 0)=true:=by simp; omega
  have RS:=hid (show Rf.fQ v.toNat d=d by unfold Rf.fQ; rw [if_neg hf]);generalize Rf.fQ v.toNat d=X at *;clear hf hv;go_enter Tryz.func78,Tryz.ntmps78;go_wp2
  (try simp only [Exit.inBlock,Exit.then]); refine bodyPost_ret (results_none rfl _ _ _) rfl ?_
  rw [RS.o];exact ⟨rfl,H.o.refl⟩
theorem Yh (L:List Rf.Tk) (lo hi:Int) (d:Rf.Ds) (h:(Rf.num L lo hi d).2.fe=0):lo<=(Rf.num L lo hi d).1/\(Rf.num L lo hi d).1<=hi:=by
 have nf:∀ (neg:Bool) (pos:Nat) (d:Rf.Ds),(Rf.bP L neg pos lo hi d).2.fe=0->lo<=(Rf.bP L neg pos lo hi d).1/\(Rf.bP L neg pos lo hi d).1<=hi:=fun neg pos d h=>by
  unfold Rf.bP at h ⊢;split at h
  ·rename_i c;rw [if_pos c];dsimp only at h ⊢;generalize (if neg=true then -((Rf.tk L d).num:Int) else ((Rf.tk L d).num:Int))=v at *;by_cases o:v < lo\/hi < v
   ·exfalso
    have b:(Rf.aH (decide (v < lo\/hi < v)) 8 pos d).fe≠0:=by unfold Rf.aH; rw [decide_eq_true o,if_pos rfl]; exact Rf.bH _ _ (by decide) _
    exact b ((Rf.dD L _ b).1.symm.trans h)
   ·omega
  ·exact absurd h (Rf.bH _ _ (by decide) _)
 unfold Rf.num at h ⊢;split at h
 ·rename_i c;rw [if_pos c];exact nf _ _ _ h
 ·rename_i c;rw [if_neg c];exact nf _ _ _ h
theorem Yj (L:List Rf.Tk) (d:Rf.Ds) (h:(Rf.sym L d).2.fe=0):(Rf.sym L d).1 < (Rf.sym L d).2.obj.syms.length:=by
 unfold Rf.sym at h ⊢;split at h
 ·rename_i c;rw [if_pos c];exact XI _ _ _ h
 ·exact absurd h (Rf.bH _ _ (by decide) _)
theorem WC (B m g:Nat) (ao:Option Addr) (cap:Nat) (L:List Rf.Tk) (d:Rf.Ds) (v:Int) (W:World) (h:rJ B m g ao cap L d W) (hn:d.fe=0->0<=v/\v<=4096) :
  Calls Tryz.prog 77 #[.pointer (some ⟨m,0,none⟩),.int .i64 v] W fun en W'=>en = .returned (.tuple #[])/\yO B m g ao cap L rC W (Rf.empty v.toNat d) W':=by
 by_cases hf:d.fe=0
 ·obtain ⟨n,rfl⟩:=Int.eq_ofNat_of_zero_le (hn hf).1;exact PU B m g ao cap L d n W h (by have:=hn hf; omega)
 ·obtain ⟨vq,vt,vf,vd,va,vs,vr,h⟩:=h;have H:=hid h;have c5:=yp h.md 5;simp only [yr,bB,yml,bf] at c5;have f1:((d.fe:Int) != 0)=true:=by simp; omega
  have RS:=hid (show Rf.empty v.toNat d=d by unfold Rf.empty; rw [if_neg hf]);generalize Rf.empty v.toNat d=X at *;clear h hf hn;go_enter Tryz.func77,Tryz.ntmps77;go_wp2
  (try simp only [Exit.inBlock,Exit.then]); refine bodyPost_ret (results_none rfl _ _ _) rfl ?_
  rw [RS.o];exact ⟨rfl,H.o.refl⟩
theorem Mo.vk {B m g:Nat} {ao:Option Addr} {cap:Nat} {L:List Rf.Tk} {d:Rf.Ds} {V:World} {vq vt vf vd va vs vr:Value} (h:Mo B m g ao cap L d V vq vt vf vd va vs vr) (i:Nat) (hi:i < d.said.length):∃ sg cs,vq = .slice (some ⟨sg,0,none⟩) d.said.length cs/\V.cell? ⟨m,1,none⟩=some (.slice (some ⟨sg,0,none⟩) d.said.length cs)/\V.cell? ⟨sg,i,none⟩=some (.bool (d.said.getD i false))/\V.frozen? ⟨sg,i,none⟩=false/\sg≠m/\d.said.length<=cs:=by
 obtain ⟨gu,cs,rfl⟩:=yi h.said;obtain ⟨sg,cur,rfl,hb,hc1,hc2,hc3⟩:=Gh h.said (by omega);have g5:=yp h.md 1;simp only [yr,bB,yml,bf] at g5;refine ⟨sg,cs,rfl,g5,?_,hb.free i,fun e=>?_,hc3⟩
 ·rw [hb.cell];have e1:(cur.toList.take (d.said.length * 1))[i]?=some (.bool (d.said.getD i false)):=by
   rw [hc2,List.getElem?_map,mP,kg hi];rfl
  rw [List.getElem?_take,if_pos (by omega)] at e1;simpa using e1
 ·subst e
  have:=hb.symm.trans h.md.blk
  simp at this
abbrev yW:List TypeId:=[46,40,50,4,54,3]
theorem LV:∀ t,t∈pO->t∈yW:=by decide
theorem KH:∀ t,t∈rC->t∈yW:=by decide
theorem ykR:∀ t,t∈OU->t∈yW:=by decide
section
variable {B m g:Nat} {ao:Option Addr} {cap:Nat} {L:List Rf.Tk} {d:Rf.Ds} {W V:World} {vq vt vf vd va vs vr:Value}
theorem Mo.rz (h:Mo B m g ao cap L d V vq vt vf vd va vs vr) (s:Nat) (hs:1<=s/\s<=4):yO B m g ao cap L yW V { d with ah:=s } (V.setCell ⟨m,2,none⟩ (.int .i64 s)) :=
 h.dW (ts:=yW) (h.md.does.sets [(2,.int .i64 s)] { d with ah:=s } (by simp only [nE,yr,jA,jE,iW,iR,iT]) ⟨h.md.ok.k,h.md.ok.len,h.md.ok.toks,h.md.ok.fe,h.md.ok.fa,h.md.ok.op,hs⟩) rfl rfl (by decide)
theorem Mo.gP {rg:Nat} {cs:Array Value} (h:Mo B m g ao cap L d V vq vt vf vd va vs vr) (hb:yd V rg cs 98) (hB:B<=rg) (o:Nat) (v:Value):Mo B m g ao cap L d (V.setCell ⟨rg,o,none⟩ v) vq vt vf vd va vs vr:=by
 have ks:=tX hb o v;have bl:Below B V (V.setCell ⟨rg,o,none⟩ v):=zh o v hB h.size;exact h.newObj ks (by decide) bl ⟨ks _ _ _ (by decide) h.own.blk,yh h.own.text ks (by decide),yh h.own.far ks (by decide),yh h.own.data ks (by decide),yh h.own.align ks (by decide),yh h.own.syms ks (by decide),yh h.own.aj ks (by decide),h.own.apart⟩ h.sz
theorem yO.gP {rg:Nat} {cs:Array Value} {ts:List TypeId} (h:yO B m g ao cap L ts W d V) (hb:yd V rg cs 98) (hB:B<=rg) (hr:W.heap.size<=rg) (o:Nat) (v:Value):yO B m g ao cap L ts W d (V.setCell ⟨rg,o,none⟩ v):=by
 obtain ⟨⟨vq,vt,vf,vd,va,vs,vr,hm⟩,bl,kp⟩:=h;refine ⟨⟨_,_,_,_,_,_,_,hm.gP hb hB o v⟩,bl.trans (zh o v hB hm.size),fun k cs' t ht hk=>?_⟩;refine (kp k cs' t ht hk).grown (yy V rg o v) (fun e=>?_)
 have:=hk.lt
 simp at e;omega
end
theorem yfV (B m g:Nat) (ao:Option Addr) (cap:Nat) (L:List Rf.Tk) (d:Rf.Ds) (w:List UInt8) (W:World) (h:rJ B m g ao cap L d W) :
  Calls Tryz.prog 52 #[.pointer (some ⟨m,0,none⟩),.string (bs w)] W fun en W'=>en = .returned (.tuple #[])/\yO B m g ao cap L yW W (Rf.directive L w d) W':=by
 obtain ⟨vq,vt,vf,vd,va,vs,vr,h⟩:=h;have H:=hid h;have hop:=h.md.ok.op;have RS:=hid (show Rf.directive L w d=(
  if w=[46,116,101,120,116] then { d with ah:=1 } else
  if w=[46,102,97,114] then { d with ah:=2 } else
  if w=[46,100,97,116,97] then { d with ah:=3 } else
  if w=[46,98,115,115] then { d with ah:=4 } else
  if w=[46,103,108,111,98,108] then Rf.nI L 1 d else
  if w=[46,119,101,97,107] then Rf.nI L 2 d else
  if w=[46,119,111,114,100] then Rf.pE L d else
  if w=[46,115,112,97,99,101] then Rf.tC L d else
  if w=[46,97,108,105,103,110] then Rf.rT L d else
  Rf.bad 6 d.op d) from rfl)
 generalize Rf.directive L w d=X at *;have c2:=yp h.md 2;have c7:=yp h.md 7;have f2:=h.md.blk.free 2;simp only [yr,bB,yml,bf] at c2 c7;have e:∀ l:List UInt8,((bs w).toList == l)=decide (w=l):=fun l=>by rw [yA,Bool.eq_iff_iff,beq_iff_eq,decide_eq_true_iff]
 clear h;by_cases h:w=[46,116,101,120,116]
 ·rw [if_pos h] at RS;have d0:=e [46,116,101,120,116];rw [decide_eq_true h] at d0;clear h e;go_enter Tryz.func52,Tryz.ntmps52;go_wp2
  go_end0
  rw [RS.o];exact ⟨rfl,H.o.rz 1 (by decide)⟩
 have d0:=e [46,116,101,120,116];rw [if_neg h] at RS;rw [decide_eq_false h] at d0;clear h;by_cases h:w=[46,102,97,114]
 ·rw [if_pos h] at RS;have d1:=e [46,102,97,114];rw [decide_eq_true h] at d1;clear h e;go_enter Tryz.func52,Tryz.ntmps52;go_wp2
  go_end0
  rw [RS.o];exact ⟨rfl,H.o.rz 2 (by decide)⟩
 have d1:=e [46,102,97,114];rw [if_neg h] at RS;rw [decide_eq_false h] at d1;clear h;by_cases h:w=[46,100,97,116,97]
 ·rw [if_pos h] at RS;have d2:=e [46,100,97,116,97];rw [decide_eq_true h] at d2;clear h e;go_enter Tryz.func52,Tryz.ntmps52;go_wp2
  go_end0
  rw [RS.o];exact ⟨rfl,H.o.rz 3 (by decide)⟩
 have d2:=e [46,100,97,116,97];rw [if_neg h] at RS;rw [decide_eq_false h] at d2;clear h;by_cases h:w=[46,98,115,115]
 ·rw [if_pos h] at RS;have d3:=e [46,98,115,115];rw [decide_eq_true h] at d3;clear h e;go_enter Tryz.func52,Tryz.ntmps52;go_wp2
  go_end0
  rw [RS.o];exact ⟨rfl,H.o.rz 4 (by decide)⟩
 have d3:=e [46,98,115,115];rw [if_neg h] at RS;rw [decide_eq_false h] at d3;clear h;by_cases h:w=[46,103,108,111,98,108]
 ·rw [if_pos h] at RS;have d4:=e [46,103,108,111,98,108];rw [decide_eq_true h] at d4;have ew:=e [46,119,101,97,107];rw [decide_eq_false (by rw [h]; decide)] at ew;clear h e;obtain ⟨x,hx⟩:∃ x,Rf.tk L d=x:=⟨_,rfl⟩
  have cT:=hid (fun (V:World) (hV:Md m g vq ao cap L d V)=>(show Calls Tryz.prog 25 #[.pointer (some ⟨m,0,none⟩)] V (fun en W'=>en = .returned (jg x)/\V.grownBy W' none) from by rw [<- hx]; exact zo m g vq ao cap L d V hV));unfold jg at cT;have TO:=wS H.o.md.ok;rw [hx] at TO;have AT:=TO.at_;have RB:=hid (show X=(if (Rf.sym L d).2.fe=0 then (if (Rf.sym L d).2.said.getD (Rf.sym L d).1 false then Rf.bad 14 x.at_ (Rf.sym L d).2 else { (Rf.sym L d).2 with said:=(Rf.sym L d).2.said.set (Rf.sym L d).1 true,obj:={ (Rf.sym L d).2.obj with syms:=(Rf.sym L d).2.obj.syms.modify (Rf.sym L d).1 fun y=>⟨y.name,1,y.ah,y.off⟩ } }) else (Rf.sym L d).2) by rw [RS.o,<- hx]; rfl)
  clear hx TO RS;go_enter Tryz.func52,Tryz.ntmps52;go_wp2_with fail;refine (cT.o W H.o.md).mono ?_;rintro e V1 ⟨rfl,h1⟩;have A1:=aW V1 (.cells #[.int .u8 x.kind,.int .i64 x.at_,.string (bs x.text),.int .i64 x.num,.int .i64 x.e] 69) none;have D2:=hid ((H.o.refl (ts:=yW)).grown (ya h1 A1));have BL:=hid (yd.new V1 #[.int .u8 x.kind,.int .i64 x.at_,.string (bs x.text),.int .i64 x.num,.int .i64 x.e] 69);clear h1 A1 cT c2 c7 f2;go_wp2_with fail;generalize V1.alloc (.cells #[.int .u8 x.kind,.int .i64 x.at_,.string (bs x.text),.int .i64 x.num,.int .i64 x.e] 69)=V2 at *;generalize V1.heap.size=rl at *;refine (Xt B m g ao cap L d V2 D2.o.1).mono ?_
  rintro e V3 ⟨rfl,h3⟩;have D3:=hid (D2.o.after h3 LV);have wT:=hid (h3.2.2 _ _ _ (by decide) BL.o);have LT:=hid (Yj L d);clear h3 BL D2;generalize Rf.sym L d=E at *;obtain ⟨i,d3⟩:=E;dsimp only at RB D3 LT ⊢;have l1:=wT.o.cell 1;obtain ⟨Jg,Pz,Px,Pw,Pv,vs3,Ov,m3⟩:=D3.o.1;have HM:=hid m3;have c0:=yp m3.md 0;have c5:=yp m3.md 5;simp only [yr,bB,yml,bf] at l1 c0 c5;clear m3;by_cases hf:d3.fe=0
  ·have f1:((d3.fe:Int) != 0)=false:=by simp [hf]
   rw [if_pos hf] at RB;have hi:=LT.o hf;have hq:i < d3.said.length:=by rw [HM.o.sz.said]; exact hi
   obtain ⟨sg,cs,rfl,g5,k1,k2,k3,hfz,n1,n2⟩:=HM.o.jf i hi;obtain ⟨sq,cq,rfl,q1,qk,qf,n3,qc⟩:=HM.o.vk i hq;have hcap:=yZ HM.o.own.syms;have g1:(0:Int)<=(i:Int):=by omega
   have g2:(i:Int) < (d3.obj.syms.length:Int):=by omega
   have g3:(i:Int) < (d3.said.length:Int):=by omega
   clear hf LT
   cases hb:d3.said.getD i false
   ·rw [hb] at qk RB;have RX:=hid (show X={ d3 with said:=d3.said.set i true,obj:={ d3.obj with syms:=d3.obj.syms.set i ⟨d3.obj.syms[i].name,1,d3.obj.syms[i].ah,d3.obj.syms[i].off⟩ } } from by rw [RB.o,if_neg (by simp),OH _ i hi]);have P1:=hid (HM.o.Bp i hq);have D4:=hid (D3.o.after (us:=[4]) ⟨⟨_,_,_,_,_,_,_,P1.o.1⟩,P1.o.2.1,P1.o.2.2⟩ (by decide));have H4:=hid P1.o.1;obtain ⟨Gc,cs',e6,y5,y1,-,-,Jr,-,-⟩:=H4.o.jf i hi;simp only [Value.slice.injEq,Option.some.injEq,Addr.mk.injEq,true_and] at e6;obtain ⟨⟨rfl,-⟩,rfl⟩:=e6;have y0:=yp H4.o.md 0;simp only [yr,bB,bf] at y0;have yf:=Jr (i * 4+1);have P2:=hid (H4.o.jW i 1 hi (by omega) (.int .i64 1) ⟨d3.obj.syms[i].name,1,d3.obj.syms[i].ah,d3.obj.syms[i].off⟩ rfl)
    have D5:=hid (D4.o.after (us:=[50]) ⟨⟨_,_,_,_,_,_,_,P2.o.2.2⟩,P2.o.2.1,P2.o.1⟩ (by decide));clear RB hb Jr hfz;go_wp2
    go_end0
    rw [RX.o];exact ⟨rfl,D5.o⟩
   ·rw [hb] at qk RB;rw [if_pos rfl] at RB;clear hb;go_wp2_with fail;refine (yL m g _ ao cap L d3 14 x.at_ V3 HM.o.md (by decide) AT).mono ?_;rintro e V4 ⟨rfl,h4⟩;have D4:=hid (D3.o.after (HM.o.dW (ts:=yW) h4 (yq _ _ _).2 (yq _ _ _).1 (by decide)) (fun t ht=>ht));clear h4;go_wp2
    (try simp only [Exit.inBlock,Exit.then]); refine bodyPost_ret (results_none rfl _ _ _) rfl ?_
    rw [RB.o];exact ⟨rfl,D4.o⟩
  ·have f1:((d3.fe:Int) != 0)=true:=by simp; omega
   rw [if_neg hf] at RB;clear hf LT;go_wp2
   (try simp only [Exit.inBlock,Exit.then]); refine bodyPost_ret (results_none rfl _ _ _) rfl ?_
   rw [RB.o];exact ⟨rfl,D3.o⟩
 have d4:=e [46,103,108,111,98,108];rw [if_neg h] at RS;rw [decide_eq_false h] at d4;clear h;by_cases h:w=[46,119,101,97,107]
 ·rw [if_pos h] at RS;have d5:=e [46,119,101,97,107];rw [decide_eq_true h] at d5;clear h e;obtain ⟨x,hx⟩:∃ x,Rf.tk L d=x:=⟨_,rfl⟩
  have cT:=hid (fun (V:World) (hV:Md m g vq ao cap L d V)=>(show Calls Tryz.prog 25 #[.pointer (some ⟨m,0,none⟩)] V (fun en W'=>en = .returned (jg x)/\V.grownBy W' none) from by rw [<- hx]; exact zo m g vq ao cap L d V hV));unfold jg at cT;have TO:=wS H.o.md.ok;rw [hx] at TO;have AT:=TO.at_;have RB:=hid (show X=(if (Rf.sym L d).2.fe=0 then (if (Rf.sym L d).2.said.getD (Rf.sym L d).1 false then Rf.bad 14 x.at_ (Rf.sym L d).2 else { (Rf.sym L d).2 with said:=(Rf.sym L d).2.said.set (Rf.sym L d).1 true,obj:={ (Rf.sym L d).2.obj with syms:=(Rf.sym L d).2.obj.syms.modify (Rf.sym L d).1 fun y=>⟨y.name,2,y.ah,y.off⟩ } }) else (Rf.sym L d).2) by rw [RS.o,<- hx]; rfl)
  clear hx TO RS;go_enter Tryz.func52,Tryz.ntmps52;go_wp2_with fail;refine (cT.o W H.o.md).mono ?_;rintro e V1 ⟨rfl,h1⟩;have A1:=aW V1 (.cells #[.int .u8 x.kind,.int .i64 x.at_,.string (bs x.text),.int .i64 x.num,.int .i64 x.e] 69) none;have D2:=hid ((H.o.refl (ts:=yW)).grown (ya h1 A1));have BL:=hid (yd.new V1 #[.int .u8 x.kind,.int .i64 x.at_,.string (bs x.text),.int .i64 x.num,.int .i64 x.e] 69);clear h1 A1 cT c2 c7 f2;go_wp2_with fail;generalize V1.alloc (.cells #[.int .u8 x.kind,.int .i64 x.at_,.string (bs x.text),.int .i64 x.num,.int .i64 x.e] 69)=V2 at *;generalize V1.heap.size=rl at *;refine (Xt B m g ao cap L d V2 D2.o.1).mono ?_
  rintro e V3 ⟨rfl,h3⟩;have D3:=hid (D2.o.after h3 LV);have wT:=hid (h3.2.2 _ _ _ (by decide) BL.o);have LT:=hid (Yj L d);clear h3 BL D2;generalize Rf.sym L d=E at *;obtain ⟨i,d3⟩:=E;dsimp only at RB D3 LT ⊢;have l1:=wT.o.cell 1;obtain ⟨Jg,Pz,Px,Pw,Pv,vs3,Ov,m3⟩:=D3.o.1;have HM:=hid m3;have c0:=yp m3.md 0;have c5:=yp m3.md 5;simp only [yr,bB,yml,bf] at l1 c0 c5;clear m3;by_cases hf:d3.fe=0
  ·have f1:((d3.fe:Int) != 0)=false:=by simp [hf]
   rw [if_pos hf] at RB;have hi:=LT.o hf;have hq:i < d3.said.length:=by rw [HM.o.sz.said]; exact hi
   obtain ⟨sg,cs,rfl,g5,k1,k2,k3,hfz,n1,n2⟩:=HM.o.jf i hi;obtain ⟨sq,cq,rfl,q1,qk,qf,n3,qc⟩:=HM.o.vk i hq;have hcap:=yZ HM.o.own.syms;have g1:(0:Int)<=(i:Int):=by omega
   have g2:(i:Int) < (d3.obj.syms.length:Int):=by omega
   have g3:(i:Int) < (d3.said.length:Int):=by omega
   clear hf LT
   cases hb:d3.said.getD i false
   ·rw [hb] at qk RB;have RX:=hid (show X={ d3 with said:=d3.said.set i true,obj:={ d3.obj with syms:=d3.obj.syms.set i ⟨d3.obj.syms[i].name,2,d3.obj.syms[i].ah,d3.obj.syms[i].off⟩ } } from by rw [RB.o,if_neg (by simp),OH _ i hi]);have P1:=hid (HM.o.Bp i hq);have D4:=hid (D3.o.after (us:=[4]) ⟨⟨_,_,_,_,_,_,_,P1.o.1⟩,P1.o.2.1,P1.o.2.2⟩ (by decide));have H4:=hid P1.o.1;obtain ⟨Gc,cs',e6,y5,y1,-,-,Jr,-,-⟩:=H4.o.jf i hi;simp only [Value.slice.injEq,Option.some.injEq,Addr.mk.injEq,true_and] at e6;obtain ⟨⟨rfl,-⟩,rfl⟩:=e6;have y0:=yp H4.o.md 0;simp only [yr,bB,bf] at y0;have yf:=Jr (i * 4+1);have P2:=hid (H4.o.jW i 1 hi (by omega) (.int .i64 1) ⟨d3.obj.syms[i].name,1,d3.obj.syms[i].ah,d3.obj.syms[i].off⟩ rfl)
    have D5:=hid (D4.o.after (us:=[50]) ⟨⟨_,_,_,_,_,_,_,P2.o.2.2⟩,P2.o.2.1,P2.o.1⟩ (by decide));have H5:=hid P2.o.2.2;have hi5:i < (d3.obj.syms.set i ⟨d3.obj.syms[i].name,1,d3.obj.syms[i].ah,d3.obj.syms[i].off⟩).length:=by simpa using hi
    obtain ⟨Gc,cs',e7,z5,z1,-,-,Yx,-,-⟩:=H5.o.jf i hi5;simp only [Value.slice.injEq,Option.some.injEq,Addr.mk.injEq,true_and,List.length_set] at e7 z5;obtain ⟨⟨rfl,-⟩,rfl⟩:=e7;have z0:=yp H5.o.md 0;simp only [yr,bB,bf] at z0;have zf:=Yx (i * 4+1);have P3:=hid (H5.o.jW i 1 hi5 (by omega) (.int .i64 2) ⟨d3.obj.syms[i].name,2,d3.obj.syms[i].ah,d3.obj.syms[i].off⟩ (by simp [iF]));have D6:=hid (D5.o.after (us:=[50]) ⟨⟨_,_,_,_,_,_,_,P3.o.2.2⟩,P3.o.2.1,P3.o.1⟩ (by decide));have RY:=hid (show X={ d3 with said:=d3.said.set i true,obj:={ d3.obj with syms:=(d3.obj.syms.set i ⟨d3.obj.syms[i].name,1,d3.obj.syms[i].ah,d3.obj.syms[i].off⟩).set i ⟨d3.obj.syms[i].name,2,d3.obj.syms[i].ah,d3.obj.syms[i].off⟩ } } from by rw [RX.o,List.set_set])
    clear RB hb Jr hfz Yx RX;go_wp2
    go_end0
    rw [RY.o];exact ⟨rfl,D6.o⟩
   ·rw [hb] at qk RB;rw [if_pos rfl] at RB;clear hb;go_wp2_with fail;refine (yL m g _ ao cap L d3 14 x.at_ V3 HM.o.md (by decide) AT).mono ?_;rintro e V4 ⟨rfl,h4⟩;have D4:=hid (D3.o.after (HM.o.dW (ts:=yW) h4 (yq _ _ _).2 (yq _ _ _).1 (by decide)) (fun t ht=>ht));clear h4;go_wp2
    (try simp only [Exit.inBlock,Exit.then]); refine bodyPost_ret (results_none rfl _ _ _) rfl ?_
    rw [RB.o];exact ⟨rfl,D4.o⟩
  ·have f1:((d3.fe:Int) != 0)=true:=by simp; omega
   rw [if_neg hf] at RB;clear hf LT;go_wp2
   (try simp only [Exit.inBlock,Exit.then]); refine bodyPost_ret (results_none rfl _ _ _) rfl ?_
   rw [RB.o];exact ⟨rfl,D3.o⟩
 have d5:=e [46,119,101,97,107];rw [if_neg h] at RS;rw [decide_eq_false h] at d5;clear h;by_cases h:w=[46,119,111,114,100]
 ·rw [if_pos h] at RS;have d6:=e [46,119,111,114,100];rw [decide_eq_true h] at d6;clear h e;obtain ⟨x,hx⟩:∃ x,Rf.tk L d=x:=⟨_,rfl⟩
  have cT:=hid (fun (V:World) (hV:Md m g vq ao cap L d V)=>(show Calls Tryz.prog 25 #[.pointer (some ⟨m,0,none⟩)] V (fun en W'=>en = .returned (jg x)/\V.grownBy W' none) from by rw [<- hx]; exact zo m g vq ao cap L d V hV));unfold jg at cT;have TO:=wS H.o.md.ok;rw [hx] at TO;have AT:=TO.at_;have RW:=hid (show X=(if d.ah=4 then Rf.bad 9 d.op d else if x.kind=119 then Rf.lay 1 (Rf.added L d).1.1 (Rf.added L d).1.2 [0] (Rf.added L d).2 else Rf.lay 0 0 0 [Int.tmod ((Rf.num L (-2147483648) 4294967295 d).1+4294967296) 4294967296] (Rf.num L (-2147483648) 4294967295 d).2) by rw [RS.o,<- hx]; rfl);clear hx TO RS
  go_enter Tryz.func52,Tryz.ntmps52;by_cases h4:d.ah=4
  ·have z4:((d.ah:Int) == 4)=true:=by simp [h4]
   rw [if_pos h4] at RW;clear h4;go_wp2_with fail;refine (yL m g _ ao cap L d 9 d.op W H.o.md (by decide) hop).mono ?_;rintro e V4 ⟨rfl,h4⟩;have D4:=hid (H.o.dW (ts:=yW) h4 (yq _ _ _).2 (yq _ _ _).1 (by decide));clear h4;go_wp2
   (try simp only [Exit.inBlock,Exit.then]); refine bodyPost_ret (results_none rfl _ _ _) rfl ?_
   rw [RW.o];exact ⟨rfl,D4.o⟩
  ·have z4:((d.ah:Int) == 4)=false:=by simp; omega
   have H4:=hid h4;rw [if_neg h4] at RW;clear h4;go_wp2_with fail;refine (cT.o W H.o.md).mono ?_;rintro e V1 ⟨rfl,h1⟩;have A1:=aW V1 (.cells #[.int .u8 x.kind,.int .i64 x.at_,.string (bs x.text),.int .i64 x.num,.int .i64 x.e] 69) none;have D2:=hid ((H.o.refl (ts:=yW)).grown (ya h1 A1));have M2:=hid (H.o.grown (ya h1 A1));have hs1:=h1.size;clear h1 A1 cT c2 c7 f2;by_cases ck:x.kind=119
   ·have zk:((x.kind:Int) == 119)=true:=by simp [ck]
    rw [if_pos ck] at RW;clear ck;go_wp2_with fail;have A2:=aW (V1.alloc (.cells #[.int .u8 x.kind,.int .i64 x.at_,.string (bs x.text),.int .i64 x.num,.int .i64 x.e] 69)) (.cells #[.slice none 0 0,.int .i64 0,.int .i64 0,.int .i64 0] 98) none;have D3:=hid (D2.o.grown A2);have Qu:=yd.new (V1.alloc (.cells #[.int .u8 x.kind,.int .i64 x.at_,.string (bs x.text),.int .i64 x.num,.int .i64 x.e] 69)) #[.slice none 0 0,.int .i64 0,.int .i64 0,.int .i64 0] 98;have Vt:(V1.alloc (.cells #[.int .u8 x.kind,.int .i64 x.at_,.string (bs x.text),.int .i64 x.num,.int .i64 x.e] 69)).heap.size=V1.heap.size+1:=by simp
    rw [Vt] at Qu;have BG:=hid Qu;clear A2 Vt Qu;generalize (V1.alloc (.cells #[.int .u8 x.kind,.int .i64 x.at_,.string (bs x.text),.int .i64 x.num,.int .i64 x.e] 69)).alloc (.cells #[.slice none 0 0,.int .i64 0,.int .i64 0,.int .i64 0] 98)=V3 at *;have hr:W.heap.size<=V1.heap.size+1:=by omega
    generalize V1.heap.size+1=rg at *;refine (Xg B m g ao cap L d V3 D3.o.1).mono ?_;rintro e V4 ⟨rfl,h4⟩;have D4:=hid (D3.o.after h4 LV);have Gp:=hid (h4.2.2 _ _ _ (by decide) BG.o);have SC:=hid (show (Rf.added L d).2.ah≠4 by rw [Rf.jO]; exact H4.o);clear h4 BG D3 D2;generalize Rf.added L d=E at *;obtain ⟨⟨ei,ea⟩,d4⟩:=E;dsimp only at RW D4 SC ⊢;have hB:B<=rg:=Nat.le_trans H.o.size hr;have u0:=Gp.o.cell 0;have u1:=Gp.o.cell 1;have u2:=Gp.o.cell 2;have u3:=Gp.o.cell 3;have v2:=Gp.o.free 2;have v3:=(Gp.o.set 2 (.int .i64 ei)).free 3;simp only [bB,yml,bf] at u0 u1 u2 u3;have D5:=hid ((D4.o.gP Gp.o hB hr 2 (.int .i64 ei)).gP (Gp.o.set 2 (.int .i64 ei)) hB hr 3 (.int .i64 ea))
    clear D4 Gp;go_wp2_with fail;have QJ:=IB ((V4.setCell ⟨rg,2,none⟩ (.int .i64 ei)).setCell ⟨rg,3,none⟩ (.int .i64 ea)) 0;rw [show ((V4.setCell ⟨rg,2,none⟩ (.int .i64 ei)).setCell ⟨rg,3,none⟩ (.int .i64 ea)).heap.size=V4.heap.size by simp] at QJ;have WA:=hid QJ;clear QJ;have D6:=hid (D5.o.grown (aW ((V4.setCell ⟨rg,2,none⟩ (.int .i64 ei)).setCell ⟨rg,3,none⟩ (.int .i64 ea)) (.cells #[.int .i64 0] 3) none));clear D5 u0 u1 u2 u3 v2 v3;refine (Gg B m g ao cap L d4 1 ei 0 ea none 0 0 (some ⟨V4.heap.size,0,none⟩) 1 [0] _ D6.o.1 SC.o WA.o (by decide)).mono ?_;rintro e V7 ⟨rfl,h7⟩;have D7:=hid (D6.o.after h7 KH)
    clear h7;go_wp2
    (try simp only [Exit.inBlock,Exit.then]); refine bodyPost_ret (results_none rfl _ _ _) rfl ?_
    rw [RW.o];exact ⟨rfl,D7.o⟩
   ·have zk:((x.kind:Int) == 119)=false:=by simp; omega
    rw [if_neg ck] at RW;clear ck;go_wp2_with fail;generalize V1.alloc (.cells #[.int .u8 x.kind,.int .i64 x.at_,.string (bs x.text),.int .i64 x.num,.int .i64 x.e] 69)=V2 at *;refine (KL m g _ ao cap L d (-2147483648) 4294967295 V2 M2.o.md).mono ?_;rintro e V3 ⟨rfl,h3⟩;have D3:=hid (D2.o.after (M2.o.dW (ts:=yW) h3 (Rf.jJ _ _ _ _) (Ji _ _ _ _) (by decide)) (fun t ht=>ht));have nb:=Oz M2.o.md.ok (-2147483648) 4294967295;have SC:=hid (show (Rf.num L (-2147483648) 4294967295 d).2.ah≠4 by rw [Rf.jU]; exact H4.o);clear h3 M2 D2;generalize Rf.num L (-2147483648) 4294967295 d=E at *;obtain ⟨v,d3⟩:=E;dsimp only at RW D3 SC nb ⊢
    have w1:IntKind.i64.wrap (v+4294967296)=v+4294967296:=IntWalk.i64_in _ ⟨by omega,by omega⟩;go_wp2_with fail;have WA:=hid (IB V3 ((v+4294967296).tmod 4294967296));have D4:=hid (D3.o.grown (aW V3 (.cells #[.int .i64 ((v+4294967296).tmod 4294967296)] 3) none));clear D3;refine (Gg B m g ao cap L d3 0 0 0 0 none 0 0 (some ⟨V3.heap.size,0,none⟩) 1 [(v+4294967296).tmod 4294967296] _ D4.o.1 SC.o WA.o (by simp)).mono ?_;rintro e V7 ⟨rfl,h7⟩;have D7:=hid (D4.o.after h7 KH);clear h7;go_wp2
    go_end0
    rw [RW.o];exact ⟨rfl,D7.o⟩
 have d6:=e [46,119,111,114,100];rw [if_neg h] at RS;rw [decide_eq_false h] at d6;clear h;by_cases h:w=[46,115,112,97,99,101]
 ·rw [if_pos h] at RS;have d7:=e [46,115,112,97,99,101];rw [decide_eq_true h] at d7;clear h e;have OP:=hid (Rf.ER L 0 4800 d);have RX:=hid (show X=Rf.empty ((Rf.num L 0 4800 d).1.toNat / 4) (Rf.aH (decide (¬ (Rf.num L 0 4800 d).1 % 4=0)) 8 d.op (Rf.num L 0 4800 d).2) from RS.o);have NI:=hid (Yh L 0 4800 d);have nb:=Oz H.o.md.ok 0 4800;clear RS;go_enter Tryz.func52,Tryz.ntmps52;go_wp2_with fail;refine (KL m g _ ao cap L d 0 4800 W H.o.md).mono ?_;rintro e V3 ⟨rfl,h3⟩;have D3:=hid (H.o.dW (ts:=yW) h3 (Rf.jJ _ _ _ _) (Ji _ _ _ _) (by decide));have M3:=hid (H.o.lift h3 (Rf.jJ _ _ _ _) (Ji _ _ _ _))
  have k7:=yp h3.1 7;simp only [yr,bB,yml,bf] at k7;rw [OP.o] at k7;clear h3 c2 c7 f2;generalize Rf.num L 0 4800 d=E at *;obtain ⟨v,d3⟩:=E;dsimp only at RX D3 M3 NI nb ⊢;have TD:Hd (∀ d4:Rf.Ds,(d4.fe=0->d3.fe=0)->Rf.empty (v.toNat / 4) d4=Rf.empty (v.tdiv 4).toNat d4/\(d4.fe=0->0<=v.tdiv 4/\v.tdiv 4<=4096)):=fun d4 hd=>by
   by_cases c:d4.fe=0
   ·have q:=NI.o (hd c);have r:v.tdiv 4=v / 4:=Int.tdiv_eq_ediv_of_nonneg q.1;rw [r];have r2:(v / 4).toNat=v.toNat / 4:=by omega
    rw [r2];exact ⟨rfl,fun _=>by omega⟩
   ·unfold Rf.empty;rw [if_neg c];exact ⟨(if_neg c).symm,fun x=>absurd x c⟩
  by_cases cz:v % 4=0
  ·have z1:(Int.tmod v 4 != 0)=false:=by
    rw [Int.tmod_eq_zero_of_dvd (Int.dvd_of_emod_eq_zero cz)];rfl
   rw [decide_eq_false (by simpa using cz)] at RX;simp only [Rf.aH,Bool.false_eq_true,if_false] at RX;clear cz;go_wp2_with fail;refine (WC B m g ao cap L d3 (v.tdiv 4) V3 D3.o.1 (TD.o d3 id).2).mono ?_;rintro e V7 ⟨rfl,h7⟩;have D7:=hid (D3.o.after h7 KH);clear h7;go_wp2
   go_end0
   rw [RX.o,(TD.o d3 id).1];exact ⟨rfl,D7.o⟩
  ·have z1:(Int.tmod v 4 != 0)=true:=by
    rw [bne_iff_ne];exact fun x=>cz (Int.emod_eq_zero_of_dvd (Int.dvd_of_tmod_eq_zero x))
   rw [decide_eq_true cz] at RX;simp only [Rf.aH,if_true] at RX;have ST:Hd ((Rf.bad 8 d.op d3).fe=0->d3.fe=0):=fun x=>absurd x (Rf.bH 8 d.op (by decide) d3)
   clear cz;go_wp2_with fail;refine (yL m g _ ao cap L d3 8 d.op V3 M3.o.md (by decide) hop).mono ?_;rintro e V4 ⟨rfl,h4⟩;have D4:=hid (D3.o.after (M3.o.dW (ts:=yW) h4 (yq _ _ _).2 (yq _ _ _).1 (by decide)) (fun t ht=>ht));clear h4;go_wp2_with fail;refine (WC B m g ao cap L (Rf.bad 8 d.op d3) (v.tdiv 4) V4 D4.o.1 (TD.o _ ST.o).2).mono ?_;rintro e V7 ⟨rfl,h7⟩;have D7:=hid (D4.o.after h7 KH);clear h7;go_wp2
   go_end0
   rw [RX.o,(TD.o _ ST.o).1];exact ⟨rfl,D7.o⟩
 have d7:=e [46,115,112,97,99,101];rw [if_neg h] at RS;rw [decide_eq_false h] at d7;clear h;by_cases h:w=[46,97,108,105,103,110]
 ·rw [if_pos h] at RS;have d8:=e [46,97,108,105,103,110];rw [decide_eq_true h] at d8;clear h e;have RX:=hid (show X=Rf.fQ (Rf.num L 2 4 d).1.toNat (Rf.num L 2 4 d).2 from RS.o);have NI:=hid (Yh L 2 4 d);clear RS;go_enter Tryz.func52,Tryz.ntmps52;go_wp2_with fail;refine (KL m g _ ao cap L d 2 4 W H.o.md).mono ?_;rintro e V3 ⟨rfl,h3⟩;have D3:=hid (H.o.dW (ts:=yW) h3 (Rf.jJ _ _ _ _) (Ji _ _ _ _) (by decide));clear h3 c2 c7 f2;generalize Rf.num L 2 4 d=E at *;obtain ⟨v,d3⟩:=E;dsimp only at RX D3 NI ⊢;go_wp2_with fail;refine (yhK B m g ao cap L d3 v V3 D3.o.1 NI.o).mono ?_;rintro e V7 ⟨rfl,h7⟩;have D7:=hid (D3.o.after h7 ykR)
  clear h7;go_wp2
  go_end0
  rw [RX.o];exact ⟨rfl,D7.o⟩
 have d8:=e [46,97,108,105,103,110];rw [if_neg h] at RS;rw [decide_eq_false h] at d8;clear h;clear e;go_enter Tryz.func52,Tryz.ntmps52;go_wp2_with fail;refine (yL m g _ ao cap L d 6 d.op W H.o.md (by decide) hop).mono ?_;rintro e V4 ⟨rfl,h4⟩;have D4:=hid (H.o.dW (ts:=yW) h4 (yq _ _ _).2 (yq _ _ _).1 (by decide));clear h4;go_wp2
 go_end0
 rw [RS.o];exact ⟨rfl,D4.o⟩
end Go.Proofs.YtnkkepfcpjllmaaGreatDoor
