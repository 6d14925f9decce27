
import Derived.Test.YtnkkepfcpjllmaaGreatDoorU21
set_option maxHeartbeats 16000000
set_option maxRecDepth 100000
namespace Go.Proofs.YtnkkepfcpjllmaaGreatDoor
open Go.RowKit
def K8 (x:Rf.Tk):Prop:=x.kind=119->0 < x.text.length
theorem Yt (s:List UInt8) (p:Nat) (hp:p < s.length):K8 (Rf.one s p).1:=by
 unfold Rf.one;rw [kg hp];dsimp only;split
 ·split
  ·intro h; simp at h
  split
  ·intro h; simp at h
  ·intro h; simp at h
 split
 ·rename_i hw;intro _;show 0 < ((s.drop p).takeWhile As.aI).length;rw [Js hp,List.takeWhile_cons_of_pos hw];exact Nat.succ_pos _
 split
 ·rename_i hs;intro h;have h2:s[p].toNat=119:=h;unfold As.gG at hs;rw [h2] at hs;exact absurd hs (by decide)
 ·intro h; simp at h
theorem ylJ (s:List UInt8):∀ n p,p<=s.length->∀ x∈(Rf.aV s n p).1,K8 x:=by
 intro n
 induction n with
 | zero=>intro p _ x hx; cases hx
 | succ n ih =>
  intro p hp x hx;unfold Rf.aV at hx
  cases he:Rf.oJ s p
  ·have lt:=Rf.mg s p he;rw [he,if_neg (by decide)] at hx;split at hx
   ·exact ih _ (by omega) x hx
   split at hx
   ·obtain rfl:x=(Rf.one s p).1:=by simpa using hx
    exact Yt s p lt
   ·rename_i hk;have o:=Rf.jD s p he hk;rcases List.mem_cons.1 hx with rfl | hx
    ·exact Yt s p lt
    ·exact ih _ o.2 x hx
  ·rw [he,if_pos rfl] at hx;obtain rfl:x=⟨101,p,[],0,0⟩:=by simpa using hx
   intro h;simp at h
theorem Oq {L:List Rf.Tk} {d:Rf.Ds} (h:∀ x∈L,K8 x) (hk:d.k < L.length):K8 (Rf.tk L d):=by
 unfold Rf.tk;rw [mP,kg hk];exact h _ (lM hk)
section
variable {B m g:Nat} {ao:Option Addr} {cap:Nat} {L:List Rf.Tk} {d:Rf.Ds} {W V:World} {vq vt vf vd va vs vr:Value}
theorem Mo.Jb (h:Mo B m g ao cap L d V vq vt vf vd va vs vr) (s:Nat) (hs:s<=1000):yO B m g ao cap L yW V { d with op:=s } (V.setCell ⟨m,7,none⟩ (.int .i64 s)) :=
 h.dW (ts:=yW) (h.md.does.sets [(7,.int .i64 s)] { d with op:=s } (by simp only [nE,yr,jA,jE,iW,iR,iT]) ⟨h.md.ok.k,h.md.ok.len,h.md.ok.toks,h.md.ok.fe,h.md.ok.fa,hs,h.md.ok.ah⟩) rfl rfl (by decide)
end
theorem Mo.oh {B m g:Nat} {ao:Option Addr} {cap:Nat} {L:List Rf.Tk} {d:Rf.Ds} {V:World} {vq vt vf vd va vs vr:Value} {rg:Nat} {cs:Array Value} (h:Mo B m g ao cap L d V vq vt vf vd va vs vr) (hb:yd V rg cs 69) (hB:B<=rg) (hn:∀ a,ao=some a->a.block≠rg) (o:Nat) (v:Value):Mo B m g ao cap L d (V.setCell ⟨rg,o,none⟩ v) vq vt vf vd va vs vr:=by
 have ks:=tX hb o v;have gs:=yy V rg o v;have bl:Below B V (V.setCell ⟨rg,o,none⟩ v):=zh o v hB h.size;obtain ⟨b,cs',e,hb'⟩:=h.tb;have nb:b≠rg:=hn _ e;refine ⟨⟨ks _ _ _ (by decide) h.md.blk,fun hp=>?_,h.md.ne,h.md.ok⟩,⟨b,cs',e,hb'.grown gs (by simpa using nb)⟩,yh h.said ks (by decide),⟨ks _ _ _ (by decide) h.own.blk,yh h.own.text ks (by decide),yh h.own.far ks (by decide),yh h.own.data ks (by decide),yh h.own.align ks (by decide),yh h.own.syms ks (by decide),yh h.own.aj ks (by decide),h.own.apart⟩,h.lo,h.sz,Ow h.tabs bl h.lo.1⟩;obtain ⟨b2,e2,hc⟩:=h.md.toks hp;have ZN:b2≠rg:=hn _ e2;have kp:∀ (q:Nat) (u:Value),V.cell? ⟨b2,q,none⟩=some u->(V.setCell ⟨rg,o,none⟩ v).cell? ⟨b2,q,none⟩=some u:=fun q u hv=>gs.cell hv (by simpa using ZN)
 exact ⟨b2,e2,fun i hi=>by
  obtain ⟨c0,c1,c2,c3,c4⟩:=hc i hi;exact ⟨kp _ _ c0,kp _ _ c1,kp _ _ c2,kp _ _ c3,kp _ _ c4⟩⟩
theorem yO.oh {B m g:Nat} {ao:Option Addr} {cap:Nat} {L:List Rf.Tk} {d:Rf.Ds} {W V:World} {ts:List TypeId} {rg:Nat} {cs:Array Value} (h:yO B m g ao cap L ts W d V) (hb:yd V rg cs 69) (hB:B<=rg) (hr:W.heap.size<=rg) (hn:∀ a,ao=some a->a.block≠rg) (o:Nat) (v:Value):yO B m g ao cap L ts W d (V.setCell ⟨rg,o,none⟩ v):=by
 obtain ⟨⟨vq,vt,vf,vd,va,vs,vr,hm⟩,bl,kp⟩:=h;refine ⟨⟨_,_,_,_,_,_,_,hm.oh hb hB hn o v⟩,bl.trans (zh o v hB hm.size),fun k cs' t ht hk=>?_⟩;refine (kp k cs' t ht hk).grown (yy V rg o v) (fun e=>?_)
 have:=hk.lt
 simp at e;omega
theorem yO.EY {B m g:Nat} {ao:Option Addr} {cap:Nat} {L:List Rf.Tk} {d:Rf.Ds} {W V:World} {ts:List TypeId} {rg:Nat} {c0 c1 c2 c3 c4:Value} (h:yO B m g ao cap L ts W d V) (hb:yd V rg #[c0,c1,c2,c3,c4] 69) (hB:B<=rg) (hr:W.heap.size<=rg) (hn:∀ a,ao=some a->a.block≠rg) (v0 v1 v2 v3 v4:Value) :
  yO B m g ao cap L ts W d (((((V.setCell ⟨rg,0,none⟩ v0).setCell ⟨rg,1,none⟩ v1).setCell ⟨rg,2,none⟩ v2).setCell ⟨rg,3,none⟩ v3).setCell ⟨rg,4,none⟩ v4)/\yd (((((V.setCell ⟨rg,0,none⟩ v0).setCell ⟨rg,1,none⟩ v1).setCell ⟨rg,2,none⟩ v2).setCell ⟨rg,3,none⟩ v3).setCell ⟨rg,4,none⟩ v4) rg #[v0,v1,v2,v3,v4] 69:=by
 have b0:=hb.set 0 v0;have b1:=b0.set 1 v1;have b2:=b1.set 2 v2;have b3:=b2.set 3 v3;have b4:=b3.set 4 v4;refine ⟨((((h.oh hb hB hr hn 0 v0).oh b0 hB hr hn 1 v1).oh b1 hB hr hn 2 v2).oh b2 hB hr hn 3 v3).oh b3 hB hr hn 4 v4,?_⟩;simpa using b4
theorem yiX (B m g:Nat) (ao:Option Addr) (cap:Nat) (L:List Rf.Tk) (d:Rf.Ds) (W:World) (h:rJ B m g ao cap L d W) (hL:∀ x∈L,K8 x) :
  Calls Tryz.prog 11 #[.pointer (some ⟨m,0,none⟩)] W fun en W'=>en = .returned (.tuple #[])/\yO B m g ao cap L yW W (Rf.jS L d) W':=by
 obtain ⟨vq,vt,vf,vd,va,vs,vr,h⟩:=h;have H:=hid h;have HL:=hid hL;have hBW:=h.size;have NT:Hd (∀ a,ao=some a->a.block < W.heap.size):=fun a ha=>by
  obtain ⟨b,cs,e,hb⟩:=h.tb;rw [e] at ha;obtain rfl:=Option.some.inj ha;exact hb.lt
 obtain ⟨x,hx⟩:∃ x,Rf.tk L d=x:=⟨_,rfl⟩
 have RS:=hid (show Rf.jS L d=(if (Rf.aH (decide (x.kind=33)) x.e x.at_ d).fe≠0\/x.kind=101 then Rf.aH (decide (x.kind=33)) x.e x.at_ d else if x.kind=119 then (if (Rf.tk L (Rf.step L (Rf.aH (decide (x.kind=33)) x.e x.at_ d))).kind=58 then (if (Rf.step L (Rf.label x (Rf.step L (Rf.aH (decide (x.kind=33)) x.e x.at_ d)))).fe≠0\/(Rf.tk L (Rf.step L (Rf.label x (Rf.step L (Rf.aH (decide (x.kind=33)) x.e x.at_ d))))).kind=101 then Rf.step L (Rf.label x (Rf.step L (Rf.aH (decide (x.kind=33)) x.e x.at_ d))) else if (Rf.tk L (Rf.step L (Rf.label x (Rf.step L (Rf.aH (decide (x.kind=33)) x.e x.at_ d))))).kind=119 then Rf.jc L (Rf.tk L (Rf.step L (Rf.label x (Rf.step L (Rf.aH (decide (x.kind=33)) x.e x.at_ d))))) (Rf.step L (Rf.step L (Rf.label x (Rf.step L (Rf.aH (decide (x.kind=33)) x.e x.at_ d))))) else Rf.bad 3 (Rf.tk L (Rf.step L (Rf.label x (Rf.step L (Rf.aH (decide (x.kind=33)) x.e x.at_ d))))).at_ (Rf.step L (Rf.label x (Rf.step L (Rf.aH (decide (x.kind=33)) x.e x.at_ d))))) else Rf.jc L x (Rf.step L (Rf.aH (decide (x.kind=33)) x.e x.at_ d))) else Rf.bad 3 x.at_ (Rf.aH (decide (x.kind=33)) x.e x.at_ d)) by rw [<- hx]; rfl)
 generalize Rf.jS L d=X at *;have cT:=hid (fun (V:World) (hV:Md m g vq ao cap L d V)=>(show Calls Tryz.prog 25 #[.pointer (some ⟨m,0,none⟩)] V (fun en W'=>en = .returned (jg x)/\V.grownBy W' none) from by rw [<- hx]; exact zo m g vq ao cap L d V hV));have TO:=wS h.md.ok;rw [hx] at TO;have O6:=hid TO;have AT:=TO.at_;have AE:=TO.e;have YX:=hid (show K8 x by rw [<- hx]; exact Oq hL h.md.ok.k);clear h hx TO hL;unfold jg at cT;go_enter Tryz.func11,Tryz.ntmps11;go_wp2_with fail;refine (cT.o W H.o.md).mono ?_;rintro en V1 ⟨rfl,h1⟩;have A1:=aW V1 (.cells #[.int .u8 x.kind,.int .i64 x.at_,.string (bs x.text),.int .i64 x.num,.int .i64 x.e] 69) none
 have H2:=hid (H.o.grown (ya h1 A1));have D2:=hid ((H.o.refl (ts:=yW)).grown (ya h1 A1));have BT:=hid (yd.new V1 #[.int .u8 x.kind,.int .i64 x.at_,.string (bs x.text),.int .i64 x.num,.int .i64 x.e] 69);have hrl:W.heap.size<=V1.heap.size:=h1.size;clear h1 A1 cT;by_cases Gb:x.kind=33
 ·have e33:((x.kind:Int) == 33)=true:=by simp [Gb]
  have MI:((x.kind:Int) == 101)=false:=by simp [Gb]
  have e119:((x.kind:Int) != 119)=true:=by simp [Gb]
  rw [show Rf.aH (decide (x.kind=33)) x.e x.at_ d=Rf.bad x.e x.at_ d by unfold Rf.aH; rw [decide_eq_true Gb]; rfl] at RS;have OY:=hid Gb;clear Gb;go_wp2_with fail;generalize V1.alloc (.cells #[.int .u8 x.kind,.int .i64 x.at_,.string (bs x.text),.int .i64 x.num,.int .i64 x.e] 69)=V2 at *;generalize V1.heap.size=rl at *;refine (yL m g _ ao cap L d x.e x.at_ V2 H2.o.md AE AT).mono ?_;rintro en V3 ⟨rfl,h3⟩;have K3:=hid (H2.o.dW (ts:=yW) h3 (yq _ _ _).2 (yq _ _ _).1 (by decide));have D3:=hid (D2.o.after K3.o (fun t ht=>ht));have KX:=K3.o.2.2 _ _ _ (by decide) BT.o;have t0:=KX.cell 0;have t1:=KX.cell 1
  obtain ⟨Jg,Pz,Px,Pw,Pv,vs3,Ov,uV⟩:=D3.o.1;have H3:=hid uV;have c5:=yp uV.md 5;simp only [yr,bB,yml,bf] at c5 t0 t1;clear h3 K3 BT KX uV;generalize hb:Rf.bad x.e x.at_ d=db at *;by_cases hfe:db.fe=0
  ·have f1:((db.fe:Int) != 0)=false:=by simp [hfe]
   rw [if_neg (by simp [hfe,OY.o]),if_neg (by rw [OY.o]; decide)] at RS;clear OY hb hfe;go_wp2_with fail;refine (yL m g _ ao cap L db 3 x.at_ V3 H3.o.md (by decide) AT).mono ?_;rintro en V4 ⟨rfl,h4⟩;have D4:=hid (D3.o.after (H3.o.dW (ts:=yW) h4 (yq _ _ _).2 (yq _ _ _).1 (by decide)) (fun t ht=>ht));clear h4;go_wp2
   (try simp only [Exit.inBlock,Exit.then]); refine bodyPost_ret (results_none rfl _ _ _) rfl ?_
   rw [RS.o];exact ⟨rfl,D4.o⟩
  ·have f1:((db.fe:Int) != 0)=true:=by simp; omega
   rw [if_pos (.inl hfe)] at RS;clear OY hb hfe;go_wp2
   (try simp only [Exit.inBlock,Exit.then]); refine bodyPost_ret (results_none rfl _ _ _) rfl ?_
   rw [RS.o];exact ⟨rfl,D3.o⟩
 have e33:((x.kind:Int) == 33)=false:=by simp; omega
 rw [show Rf.aH (decide (x.kind=33)) x.e x.at_ d=d by unfold Rf.aH; rw [decide_eq_false Gb]; rfl] at RS;have c5:=yp H2.o.md 5;simp only [yr,bB,yml,bf] at c5;clear Gb;by_cases hfe:d.fe=0
 case neg =>
  have f1:((d.fe:Int) != 0)=true:=by simp; omega
  rw [if_pos (.inl hfe)] at RS;clear hfe;go_wp2
  (try simp only [Exit.inBlock,Exit.then]); refine bodyPost_ret (results_none rfl _ _ _) rfl ?_
  rw [RS.o];exact ⟨rfl,D2.o⟩
 have f1:((d.fe:Int) != 0)=false:=by simp [hfe]
 by_cases rW:x.kind=101
 ·have MI:((x.kind:Int) == 101)=true:=by simp [rW]
  rw [if_pos (.inr rW)] at RS;clear hfe rW;go_wp2
  (try simp only [Exit.inBlock,Exit.then]); refine bodyPost_ret (results_none rfl _ _ _) rfl ?_
  rw [RS.o];exact ⟨rfl,D2.o⟩
 have MI:((x.kind:Int) == 101)=false:=by simp; omega
 rw [if_neg (by simp [hfe,rW])] at RS;clear hfe rW;by_cases c119:x.kind=119
 case neg =>
  have e119:((x.kind:Int) != 119)=true:=by simp; omega
  rw [if_neg c119] at RS;clear c119;go_wp2_with fail;refine (yL m g _ ao cap L d 3 x.at_ _ H2.o.md (by decide) AT).mono ?_;rintro en V4 ⟨rfl,h4⟩;have D4:=hid (D2.o.after (H2.o.dW (ts:=yW) h4 (yq _ _ _).2 (yq _ _ _).1 (by decide)) (fun t ht=>ht));clear h4;go_wp2
  (try simp only [Exit.inBlock,Exit.then]); refine bodyPost_ret (results_none rfl _ _ _) rfl ?_
  rw [RS.o];exact ⟨rfl,D4.o⟩
 have e119:((x.kind:Int) != 119)=false:=by simp [c119]
 rw [if_pos c119] at RS;have XW:=YX.o c119;clear c119;go_wp2_with fail;generalize V1.alloc (.cells #[.int .u8 x.kind,.int .i64 x.at_,.string (bs x.text),.int .i64 x.num,.int .i64 x.e] 69)=V2 at *;generalize V1.heap.size=rl at *;refine (F5 m g _ ao cap L d V2 H2.o.md).mono ?_;rintro en V3 ⟨rfl,h3⟩;have K3:=hid (H2.o.dW (ts:=yW) h3 (Rf.iy _ _) (Gl _ _) (by decide));have D3:=hid (D2.o.after K3.o (fun t ht=>ht));have KX:=hid (K3.o.2.2 _ _ _ (by decide) BT.o);obtain ⟨Jg,Pz,Px,Pw,Pv,vs3,Ov,uV⟩:=D3.o.1;have H3:=hid uV;clear h3 K3 BT uV c5 D2 H2;generalize Rf.step L d=d1 at *;obtain ⟨y,hy⟩:∃ y,Rf.tk L d1=y:=⟨_,rfl⟩
 rw [hy] at RS;have cT:=hid (fun (V:World) (hV:Md m g Jg ao cap L d1 V)=>(show Calls Tryz.prog 25 #[.pointer (some ⟨m,0,none⟩)] V (fun en W'=>en = .returned (jg y)/\V.grownBy W' none) from by rw [<- hy]; exact zo m g Jg ao cap L d1 V hV));unfold jg at cT;clear hy;go_wp2_with fail;refine (cT.o V3 H3.o.md).mono ?_;rintro en V4 ⟨rfl,h4⟩;have A4:=aW V4 (.cells #[.int .u8 y.kind,.int .i64 y.at_,.string (bs y.text),.int .i64 y.num,.int .i64 y.e] 69) none;have D5:=hid (D3.o.grown (ya h4 A4));have qR:=hid (KX.o.grown (ya h4 A4) (by simp));clear h4 A4 cT D3 KX H3;by_cases Mx:y.kind=58
 ·have e58:((y.kind:Int) == 58)=true:=by simp [Mx]
  rw [if_pos Mx] at RS;clear Mx;have t0:=qR.o.cell 0;have t1:=qR.o.cell 1;have t2:=qR.o.cell 2;have t3:=qR.o.cell 3;have t4:=qR.o.cell 4;simp only [bB,yml,bf] at t0 t1 t2 t3 t4;have cL:=hid (fun V hV=>yiv B m g ao cap L d1 x V hV O6.o);unfold jg at cL;go_wp2_with fail;refine (cL.o _ D5.o.1).mono ?_;rintro en V6 ⟨rfl,h6⟩;have D6:=hid (D5.o.after h6 LV);have U8:=hid (h6.2.2 _ _ _ (by decide) qR.o);clear h6 D5 qR cL t0 t1 t2 t3 t4;generalize Rf.label x d1=d2 at *;obtain ⟨vq6,vt6,vf6,vd6,va6,vs6,vr6,VI⟩:=D6.o.1;have H6:=hid VI;clear VI;go_wp2_with fail;refine (F5 m g _ ao cap L d2 V6 H6.o.md).mono ?_
  rintro en V7 ⟨rfl,h7⟩;have K7:=hid (H6.o.dW (ts:=yW) h7 (Rf.iy _ _) (Gl _ _) (by decide));have D7:=hid (D6.o.after K7.o (fun t ht=>ht));have U9:=hid (K7.o.2.2 _ _ _ (by decide) U8.o);obtain ⟨Py,vt7,vf7,vd7,Z5,vs7,vr7,I8⟩:=D7.o.1;have H7:=hid I8;have Pb:=wS I8.md.ok;have Vu:=hid (Oq HL.o I8.md.ok.k);clear h7 K7 U8 I8 D6 H6;generalize Rf.step L d2=d3 at *;obtain ⟨z,hz⟩:∃ z,Rf.tk L d3=z:=⟨_,rfl⟩
  rw [hz] at RS Pb Vu;have ZA:=Pb.at_;have ZX:=Pb.text;have cZ:=hid (fun (V:World) (hV:Md m g Py ao cap L d3 V)=>(show Calls Tryz.prog 25 #[.pointer (some ⟨m,0,none⟩)] V (fun en W'=>en = .returned (jg z)/\V.grownBy W' none) from by rw [<- hz]; exact zo m g Py ao cap L d3 V hV));unfold jg at cZ;clear hz Pb;go_wp2_with fail;refine (cZ.o V7 H7.o.md).mono ?_;rintro en V8 ⟨rfl,h8⟩;have D8:=hid (D7.o.grown h8);have Dp:=hid (U9.o.grown h8 (by simp));have PT:=hid (D8.o.EY Dp.o (by omega) hrl (fun a ha=>by have:=NT.o a ha; omega) (.int .u8 z.kind) (.int .i64 z.at_) (.string (bs z.text)) (.int .i64 z.num) (.int .i64 z.e))
  have y0:=Dp.o.free 0;have y1:=Dp.o.free 1;have y2:=Dp.o.free 2;have y3:=Dp.o.free 3;have y4:=Dp.o.free 4;have t0:=Dp.o.cell 0;have t1:=Dp.o.cell 1;have t2:=Dp.o.cell 2;have t3:=Dp.o.cell 3;have t4:=Dp.o.cell 4;simp only [bB,yml,bf] at t0 t1 t2 t3 t4;obtain ⟨vq8,vt8,vf8,vd8,va8,vs8,vr8,Rx⟩:=PT.o.1.1;have H8:=hid Rx;have c5:=yp Rx.md 5;simp only [yr,bB,yml,bf] at c5;clear h8 Rx D7 H7 U9 cZ;by_cases hfe:d3.fe=0
  case neg =>
   have f2:((d3.fe:Int) != 0)=true:=by simp; omega
   rw [if_pos (.inl hfe)] at RS;clear hfe;go_wp2
   (try simp only [Exit.inBlock,Exit.then]); refine bodyPost_ret (results_none rfl _ _ _) rfl ?_
   rw [RS.o];exact ⟨rfl,PT.o.1⟩
  have f2:((d3.fe:Int) != 0)=false:=by simp [hfe]
  by_cases rW:z.kind=101
  ·have U7:((z.kind:Int) == 101)=true:=by simp [rW]
   rw [if_pos (.inr rW)] at RS;clear hfe rW;go_wp2
   (try simp only [Exit.inBlock,Exit.then]); refine bodyPost_ret (results_none rfl _ _ _) rfl ?_
   rw [RS.o];exact ⟨rfl,PT.o.1⟩
  have U7:((z.kind:Int) == 101)=false:=by simp; omega
  rw [if_neg (by simp [hfe,rW])] at RS;clear hfe rW;by_cases c119:z.kind=119
  case neg =>
   have z119:((z.kind:Int) != 119)=true:=by simp; omega
   rw [if_neg c119] at RS;clear c119;go_wp2_with fail;refine (yL m g _ ao cap L d3 3 z.at_ _ H8.o.md (by decide) ZA).mono ?_;rintro en V9 ⟨rfl,h9⟩;have D9:=hid (PT.o.1.after (H8.o.dW (ts:=yW) h9 (yq _ _ _).2 (yq _ _ _).1 (by decide)) (fun t ht=>ht));clear h9;go_wp2
   (try simp only [Exit.inBlock,Exit.then]); refine bodyPost_ret (results_none rfl _ _ _) rfl ?_
   rw [RS.o];exact ⟨rfl,D9.o⟩
  have z119:((z.kind:Int) != 119)=false:=by simp [c119]
  rw [if_pos c119] at RS;have ZW:=Vu.o c119;clear c119;go_wp2_with fail;refine (F5 m g _ ao cap L d3 _ H8.o.md).mono ?_;rintro en V9 ⟨rfl,h9⟩;have K9:=hid (H8.o.dW (ts:=yW) h9 (Rf.iy _ _) (Gl _ _) (by decide));have D5:=hid (PT.o.1.after K9.o (fun t ht=>ht));have qR:=hid (K9.o.2.2 _ _ _ (by decide) PT.o.2);clear h9 K9 PT H8 D8 Dp y0 y1 y2 y3 y4 t0 t1 t2 t3 t4 c5;generalize Rf.step L d3=d4 at *;rw [show Rf.jc L z d4=(if d4.fe=0 then (if (Rf.tk L (Rf.operation L z.text { d4 with op:=z.at_ })).kind=101 then Rf.operation L z.text { d4 with op:=z.at_ } else Rf.bad 3 (Rf.tk L (Rf.operation L z.text { d4 with op:=z.at_ })).at_ (Rf.operation L z.text { d4 with op:=z.at_ })) else d4) from rfl] at RS
  obtain ⟨vqa,vta,vfa,vda,Z6,vsa,vra,hma⟩:=D5.o.1;have HA:=hid hma;have c5:=yp hma.md 5;have c7:=yp hma.md 7;have z7:=hma.md.blk.free 7;have t0:=qR.o.cell 0;have t1:=qR.o.cell 1;have t2:=qR.o.cell 2;have t3:=qR.o.cell 3;have t4:=qR.o.cell 4;simp only [yr,bB,yml,bf] at c5 c7 t0 t1 t2 t3 t4;have Tt:m≠rl:=fun q=>by subst q; have:=HA.o.md.blk.symm.trans qR.o; simp at this
  clear hma;by_cases hfe:d4.fe=0
  case neg =>
   have f9:((d4.fe:Int) != 0)=true:=by simp; omega
   rw [if_neg hfe] at RS;clear hfe;go_wp2
   (try simp only [Exit.inBlock,Exit.then]); refine bodyPost_ret (results_none rfl _ _ _) rfl ?_
   rw [RS.o];exact ⟨rfl,D5.o⟩
  have f9:((d4.fe:Int) != 0)=false:=by simp [hfe]
  rw [if_pos hfe] at RS;have DP:=hid (D5.o.after (HA.o.Jb z.at_ ZA) (fun t ht=>ht));have BP:=hid (qR.o.grown (yy V9 m 7 (.int .i64 z.at_)) (by simpa using Tt.symm));clear hfe;go_wp2_with fail;refine (Wx B m g ao cap L { d4 with op:=z.at_ } z.text _ DP.o.1 ⟨ZW,ZX⟩).mono ?_;rintro en Va ⟨rfl,ha⟩;have Da:=hid (DP.o.after ha (fun t ht=>ht));have Ba:=hid (ha.2.2 _ _ _ (by decide) BP.o);clear ha DP BP D5 qR HA c5 c7 z7 t0 t1 t2 t3 t4;generalize Rf.operation L z.text { d4 with op:=z.at_ }=de at *;obtain ⟨Ou,vtb,vfb,vdb,Z7,vsb,vrb,hmb⟩:=Da.o.1;have Hb:=hid hmb;have JE:=wS hmb.md.ok;obtain ⟨q,hq⟩:∃ q,Rf.tk L de=q:=⟨_,rfl⟩
  rw [hq] at RS JE;have QA:=JE.at_;have cQ:=hid (fun (V:World) (hV:Md m g Ou ao cap L de V)=>(show Calls Tryz.prog 25 #[.pointer (some ⟨m,0,none⟩)] V (fun en W'=>en = .returned (jg q)/\V.grownBy W' none) from by rw [<- hq]; exact zo m g Ou ao cap L de V hV));unfold jg at cQ;clear hq JE hmb;go_wp2_with fail;refine (cQ.o Va Hb.o.md).mono ?_;rintro en Vb ⟨rfl,hb⟩;have Db:=hid (Da.o.grown hb);have Bb:=hid (Ba.o.grown hb (by simp));have PQ:=hid (Db.o.EY Bb.o (by omega) hrl (fun a ha=>by have:=NT.o a ha; omega) (.int .u8 q.kind) (.int .i64 q.at_) (.string (bs q.text)) (.int .i64 q.num) (.int .i64 q.e))
  have y0:=Bb.o.free 0;have y1:=Bb.o.free 1;have y2:=Bb.o.free 2;have y3:=Bb.o.free 3;have y4:=Bb.o.free 4;have t0:=Bb.o.cell 0;have t1:=Bb.o.cell 1;have t2:=Bb.o.cell 2;have t3:=Bb.o.cell 3;have t4:=Bb.o.cell 4;simp only [bB,yml,bf] at t0 t1 t2 t3 t4;clear hb cQ;by_cases sU:q.kind=101
  ·have Ko:((q.kind:Int) != 101)=false:=by simp [sU]
   rw [if_pos sU] at RS;clear sU;go_wp2
   go_end0
   rw [RS.o];exact ⟨rfl,PQ.o.1⟩
  ·have Ko:((q.kind:Int) != 101)=true:=by simp; omega
   rw [if_neg sU] at RS;obtain ⟨vqc,vtc,vfc,vdc,Z8,vsc,vrc,hmc⟩:=PQ.o.1.1;have Hc:=hid hmc;clear sU hmc;go_wp2_with fail;refine (yL m g _ ao cap L de 3 q.at_ _ Hc.o.md (by decide) QA).mono ?_;rintro en Vc ⟨rfl,hc⟩;have Dc:=hid (PQ.o.1.after (Hc.o.dW (ts:=yW) hc (yq _ _ _).2 (yq _ _ _).1 (by decide)) (fun t ht=>ht));clear hc;go_wp2
   go_end0
   rw [RS.o];exact ⟨rfl,Dc.o⟩
 ·have e58:((y.kind:Int) == 58)=false:=by simp; omega
  rw [if_neg Mx] at RS;have XX:=O6.o.text;clear Mx;rw [show Rf.jc L x d1=(if d1.fe=0 then (if (Rf.tk L (Rf.operation L x.text { d1 with op:=x.at_ })).kind=101 then Rf.operation L x.text { d1 with op:=x.at_ } else Rf.bad 3 (Rf.tk L (Rf.operation L x.text { d1 with op:=x.at_ })).at_ (Rf.operation L x.text { d1 with op:=x.at_ })) else d1) from rfl] at RS;obtain ⟨vqa,vta,vfa,vda,Z6,vsa,vra,hma⟩:=D5.o.1;have HA:=hid hma;have c5:=yp hma.md 5;have c7:=yp hma.md 7;have z7:=hma.md.blk.free 7;have t0:=qR.o.cell 0;have t1:=qR.o.cell 1;have t2:=qR.o.cell 2;have t3:=qR.o.cell 3;have t4:=qR.o.cell 4;simp only [yr,bB,yml,bf] at c5 c7 t0 t1 t2 t3 t4
  have Tt:m≠rl:=fun q=>by subst q; have:=HA.o.md.blk.symm.trans qR.o; simp at this
  clear hma;by_cases hfe:d1.fe=0
  case neg =>
   have f9:((d1.fe:Int) != 0)=true:=by simp; omega
   rw [if_neg hfe] at RS;clear hfe;go_wp2
   (try simp only [Exit.inBlock,Exit.then]); refine bodyPost_ret (results_none rfl _ _ _) rfl ?_
   rw [RS.o];exact ⟨rfl,D5.o⟩
  have f9:((d1.fe:Int) != 0)=false:=by simp [hfe]
  rw [if_pos hfe] at RS;have DP:=hid (D5.o.after (HA.o.Jb x.at_ AT) (fun t ht=>ht));have BP:=hid (qR.o.grown (yy (V4.alloc (.cells #[.int .u8 y.kind,.int .i64 y.at_,.string (bs y.text),.int .i64 y.num,.int .i64 y.e] 69)) m 7 (.int .i64 x.at_)) (by simpa using Tt.symm));clear hfe;go_wp2_with fail;refine (Wx B m g ao cap L { d1 with op:=x.at_ } x.text _ DP.o.1 ⟨XW,XX⟩).mono ?_;rintro en Va ⟨rfl,ha⟩;have Da:=hid (DP.o.after ha (fun t ht=>ht));have Ba:=hid (ha.2.2 _ _ _ (by decide) BP.o);clear ha DP BP D5 qR HA c5 c7 z7 t0 t1 t2 t3 t4;generalize Rf.operation L x.text { d1 with op:=x.at_ }=de at *;obtain ⟨Ou,vtb,vfb,vdb,Z7,vsb,vrb,hmb⟩:=Da.o.1
  have Hb:=hid hmb;have JE:=wS hmb.md.ok;obtain ⟨q,hq⟩:∃ q,Rf.tk L de=q:=⟨_,rfl⟩
  rw [hq] at RS JE;have QA:=JE.at_;have cQ:=hid (fun (V:World) (hV:Md m g Ou ao cap L de V)=>(show Calls Tryz.prog 25 #[.pointer (some ⟨m,0,none⟩)] V (fun en W'=>en = .returned (jg q)/\V.grownBy W' none) from by rw [<- hq]; exact zo m g Ou ao cap L de V hV));unfold jg at cQ;clear hq JE hmb;go_wp2_with fail;refine (cQ.o Va Hb.o.md).mono ?_;rintro en Vb ⟨rfl,hb⟩;have Db:=hid (Da.o.grown hb);have Bb:=hid (Ba.o.grown hb (by simp));have PQ:=hid (Db.o.EY Bb.o (by omega) hrl (fun a ha=>by have:=NT.o a ha; omega) (.int .u8 q.kind) (.int .i64 q.at_) (.string (bs q.text)) (.int .i64 q.num) (.int .i64 q.e))
  have y0:=Bb.o.free 0;have y1:=Bb.o.free 1;have y2:=Bb.o.free 2;have y3:=Bb.o.free 3;have y4:=Bb.o.free 4;have t0:=Bb.o.cell 0;have t1:=Bb.o.cell 1;have t2:=Bb.o.cell 2;have t3:=Bb.o.cell 3;have t4:=Bb.o.cell 4;simp only [bB,yml,bf] at t0 t1 t2 t3 t4;clear hb cQ;by_cases sU:q.kind=101
  ·have Ko:((q.kind:Int) != 101)=false:=by simp [sU]
   rw [if_pos sU] at RS;clear sU;go_wp2
   go_end0
   rw [RS.o];exact ⟨rfl,PQ.o.1⟩
  ·have Ko:((q.kind:Int) != 101)=true:=by simp; omega
   rw [if_neg sU] at RS;obtain ⟨vqc,vtc,vfc,vdc,Z8,vsc,vrc,hmc⟩:=PQ.o.1.1;have Hc:=hid hmc;clear sU hmc;go_wp2_with fail;refine (yL m g _ ao cap L de 3 q.at_ _ Hc.o.md (by decide) QA).mono ?_;rintro en Vc ⟨rfl,hc⟩;have Dc:=hid (PQ.o.1.after (Hc.o.dW (ts:=yW) hc (yq _ _ _).2 (yq _ _ _).1 (by decide)) (fun t ht=>ht));clear hc;go_wp2
   go_end0
   rw [RS.o];exact ⟨rfl,Dc.o⟩
theorem Wo {P:Program} {w:World} {ops:Array Oper} {rest:List Oper} {o:Oper} {a:Act} {Q:Exit->Act->World->Prop} (hgd:o.guard=none) (s x:Operand) (t:TypeId)
  (ho:o.op = .call { callee:=.builtin .append,args:=#[s,x],argTypes:=#[t,t] })
  (base:Nat) (i:TypeInfo) (ht:P.underlying t=some (.slice 54)) (hi:P.info? 54=some i) (hz:i.zero=some (.agg #[.int .i64 0,.int .i64 0,.int .i64 0,.int .i64 0,.int .i64 0]))
  (hsize:i.size=5) (hby:i.bytes=40)
  (v:Value) (n:Nat) (xs:List Value) (hs:a.eval s=v) (hown:w.ownsRow base 54 5 v n xs)
  (vx:Value) (bx:Nat) (ys:List Lk.Rel) (hx:a.eval x=vx) (hw:w.ownsRow bx 54 5 vx ys.length (ys.flatMap dK))
  (h63:n+ys.length<=65535) (hbase:base<=w.heap.size)
  (h:∀ v' w',w'.ownsRow base 54 5 v' (n+ys.length) (xs ++ ys.flatMap dK)->w.grownBy w' v.ownBlock->(v'.ownBlock=v.ownBlock\/v'.ownBlock=some w.heap.size)->wpList P ops Q rest (a.put o.dst v') w'):wpList P ops Q (o :: rest) a w:=by
 rcases hw.2 with ⟨rfl,h0⟩ | ⟨g,cap,cur,rfl,hb,hg,h3,h4,h5,h6⟩
 ·obtain rfl:ys=[]:=List.length_eq_zero_iff.1 h0;refine wpList_plain hgd fun K hK=>?_
  have hrun:=run_append_owned_none (P:=P) (w:=w) base t o.type 54 i 5 ht hi v n xs hown;have h':=h v w (by simpa using hown) ⟨rfl,rfl,rfl,Nat.le_refl _,fun _ _ _=>rfl⟩ (.inl rfl);unfold Oper.wp;simp [execOp,ho,resolve,invoke,builtin,hs,hx,hrun,Result.andThen];exact hK _ _ h'
 ·refine wpList_append_own_at _ hgd s x t ho base 54 i (.agg #[.int .i64 0,.int .i64 0,.int .i64 0,.int .i64 0,.int .i64 0]) 5 40 ht hi hz hsize hby rfl (by decide) v n xs hs hown ⟨g,0,none⟩ ys.length cap (ys.flatMap dK) hx hw.1 (hw.cells (g:=g) rfl) ?_ (by unfold maxLen; omega) (by omega) hbase (fun v' w' h1 h2 _ h4=>h v' w' h1 h2 h4);intro u hu;obtain ⟨r,_,hr⟩:=List.mem_flatMap.1 hu;simp [dK] at hr;rcases hr with rfl | rfl | rfl | rfl | rfl <;> rfl
def Ap (u v:Value):Prop:=∀ k,u.ownBlock=some k->v.ownBlock≠some k
theorem Ap.symm {u v:Value} (h:Ap u v):Ap v u:=fun k hk x=>h k x hk
section
variable {Z n:Nat} {u v v':Value} {xs:List Value} {wr w3:World} {ob:Obj}
theorem LG (hb:wr.ownsRow Z 54 5 u n xs) (ap:Ap u v) (hg:(wr.alloc ob).grownBy w3 v.ownBlock):w3.ownsRow Z 54 5 u n xs:=by
 refine (hb.alloc ob).kept hg ?_
 cases e:u.ownBlock with
 | none=>exact .inl rfl
 | some k=>exact .inr (fun x=>ap k e x.symm)
theorem yiJ (hb:wr.ownsRow Z 54 5 u n xs) (ap:Ap u v) (hg:wr.grownBy w3 v.ownBlock):w3.ownsRow Z 54 5 u n xs:=by
 refine hb.kept hg ?_
 cases e:u.ownBlock with
 | none=>exact .inl rfl
 | some k=>exact .inr (fun x=>ap k e x.symm)
theorem LZ (hb:wr.ownsRow Z 54 5 u n xs) (ap:Ap u v) (hat:v'.ownBlock=v.ownBlock\/v'.ownBlock=some (wr.alloc ob).heap.size):Ap u v':=fun k hk x=>by
 rcases hat with e | e
 ·exact ap k hk (e.symm.trans x)
 ·rw [e] at x
  have:=(hb.lt k hk).2
  simp at x;omega
end
theorem T9 (W wr w3:World) (ob:Obj) {u:Value} {n:Nat} {xs:List Value} (h:W.grownBy wr none) (ho:wr.ownsRow W.heap.size 54 5 u n xs) (hg:(wr.alloc ob).grownBy w3 u.ownBlock):W.grownBy w3 none :=
 Gj (ya h (aW wr ob none)) hg (fun b hb=>(ho.lt b hb).1)
namespace Rf
def is1 (r:Lk.Rel):Bool:=decide (r.ah=1)
def is2 (r:Lk.Rel):Bool:=decide (r.ah=2)
def sD (r:Lk.Rel):Bool:=decide (¬ r.ah=1/\¬ r.ah=2)
def gF (rs:List Lk.Rel):List Lk.Rel:=rs.filter is1 ++ rs.filter is2 ++ rs.filter sD
theorem tH (p:Lk.Rel->Bool) (rs:List Lk.Rel) (k:Nat) (h:k < rs.length) (hp:p rs[k]=true):(rs.take (k+1)).filter p=(rs.take k).filter p ++ [rs[k]]:=by
 rw [List.take_succ_eq_append_getElem h,List.filter_append,List.filter_cons_of_pos hp];rfl
theorem mZ (p:Lk.Rel->Bool) (rs:List Lk.Rel) (k:Nat) (h:k < rs.length) (hp:p rs[k]=false):(rs.take (k+1)).filter p=(rs.take k).filter p:=by
 rw [List.take_succ_eq_append_getElem h,List.filter_append,List.filter_cons_of_neg (by simp [hp])];simp
theorem wC (p:Lk.Rel->Bool) (rs:List Lk.Rel) (k:Nat) (h:rs.length<=32):((rs.take k).filter p).length<=32:=by
 have h2:=List.length_filter_le p (rs.take k);rw [List.length_take] at h2;omega
theorem vK (rs:List Lk.Rel) (h:∀ r∈rs,r.ah=1\/r.ah=2\/r.ah=3):gF rs=As.dx rs:=by
 unfold gF As.dx;have e3:rs.filter sD=rs.filter (fun r=>decide (r.ah=3)):=by
  apply List.filter_congr;intro r hr
  have:=h r hr
  unfold sD;rw [Bool.eq_iff_iff,decide_eq_true_iff,decide_eq_true_iff];omega
 rw [e3];rfl
end Rf
structure KQ (W wr:World) (va vb vc:Value) (rs:List Lk.Rel) (k:Nat):Prop where
 a:wr.ownsRow W.heap.size 54 5 va ((rs.take k).filter Rf.is1).length (((rs.take k).filter Rf.is1).flatMap dK)
 b:wr.ownsRow W.heap.size 54 5 vb ((rs.take k).filter Rf.is2).length (((rs.take k).filter Rf.is2).flatMap dK)
 c:wr.ownsRow W.heap.size 54 5 vc ((rs.take k).filter Rf.sD).length (((rs.take k).filter Rf.sD).flatMap dK)
 ab:Ap va vb
 ac:Ap va vc
 bc:Ap vb vc
 gr:W.grownBy wr none
theorem ykX {W wr w3:World} {va vb vc v':Value} {rs:List Lk.Rel} {k:Nat} {ob:Obj} (h:KQ W wr va vb vc rs k) (hk:k < rs.length) (hown:w3.ownsRow W.heap.size 54 5 v' (((rs.take k).filter Rf.is1).length+1) (((rs.take k).filter Rf.is1).flatMap dK ++ dK rs[k])) (hg:(wr.alloc ob).grownBy w3 va.ownBlock) (hat:v'.ownBlock=va.ownBlock\/v'.ownBlock=some (wr.alloc ob).heap.size) (hp:Rf.is1 rs[k]=true) (hq:Rf.is2 rs[k]=false) (hr:Rf.sD rs[k]=false):KQ W w3 v' vb vc rs (k+1) :=
 ⟨by rw [Rf.tH Rf.is1 rs k hk hp,iA,List.flatMap_append]; simpa [dK] using hown,by rw [Rf.mZ Rf.is2 rs k hk (hq)]; exact LG h.b (h.ab.symm) hg,by rw [Rf.mZ Rf.sD rs k hk (hr)]; exact LG h.c (h.ac.symm) hg,(LZ h.b (h.ab.symm) hat).symm,(LZ h.c (h.ac.symm) hat).symm,h.bc,T9 W wr w3 ob h.gr h.a hg⟩
theorem ykY {W wr w3:World} {va vb vc v':Value} {rs:List Lk.Rel} {k:Nat} {ob:Obj} (h:KQ W wr va vb vc rs k) (hk:k < rs.length) (hown:w3.ownsRow W.heap.size 54 5 v' (((rs.take k).filter Rf.is2).length+1) (((rs.take k).filter Rf.is2).flatMap dK ++ dK rs[k])) (hg:(wr.alloc ob).grownBy w3 vb.ownBlock) (hat:v'.ownBlock=vb.ownBlock\/v'.ownBlock=some (wr.alloc ob).heap.size) (hp:Rf.is2 rs[k]=true) (hq:Rf.is1 rs[k]=false) (hr:Rf.sD rs[k]=false):KQ W w3 va v' vc rs (k+1) :=
 ⟨by rw [Rf.mZ Rf.is1 rs k hk (hq)]; exact LG h.a (h.ab) hg,by rw [Rf.tH Rf.is2 rs k hk hp,iA,List.flatMap_append]; simpa [dK] using hown,by rw [Rf.mZ Rf.sD rs k hk (hr)]; exact LG h.c (h.bc.symm) hg,LZ h.a (h.ab) hat,h.ac,(LZ h.c (h.bc.symm) hat).symm,T9 W wr w3 ob h.gr h.b hg⟩
theorem ykZ {W wr w3:World} {va vb vc v':Value} {rs:List Lk.Rel} {k:Nat} {ob:Obj} (h:KQ W wr va vb vc rs k) (hk:k < rs.length) (hown:w3.ownsRow W.heap.size 54 5 v' (((rs.take k).filter Rf.sD).length+1) (((rs.take k).filter Rf.sD).flatMap dK ++ dK rs[k])) (hg:(wr.alloc ob).grownBy w3 vc.ownBlock) (hat:v'.ownBlock=vc.ownBlock\/v'.ownBlock=some (wr.alloc ob).heap.size) (hp:Rf.sD rs[k]=true) (hq:Rf.is1 rs[k]=false) (hr:Rf.is2 rs[k]=false):KQ W w3 va vb v' rs (k+1) :=
 ⟨by rw [Rf.mZ Rf.is1 rs k hk (hq)]; exact LG h.a (h.ac) hg,by rw [Rf.mZ Rf.is2 rs k hk (hr)]; exact LG h.b (h.bc) hg,by rw [Rf.tH Rf.sD rs k hk hp,iA,List.flatMap_append]; simpa [dK] using hown,h.ab,LZ h.a (h.ac) hat,LZ h.b (h.bc) hat,T9 W wr w3 ob h.gr h.c hg⟩
theorem WU (ar:Option Addr) (cr:Nat) (rs:List Lk.Rel) (W:World) (hr:W.ownsRow 0 54 5 (.slice ar rs.length cr) rs.length (rs.flatMap dK)) (hl:rs.length<=32) :
  Calls Tryz.prog 12 #[.slice ar rs.length cr] W fun e W'=>∃ v,e = .returned v/\W'.ownsRow W.heap.size 54 5 v (Rf.gF rs).length ((Rf.gF rs).flatMap dK)/\W.grownBy W' none:=by
 obtain ⟨i2,hi2,hx0,hx1,hx2⟩:=info_parts Tryz.q8;have RI:=hid (wK.aF hr);have hcap:=yZ hr;clear hr;go_enter Tryz.func12,Tryz.ntmps12;go_wp2
 go_loopw [3,4,5,6] (fun va vb vc i wr=>∃ k:Nat,k<=rs.length/\i = .int .i64 k/\KQ W wr va vb vc rs k) (fun _ _ _ i _=>rs.length - (intOf i).toNat)
 case atStart=>exact ⟨0,Nat.zero_le _,rfl,World.ownsRow_nil _ _ _ _,World.ownsRow_nil _ _ _ _,World.ownsRow_nil _ _ _ _,fun k hk=>(by cases hk),fun k hk=>(by cases hk),fun k hk=>(by cases hk),World.grownBy.refl _ _⟩
 case round =>
  obtain ⟨k,hk,rfl,hT⟩:=hrel;obtain ⟨aa,ca,rfl⟩:=yi hT.a;obtain ⟨ab,cb,rfl⟩:=yi hT.b;obtain ⟨ac,cc,rfl⟩:=yi hT.c;have TH:=hid hT;have hsz:=hT.gr.size;have la:=Rf.wC Rf.is1 rs k hl;have lb:=Rf.wC Rf.is2 rs k hl;have lc:=Rf.wC Rf.sD rs k hl;have hcr:=hcap.1;by_cases hkl:k < rs.length
  ·obtain ⟨sg,hsg,hgs,hcs⟩:=RI.o.grown hT.gr (by omega);obtain ⟨k0,k1,k2,k3,k4⟩:=hcs k hkl;clear hcs hT;subst hsg;have hk':(k:Int) < (rs.length:Int):=by omega
   have Rv:(k:Int)<=(cr:Int):=by omega
   by_cases e1:rs[k].ah=1
   ·have e2:True:=trivial;have d1:(rs[k].ah == 1)=true:=by simp [e1]
    have R1:=hid (show Rf.is1 rs[k]=true by unfold Rf.is1; simp; omega);have R2:=hid (show Rf.is2 rs[k]=false by unfold Rf.is2; simp; omega);have R3:=hid (show Rf.sD rs[k]=false by unfold Rf.sD; simp; omega);clear e1 e2;go_wp2_with (at_builtin; refine wpList_append_own_at _ rfl _ _ 38 rfl W.heap.size 54 i2 (.agg #[.int .i64 0,.int .i64 0,.int .i64 0,.int .i64 0,.int .i64 0]) 5 40 Tryz.underlying38 hi2 hx0 hx1 hx2 rfl (by decide) _ _ _ rfl (TH.o.a.alloc _) ⟨wr.heap.size,0,none⟩ 1 1 (dK rs[k]) rfl rfl (OQ _ _ _) (by intro u hu; simp [dK] at hu; rcases hu with rfl | rfl | rfl | rfl | rfl <;> rfl) (by unfold maxLen; omega) (by omega) (by simp; omega) ?_; intro v' w3 hown' hgrow _ hat; have N3:=hid (ykX TH.o hkl hown' hgrow hat R1.o R2.o R3.o); obtain ⟨Gw,cv',rfl⟩:=yi hown'; clear hgrow hown' hat)
    go_roundw
    case rel=>exact ⟨k+1,by omega,by go_num,N3.o⟩
    case measure=>simp [intOf]; omega
   by_cases e2:rs[k].ah=2
   ·have d1:(rs[k].ah == 1)=false:=by simp [e1]
    have d2:(rs[k].ah == 2)=true:=by simp [e2]
    have R1:=hid (show Rf.is1 rs[k]=false by unfold Rf.is1; simp; omega);have R2:=hid (show Rf.is2 rs[k]=true by unfold Rf.is2; simp; omega);have R3:=hid (show Rf.sD rs[k]=false by unfold Rf.sD; simp; omega);clear e1 e2;go_wp2_with (at_builtin; refine wpList_append_own_at _ rfl _ _ 38 rfl W.heap.size 54 i2 (.agg #[.int .i64 0,.int .i64 0,.int .i64 0,.int .i64 0,.int .i64 0]) 5 40 Tryz.underlying38 hi2 hx0 hx1 hx2 rfl (by decide) _ _ _ rfl (TH.o.b.alloc _) ⟨wr.heap.size,0,none⟩ 1 1 (dK rs[k]) rfl rfl (OQ _ _ _) (by intro u hu; simp [dK] at hu; rcases hu with rfl | rfl | rfl | rfl | rfl <;> rfl) (by unfold maxLen; omega) (by omega) (by simp; omega) ?_; intro v' w3 hown' hgrow _ hat; have N3:=hid (ykY TH.o hkl hown' hgrow hat R2.o R1.o R3.o); obtain ⟨Gw,cv',rfl⟩:=yi hown'; clear hgrow hown' hat)
    go_roundw
    case rel=>exact ⟨k+1,by omega,by go_num,N3.o⟩
    case measure=>simp [intOf]; omega
   have d1:(rs[k].ah == 1)=false:=by simp [e1]
   have d2:(rs[k].ah == 2)=false:=by simp [e2]
   have R1:=hid (show Rf.is1 rs[k]=false by unfold Rf.is1; simp; omega);have R2:=hid (show Rf.is2 rs[k]=false by unfold Rf.is2; simp; omega);have R3:=hid (show Rf.sD rs[k]=true by unfold Rf.sD; simp; omega);clear e1 e2;go_wp2_with (at_builtin; refine wpList_append_own_at _ rfl _ _ 38 rfl W.heap.size 54 i2 (.agg #[.int .i64 0,.int .i64 0,.int .i64 0,.int .i64 0,.int .i64 0]) 5 40 Tryz.underlying38 hi2 hx0 hx1 hx2 rfl (by decide) _ _ _ rfl (TH.o.c.alloc _) ⟨wr.heap.size,0,none⟩ 1 1 (dK rs[k]) rfl rfl (OQ _ _ _) (by intro u hu; simp [dK] at hu; rcases hu with rfl | rfl | rfl | rfl | rfl <;> rfl) (by unfold maxLen; omega) (by omega) (by simp; omega) ?_; intro v' w3 hown' hgrow _ hat; have N3:=hid (ykZ TH.o hkl hown' hgrow hat R3.o R1.o R2.o); obtain ⟨Gw,cv',rfl⟩:=yi hown'; clear hgrow hown' hat)
   go_roundw
   case rel=>exact ⟨k+1,by omega,by go_num,N3.o⟩
   case measure=>simp [intOf]; omega
  ·obtain rfl:k=rs.length:=by omega
   have TA:=hT.a;have TB:=hT.b;have TC:=hT.c;have PC:=hid hT.ac;have GR:=hid hT.gr;clear hT TH;rw [List.take_length] at TA TB TC PC la lb lc ⊢;have Zb:=hid TB;have Zc:=hid TC;have FL:Hd ((Rf.gF rs).length=(rs.filter Rf.is1).length+(rs.filter Rf.is2).length+(rs.filter Rf.sD).length/\(Rf.gF rs).flatMap dK=((rs.filter Rf.is1).flatMap dK ++ (rs.filter Rf.is2).flatMap dK) ++ (rs.filter Rf.sD).flatMap dK):=⟨by unfold Rf.gF; simp [Nat.add_assoc],by unfold Rf.gF; simp⟩
   generalize rs.filter Rf.is1=fa at *;generalize rs.filter Rf.is2=fb at *;generalize rs.filter Rf.sD=fc at *;go_wp2_with (at_builtin; first
    | (refine Wo rfl _ _ 38 rfl W.heap.size i2 Tryz.underlying38 hi2 hx0 hx1 hx2 _ _ _ rfl TA _ W.heap.size fb rfl Zb.o (by omega) (by omega) ?_; intro v1 w1 ho1 hg1 ha1; obtain ⟨a1,c1,rfl⟩:=yi ho1; have C1:=hid (yiJ Zc.o PC.o.symm hg1); have G1:=hid (Gj GR.o hg1 (fun b hb=>(TA.lt b hb).1)); have hs1:=hg1.size; have O1:=hid ho1; clear ho1 hg1 ha1 TA TB TC)
    | (refine Wo rfl _ _ 38 rfl W.heap.size i2 Tryz.underlying38 hi2 hx0 hx1 hx2 _ _ _ rfl O1.o _ W.heap.size fc rfl C1.o (by omega) (by omega) ?_; intro v2 w2 ho2 hg2 ha2; obtain ⟨a2,c2,rfl⟩:=yi ho2; have G2:=hid (Gj G1.o hg2 (fun b hb=>(O1.o.lt b hb).1)); have O2:=hid ho2; clear ho2 hg2 ha2))
   go_ret;exact ⟨_,rfl,by rw [FL.o.1,FL.o.2]; exact O2.o,G2.o⟩
namespace Rf
theorem IJ (f:UInt8->Bool) (s:List UInt8) (p:Nat):p<=As.skip f s p:=by unfold As.skip; omega
theorem Di (s:List UInt8):∀ n p,p<=s.length->s.length < n+p->p < (aV s n p).2\/p=s.length:=by
 intro n
 induction n with
 | zero=>intro p h1 h2; omega
 | succ n ih =>
  intro p h1 h2;unfold aV
  cases he:oJ s p
  ·have lt:=mg s p he;simp only [Bool.false_eq_true,if_false];split
   ·rcases ih (p+1) (by omega) (by omega) with h | h
    ·exact .inl (by omega)
    ·refine .inl ?_;have h3:aV s n (p+1)=([⟨101,p+1,[],0,0⟩],As.skip As.bF s (p+1)+1):=by
      obtain ⟨k,rfl⟩:∃ k,n=k+1:=⟨n - 1,by omega⟩
      unfold aV;rw [if_pos (by unfold oJ; rw [List.getElem?_eq_none (by omega)]; rfl)]
     rw [h3]
     have:=IJ As.bF s (p+1)
     show p < As.skip As.bF s (p+1)+1;omega
   split
   ·exact .inl lt
   ·rename_i hk;have o:=jD s p he hk;rcases ih (one s p).2 o.2 (by omega) with h | h
    ·exact .inl (Nat.lt_trans o.1 h)
    ·refine .inl ?_;have h3:aV s n (one s p).2=([⟨101,(one s p).2,[],0,0⟩],As.skip As.bF s (one s p).2+1):=by
      obtain ⟨k,rfl⟩:∃ k,n=k+1:=⟨n - 1,by omega⟩
      unfold aV;rw [if_pos (by unfold oJ; rw [List.getElem?_eq_none (by omega)]; rfl)]
     show p < (aV s n (one s p).2).2;rw [h3]
     have:=IJ As.bF s (one s p).2
     show p < As.skip As.bF s (one s p).2+1;omega
  ·have:=IJ As.bF s p
   exact .inl (by show p < As.skip As.bF s p+1; omega)
theorem xZ (s:List UInt8) (p:Nat) (h:p < s.length):p < (tokens s p).2:=by
 rcases Di s (s.length+1 - p) p (by omega) (by omega) with x | x
 ·exact x
 ·omega
theorem Ip (s:List UInt8):∀ n p,p<=s.length->(aV s n p).2<=s.length+1:=by
 intro n
 induction n with
 | zero=>intro p h; exact Nat.le_succ_of_le h
 | succ n ih =>
  intro p h;unfold aV
  cases he:oJ s p
  ·have lt:=mg s p he;simp only [Bool.false_eq_true,if_false];split
   ·exact ih _ (by omega)
   split
   ·exact Nat.le_succ _
   ·rename_i hk;exact ih _ (jD s p he hk).2
  ·exact Nat.succ_le_succ (kH As.bF s p h)
end Rf
def xI (g:Nat) (vq vl:Value) (kk:Int) (d:Rf.Ds):Array Value:=#[.pointer (some ⟨g,0,none⟩),vq,.int .i64 d.ah,vl,.int .i64 kk,.int .i64 d.fe,.int .i64 d.fa,.int .i64 d.op]
structure Mn (B m g:Nat) (d:Rf.Ds) (V:World) (vq vl:Value) (kk:Int) (vt vf vd va vs vr:Value):Prop where
 blk:yd V m (xI g vq vl kk d) 46
 said:V.ownsRow B 4 1 vq d.said.length (d.said.map Value.bool)
 own:qD B V m g d.obj vt vf vd va vs vr
 lo:3<=B/\B<=m/\B<=g/\m≠g
 sz:Ch d
 tabs:gD V
 fe:d.fe<=99
 fa:d.fa<=1000
 op:d.op<=1000
 ah:1<=d.ah/\d.ah<=4
def Y5 (B m g:Nat) (d:Rf.Ds) (V:World):Prop:=∃ vq vl kk vt vf vd va vs vr,Mn B m g d V vq vl kk vt vf vd va vs vr
section
variable {B m g:Nat} {ao:Option Addr} {cap:Nat} {L:List Rf.Tk} {d:Rf.Ds} {W V:World} {vq vl vt vf vd va vs vr:Value} {kk:Int}
theorem Mo.between (h:Mo B m g ao cap L d V vq vt vf vd va vs vr):Mn B m g d V vq (.slice ao L.length cap) d.k vt vf vd va vs vr :=
 ⟨h.md.blk,h.said,h.own,h.lo,h.sz,h.tabs,h.md.ok.fe,h.md.ok.fa,h.md.ok.op,h.md.ok.ah⟩
theorem Mn.size (h:Mn B m g d W vq vl kk vt vf vd va vs vr):B<=W.heap.size:=by have:=h.blk.lt; have:=h.lo; omega
theorem Mn.grown (h:Mn B m g d W vq vl kk vt vf vd va vs vr) (hg:W.grownBy V none):Mn B m g d V vq vl kk vt vf vd va vs vr :=
 ⟨h.blk.grown hg (by simp),h.said.kept hg (Decidable.em _),h.own.keep fun i _ hl=>hg.block i hl (by simp),h.lo,h.sz,h.tabs.grown hg,h.fe,h.fa,h.op,h.ah⟩
theorem yla {Z:Nat} (h:V.ownsRow Z 69 5 (.slice ao L.length cap) L.length (L.flatMap Gd)) (h0:0 < L.length):∃ b cs,ao=some ⟨b,0,none⟩/\yd V b cs 69/\∀ i (hi:i < L.length),V.cell? ⟨b,i * 5,none⟩=some (.int .u8 L[i].kind)/\V.cell? ⟨b,i * 5+1,none⟩=some (.int .i64 L[i].at_)/\V.cell? ⟨b,i * 5+2,none⟩=some (.string (bs L[i].text))/\V.cell? ⟨b,i * 5+3,none⟩=some (.int .i64 L[i].num)/\V.cell? ⟨b,i * 5+4,none⟩=some (.int .i64 L[i].e):=by
 obtain ⟨b,cur,rfl,hb,-,-,-⟩:=Gh h h0;refine ⟨b,cur,rfl,hb,fun i hi=>?_⟩;have q:=fun j (hj:j < 5)=>(h.cellAt (i * 5+j) (by omega)).trans (OL Gd 5 (fun _=>rfl) L i j hi hj)
 exact ⟨q 0 (by omega),q 1 (by omega),q 2 (by omega),q 3 (by omega),q 4 (by omega)⟩
theorem Mn.lay {Z:Nat} (h:Mn B m g d V vq vl kk vt vf vd va vs vr) (ht:V.ownsRow Z 69 5 (.slice ao L.length cap) L.length (L.flatMap Gd)) (h0:0 < L.length) (hl:L.length<=1001) (hk:∀ x∈L,zD x) :
  Mo B m g ao cap L { d with k:=0 } ((V.setCell ⟨m,3,none⟩ (.slice ao L.length cap)).setCell ⟨m,4,none⟩ (.int .i64 0)) vq vt vf vd va vs vr/\Below B V ((V.setCell ⟨m,3,none⟩ (.slice ao L.length cap)).setCell ⟨m,4,none⟩ (.int .i64 0)):=by
 obtain ⟨b,cs,rfl,hb,hc⟩:=yla ht h0;have ne:b≠m:=fun e=>by
  subst e
  have:=hb.symm.trans h.blk
  simp at this
 have b1:=h.blk.set 3 (.slice (some ⟨b,0,none⟩) L.length cap);have b2:=b1.set 4 (.int .i64 0);have k1:=tX h.blk 3 (.slice (some ⟨b,0,none⟩) L.length cap);have k2:=tX b1 4 (.int .i64 0);have ks:yG [46] V ((V.setCell ⟨m,3,none⟩ (.slice (some ⟨b,0,none⟩) L.length cap)).setCell ⟨m,4,none⟩ (.int .i64 0)):=k1.trans k2 (fun _ x=>x);have l1:Below B V (V.setCell ⟨m,3,none⟩ (.slice (some ⟨b,0,none⟩) L.length cap)):=zh 3 _ h.lo.2.1 h.size;have l2:Below B (V.setCell ⟨m,3,none⟩ (.slice (some ⟨b,0,none⟩) L.length cap)) ((V.setCell ⟨m,3,none⟩ (.slice (some ⟨b,0,none⟩) L.length cap)).setCell ⟨m,4,none⟩ (.int .i64 0)):=zh 4 _ h.lo.2.1 (Nat.le_trans h.size l1.size)
 have bl:=l1.trans l2;have g1:=yy V m 3 (.slice (some ⟨b,0,none⟩) L.length cap);have g2:=yy (V.setCell ⟨m,3,none⟩ (.slice (some ⟨b,0,none⟩) L.length cap)) m 4 (.int .i64 0);have kp:∀ (o:Nat) (v:Value),V.cell? ⟨b,o,none⟩=some v->((V.setCell ⟨m,3,none⟩ (.slice (some ⟨b,0,none⟩) L.length cap)).setCell ⟨m,4,none⟩ (.int .i64 0)).cell? ⟨b,o,none⟩=some v:=fun o v hv=>g2.cell (g1.cell hv (by simpa using ne)) (by simpa using ne)
 refine ⟨⟨⟨by simpa [xI,yr] using b2,fun _=>⟨b,rfl,fun i hi=>?_⟩,fun a ha=>?_,⟨h0,hl,hk,h.fe,h.fa,h.op,h.ah⟩⟩,⟨b,cs,rfl,ks _ _ _ (by decide) hb⟩,yh h.said ks (by decide),⟨ks _ _ _ (by decide) h.own.blk,yh h.own.text ks (by decide),yh h.own.far ks (by decide),yh h.own.data ks (by decide),yh h.own.align ks (by decide),yh h.own.syms ks (by decide),yh h.own.aj ks (by decide),h.own.apart⟩,h.lo,⟨h.sz.text,h.sz.far,h.sz.data,h.sz.bss,h.sz.align,h.sz.syms,h.sz.aj,h.sz.said⟩,Ow h.tabs bl h.lo.1⟩,bl⟩
 ·obtain ⟨c0,c1,c2,c3,c4⟩:=hc i hi;exact ⟨kp _ _ c0,kp _ _ c1,kp _ _ c2,kp _ _ c3,kp _ _ c4⟩
 ·obtain rfl:=Option.some.inj ha;exact ne
end
end Go.Proofs.YtnkkepfcpjllmaaGreatDoor
