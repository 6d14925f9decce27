
import Derived.Test.YtpgklkhgfcjceaaGreatDoorV17
set_option maxHeartbeats 16000000
set_option maxRecDepth 100000
namespace Go.Proofs.YtpgklkhgfcjceaaGreatDoor
open Go.RowKit
theorem XE (g:Nat) (o:Lk.Obj) (ah:Nat) (w:World) (h:yu w g o) (hb4:AJ o.align) (h1:1<=ah) (h3:ah<=4) :
  Calls Tryz.prog 106 #[.pointer (some ⟨g,0,none⟩),.int .i64 ah] w fun e w'=>e = .returned (.int .i64 (Ln.aI o ah))/\w'=w:=by
 obtain ⟨at_,ct,af,cf,ad,cd,aa,ca,gy,cs,ar,cr,hb,-,-,-,q4,-⟩:=h.open;have hl:=hb4.1;have hr:=hb4.2 (ah - 1) (by omega);obtain ⟨ga,off,rfl,hc⟩:=yy.aO q4 (by omega);have hck:=hc (ah - 1) (by omega);have k4:=hb.cell 4;clear h hb hc q4;have g1:(1:Int)<=(ah:Int):=by omega
 have g2:(ah:Int)<=4:=by omega
 have HL:=hid hl;have hl4:4<=o.align.length:=by omega
 have hl5:o.align.length<=4:=by omega
 have hpf:ah - 1 < o.align.length:=by omega
 have hk:w.cell? ⟨ga,off+(ah - 1),none⟩=some (.int .i64 (o.align[ah - 1]'hpf)):=hck;clear hck;have EB:Ln.aI o ah=xJ (o.align[ah - 1]'hpf):=by unfold Ln.aI; rw [lC,j3 hpf]; rfl
 rw [EB];clear EB;replace hr:2<=o.align[ah - 1]'hpf/\o.align[ah - 1]'hpf<=4:=hr;generalize o.align[ah - 1]'hpf=x at *;generalize o.align.length=n at *;rcases (show x=2\/x=3\/x=4 from by omega) with rfl | rfl | rfl
 all_goals
  clear hr HL hb4;go_enter Tryz.func106,Tryz.ntmps106;go_wp2;go_ret;exact ⟨by simp [xJ],rfl⟩
theorem Yk {m m':Ln.Mod} (h1:m'.obj=m.obj) (h2:m'.short=m.short) (ah off a:Int):Ln.stays m' ah off a=Ln.stays m ah off a:=by unfold Ln.stays; rw [h1,h2]
theorem yhk {m m':Ln.Mod} (h1:m'.obj=m.obj) (h2:m'.short=m.short) (ah:Int):∀ (ws:List Int) (k:Nat) (a:Int),Ln.bD m' ah k ws a=Ln.bD m ah k ws a:=by
 intro ws
 induction ws with
 | nil=>intro k a; rfl
 | cons x ws ih=>intro k a; unfold Ln.bD; rw [ih,Yk h1 h2]
theorem yjA {m m':Ln.Mod} (h1:m'.obj=m.obj) (h2:m'.short=m.short) (ah:Int):∀ (ws:List Int) (k:Nat) (a:Int),Ln.eB m' ah k ws a=Ln.eB m ah k ws a:=by
 intro ws
 induction ws with
 | nil=>intro k a; rfl
 | cons x ws ih=>intro k a; unfold Ln.eB; rw [ih,Yk h1 h2]
theorem OZ {m m':Ln.Mod} (h1:m'.obj=m.obj) (h2:m'.short=m.short) (ah:Nat) (f:Int):Ln.aZ m' ah f=Ln.aZ m ah f:=by
 unfold Ln.aZ Ln.begin_; rw [yhk h1 h2,h1]
theorem Pp {m m':Ln.Mod} (h1:m'.obj=m.obj) (h2:m'.short=m.short) (ah:Nat) (f:Int):Ln.dD m' ah f=Ln.dD m ah f:=by
 unfold Ln.dD Ln.begin_; rw [yjA h1 h2,h1]
theorem Xc (m:Ln.Mod) (ah:Int):∀ (ws:List Int) (k:Nat) (a:Int),(Ln.bD m ah k ws a).length=ws.length+1/\∀ p∈Ln.bD m ah k ws a,a<=p/\p<=a+4 * ws.length:=by
 intro ws
 induction ws with
 | nil=>intro k a; refine ⟨rfl,fun p hp=>?_⟩; simp [Ln.bD] at hp; subst hp; simp
 | cons x ws ih =>
  intro k a;unfold Ln.bD
  have:=ih (k+1) (if Ln.stays m ah (4 * k) a then a+4 else a)
  refine ⟨by rw [jm,this.1]; simp,fun p hp=>?_⟩;rcases List.mem_cons.1 hp with rfl | hp
  ·simp only [jm]; omega
  ·have q:=this.2 p hp;simp only [jm];split at q <;> omega
theorem yiH (m:Ln.Mod) (ah:Int):∀ (ws:List Int) (k:Nat) (a:Int),a<=Ln.eB m ah k ws a/\Ln.eB m ah k ws a<=a+4 * ws.length:=by
 intro ws
 induction ws with
 | nil=>intro k a; simp [Ln.eB]
 | cons x ws ih =>
  intro k a;unfold Ln.eB;have q:=ih (k+1) (if Ln.stays m ah (4 * k) a then a+4 else a);simp only [jm];split at q <;> rename_i e <;> simp only [e] <;> simp <;> omega
theorem yoR {o:Lk.Obj} (hv:yv o) (ah:Nat) (hs:ah=1\/ah=2):(yx o ah).length<=1200:=by
 have:=hv.1.1
 rcases hs with rfl | rfl
 ·exact this.1
 ·exact this.2.1
theorem Hu {m:Ln.Mod} (hv:yv m.obj) (ah:Nat) (hs:ah=1\/ah=2) (f:Int) (h0:0<=f) (h1:f<=562949953421312) :
  (f<=Ln.dD m ah f/\Ln.dD m ah f<=f+4815)/\(Ln.aZ m ah f).length<=1201/\∀ p∈Ln.aZ m ah f,f<=p/\p<=f+4815:=by
 have hl:=yoR hv ah hs;have r:=Ad f (Ln.aI m.obj ah) h0 (by omega) (yZ _);have e:=yiH m ah (yx m.obj ah) 0 (Ln.begin_ m ah f);have p:=Xc m ah (yx m.obj ah) 0 (Ln.begin_ m ah f);have b:Ln.begin_ m ah f=Ln.rup f (Ln.aI m.obj ah):=rfl;rw [b] at e p;refine ⟨?_,?_,fun q hq=>?_⟩
 ·unfold Ln.dD; rw [b]; omega
 ·unfold Ln.aZ; rw [b,p.1]; omega
 ·have:=p.2 q hq; omega
section
variable {w:World} {bl:List Nat} {b g n:Nat} {m:Ln.Mod} {x:Int} {ps:List Int}
theorem yD.tX (h:yD w bl b g m) (x:Int):yD (w.setCell ⟨b,5,none⟩ (.int .i64 x)) bl b g { m with data:=x }:=by
 obtain ⟨u1,u2,u3,u4,q0,q1,q2,q3,q4,q5,q6,q7⟩:=h;have gs:=ye w b 5 (.int .i64 x);have R:=bR.blk q0;exact ⟨u1,u2,u3,u4,by simpa using q0.set 5 (.int .i64 x),um q1 gs R (by decide) (by decide) (by decide) (by decide),yA q2 gs R (by decide),yA q3 gs R (by decide),yA q4 gs R (by decide),yA q5 gs R (by decide),q6,q7⟩
theorem yD.xD (h:yD w bl b g m) (x:Int):yD (w.setCell ⟨b,6,none⟩ (.int .i64 x)) bl b g { m with bss:=x }:=by
 obtain ⟨u1,u2,u3,u4,q0,q1,q2,q3,q4,q5,q6,q7⟩:=h;have gs:=ye w b 6 (.int .i64 x);have R:=bR.blk q0;exact ⟨u1,u2,u3,u4,by simpa using q0.set 6 (.int .i64 x),um q1 gs R (by decide) (by decide) (by decide) (by decide),yA q2 gs R (by decide),yA q3 gs R (by decide),yA q4 gs R (by decide),yA q5 gs R (by decide),q6,q7⟩
theorem yI.pY (h:yI n m) (hl:ps.length<=65536) (hp:∀ p∈ps,0<=p/\p<=1125899906842624):yI n { m with text:=ps }:=⟨⟨hl,hp⟩,h.far,h.data,h.bss,h.means,h.short,h.aj⟩
theorem yI.xE (h:yI n m) (hl:ps.length<=65536) (hp:∀ p∈ps,0<=p/\p<=1125899906842624):yI n { m with far:=ps }:=⟨h.text,⟨hl,hp⟩,h.data,h.bss,h.means,h.short,h.aj⟩
theorem yI.tX (h:yI n m) (hx:0<=x/\x<=1125899906842624):yI n { m with data:=x }:=⟨h.text,h.far,hx,h.bss,h.means,h.short,h.aj⟩
theorem yI.xD (h:yI n m) (hx:0<=x/\x<=1125899906842624):yI n { m with bss:=x }:=⟨h.text,h.far,h.data,hx,h.means,h.short,h.aj⟩
end
theorem Pq:∀ (ms:List Ln.Mod) (t f d:Int),(Ln.dw ms t f d).length=ms.length:=by
 intro ms
 induction ms with
 | nil=>intro t f d; rfl
 | cons m ms ih=>intro t f d; unfold Ln.dw; rw [jm,ih,jm]
theorem XL:∀ (ms:List Ln.Mod) (b:Int),(Ln.eP ms b).length=ms.length:=by
 intro ms
 induction ms with
 | nil=>intro b; rfl
 | cons m ms ih=>intro b; unfold Ln.eP; rw [jm,ih,jm]
theorem Yq {α:Type} {l r:List α} {x:α} {k:Nat} (hk:k < l.length) (h:l.drop k=x :: r):l[k]=x/\l.drop (k+1)=r:=by
 rw [lV hk] at h;exact List.cons.inj h
theorem Pv {o:Lk.Obj} (h:yv o):vS o:=by
 obtain ⟨⟨⟨a,b,c⟩,-,d,e⟩,f,-⟩:=h
 have:=f.1
 exact ⟨by omega,by omega,by omega,by omega,by omega,by omega⟩
theorem Ng:∀ (ms:List Ln.Mod) (t f d:Int),(Ln.dw ms t f d).map Ln.Mod.obj=ms.map Ln.Mod.obj:=by
 intro ms
 induction ms with
 | nil=>intro t f d; rfl
 | cons m ms ih=>intro t f d; unfold Ln.dw; rw [List.map_cons,ih,List.map_cons]; rfl
theorem ykW:∀ (ms ms':List Ln.Mod) (b:Int),ms'.map Ln.Mod.obj=ms.map Ln.Mod.obj->Ln.iJ ms' b=Ln.iJ ms b:=by
 intro ms
 induction ms with
 | nil =>
  intro ms' b h
  cases ms' with
  | nil=>rfl
  | cons x xs=>simp at h
 | cons m ms ih =>
  intro ms' b h
  cases ms' with
  | nil=>simp at h
  | cons x xs =>
   rw [List.map_cons,List.map_cons] at h;obtain ⟨h1,h2⟩:=List.cons.inj h;unfold Ln.iJ;rw [h1,ih xs _ h2]
theorem XK (Wf W0:World) (P:Nat) (bt bf bd:Int) (vm:Value) (bl gl:List Nat) (ms:List Ln.Mod) (st:Ln.gM) (no:Int) (W:World) (h:yU Wf W0 P bt bf bd vm bl gl ms st no W) (hn:∀ m∈ms,yI bl.length m) (hv:∀ m∈ms,yv m.obj)
  (hbt:0<=bt/\bt<=4294967296) (hbf:0<=bf/\bf<=4294967296) (hbd:0<=bd/\bd<=4294967296) :
  Calls Tryz.prog 70 #[aW P] W fun e W'=>e = .returned (.tuple #[])/\yU Wf W0 P bt bf bd vm bl gl (Ln.lay bt bf bd ms) st (Ln.noughts bd ms) W':=by
 obtain ⟨am,cm,rfl⟩:=yi h.row;have H0:=hid h;have c0:W.cell? ⟨P,0,none⟩=some (.int .i64 bt):=h.blk.cell 0;have c1:W.cell? ⟨P,1,none⟩=some (.int .i64 bf):=h.blk.cell 1;have c2:W.cell? ⟨P,2,none⟩=some (.int .i64 bd):=h.blk.cell 2;have c3:W.cell? ⟨P,3,none⟩=some (.slice am bl.length cm):=h.blk.cell 3;have hbl:=h.few;have LO:=hid h.gK;have HN:=hid hn;have HV:=hid hv;have LL:=hid (Pq ms bt bf bd);obtain ⟨L1,hL1⟩:∃ L1,L1=Ln.dw ms bt bf bd:=⟨_,rfl⟩
 have GJ:=hid hL1;rw [<- hL1] at LL;clear h hn hv hL1;unfold aW;go_enter Tryz.func70,Tryz.ntmps70;go_wp2
 go_quiet (fail)
 have HW1:=hid (H0.o.kept (yf (World.grownBy.refl W none) nq));go_wp2;generalize W.drewN nq=W1 at *;clear c0 c1 c2 c3 H0
 go_loopw [2,3,4,30] (fun vt vf vd i wr=>∃ (k:Nat) (t f d:Int),k<=bl.length/\i = .int .i64 k/\vt = .int .i64 t/\vf = .int .i64 f/\vd = .int .i64 d/\yU Wf W0 P bt bf bd (.slice am bl.length cm) bl gl (L1.take k ++ ms.drop k) st no wr/\L1.drop k=Ln.dw (ms.drop k) t f d/\Ln.dS ms bd=Ln.dS (ms.drop k) d/\(0<=t/\t<=4294967296+5000 * k)/\(0<=f/\f<=4294967296+5000 * k)/\(0<=d/\d<=4294967296+5000 * k)) (fun _ _ _ i _=>bl.length - (intOf i).toNat)
 case atStart=>exact ⟨0,bt,bf,bd,Nat.zero_le _,rfl,rfl,rfl,rfl,by simpa using HW1.o,by rw [GJ.o]; rfl,rfl,by omega,by omega,by omega⟩
 case round =>
  obtain ⟨k,t,f,d,hk,rfl,rfl,rfl,rfl,hpa,hld,hde,ht,hf,hd⟩:=hrel;have HP:=hid hpa;have Ij:=hid hld;have NY:=hid hde;clear hpa hld hde HW1;by_cases hlt:k < bl.length
  ·have hko:k < ms.length:=by rw [LO.o]; exact hlt
   have hkg:k < gl.length:=by rw [HP.o.iQ]; exact hlt
   have zL:k < L1.length:=by rw [LL.o]; exact hko
   obtain ⟨sg,off,hsg,hsc⟩:=HP.o.jk.ptrs (by omega);have ck:=hsc k hlt;have HM:yD wr bl bl[k] (gl[k]'hkg) ms[k]:=by
    have:=HP.o.mods k hlt
    rwa [KU ms L1 k hko (by rw [LL.o]; omega)] at this
   have MV:=HV.o _ (iq hko);have MN:=HN.o _ (iq hko);have R1:=Hu MV 1 (.inl rfl) t ht.1 (by omega);have R2:=Hu MV 2 (.inr rfl) f hf.1 (by omega);have UP:=hid (fun (w2:World) (hg:wr.grownBy w2 (some bl[k])) (hm:yD w2 bl bl[k] (gl[k]'hkg) (Ln.bH ms[k] t f d))=>show yU Wf W0 P bt bf bd (.slice am bl.length cm) bl gl (L1.take (k+1) ++ ms.drop (k+1)) st no w2/\L1.drop (k+1)=Ln.dw (ms.drop (k+1)) (Ln.dD ms[k] 1 t) (Ln.dD ms[k] 2 f) (Ln.rup d (Ln.aI ms[k].obj 3)+4 * ms[k].obj.data.length)/\Ln.dS ms bd=Ln.dS (ms.drop (k+1)) (Ln.rup d (Ln.aI ms[k].obj 3)+4 * ms[k].obj.data.length) from by
    have e:=Ij.o;rw [lV hko] at e;obtain ⟨e1,e2⟩:=Yq zL e;refine ⟨?_,e2,?_⟩
    ·rw [<- P9 ms L1 k hko zL LL.o,e1];exact HP.o.upd hlt (by rw [HP.o.gK]; exact hlt) hg hm (by rw [KU ms L1 k hko (by rw [LL.o]; omega)]; rfl)
    ·have e3:=NY.o;rw [lV hko] at e3;exact e3)
   have g1:(k:Int) < (bl.length:Int):=by omega
   have RD:=Ad d (Ln.aI ms[k].obj 3) hd.1 (by omega) (yZ _);have BV:Ln.aI ms[k].obj 3=4\/Ln.aI ms[k].obj 3=8\/Ln.aI ms[k].obj 3=16:=yZ _;have hdl:ms[k].obj.data.length<=64:=MV.1.1.2.2;clear hsc HP Ij NY;generalize ms[k]=m at *;generalize WK:(gl[k]'hkg)=gk at *;generalize hbk:bl[k]=bk at *;have Mf:=hid (XR bl bk gk bl.length m 1 t wr HM MN MV (.inl rfl) ht.1 (by omega));have Wi:=hid (fun W2 (h2:yD W2 bl bk gk { m with text:=Ln.aZ m 1 t })=>XR bl bk gk bl.length _ 2 f W2 h2 (MN.pY (by omega) (fun p hp=>by have:=R1.2.2 p hp; omega)) MV (.inr rfl) hf.1 (by omega));have cB:=hid (fun W2 (h2:yu W2 gk m.obj)=>XE gk m.obj 3 W2 h2 MV.2.1 (by omega) (by omega))
   have cU:=hid (fun W2=>Pt d (Ln.aI m.obj 3) W2 hd.1 (by omega) (by omega) (by omega));have cN:=hid (fun W2 (h2:yu W2 gk m.obj)=>Ph gk m.obj 3 W2 h2 (Pv MV) MV.1.2.1);subst hsg;unfold aW at *;go_wp2_with fail;refine Mf.o.mono ?_;rintro e W2 ⟨rfl,g2,m2⟩;have M2:=hid (show yD W2 bl bk gk { m with text:=Ln.aZ m 1 t } from m2);have Va:=hid g2;clear g2 m2 Mf;go_wp2_with fail;refine (Wi.o _ M2.o).mono ?_;rintro e W3 ⟨rfl,g3,m3⟩;have EL:Ln.dD { m with text:=Ln.aZ m 1 t } 2 f=Ln.dD m 2 f:=Pp (m:=m) (m':={ m with text:=Ln.aZ m 1 t }) rfl rfl 2 f;rw [EL];have M3:=hid (show yD W3 bl bk gk { m with text:=Ln.aZ m 1 t,far:=Ln.aZ m 2 f } by
    have e:Ln.aZ { m with text:=Ln.aZ m 1 t } 2 f=Ln.aZ m 2 f:=OZ (m:=m) (m':={ m with text:=Ln.aZ m 1 t }) rfl rfl 2 f;rw [e] at m3;exact m3)
   have Vb:=hid (Va.o.trans g3);clear g3 m3 Wi EL Va M2;have k0:W3.cell? ⟨bk,0,none⟩=some (.pointer (some ⟨gk,0,none⟩)):=by obtain ⟨u1,u2,u3,u4,q0,-⟩:=M3.o; exact q0.cell 0
   have k5:W3.cell? ⟨bk,5,none⟩=some (.int .i64 m.data):=by obtain ⟨u1,u2,u3,u4,q0,-⟩:=M3.o; exact q0.cell 5
   have f5:W3.frozen? ⟨bk,5,none⟩=false:=by obtain ⟨u1,u2,u3,u4,q0,-⟩:=M3.o; exact q0.free 5
   have o3:Hd (yu W3 gk m.obj):=by obtain ⟨u1,u2,u3,u4,q0,q1,-⟩:=M3.o; exact q1
   go_wp2_with fail;refine (cB.o _ o3.o).mono ?_;rintro e w' ⟨rfl,hw⟩;rw [hw];clear hw w';go_wp2_with fail;refine (cU.o _).mono ?_;rintro e w' ⟨rfl,hw⟩;rw [hw];clear hw w';generalize OG:Ln.rup d (Ln.aI m.obj 3)=rd at *;have HRU:=hid OG;clear OG;have M4:=hid (M3.o.tX rd);have Lg:=hid (Vb.o.trans (ye W3 bk 5 (.int .i64 rd)));go_wp2;clear k0 k5 f5 o3 M3 Vb cB cU;generalize W3.setCell ⟨bk,5,none⟩ (.int .i64 rd)=W4 at *;have k0:W4.cell? ⟨bk,0,none⟩=some (.pointer (some ⟨gk,0,none⟩)):=by obtain ⟨u1,u2,u3,u4,q0,-⟩:=M4.o; exact q0.cell 0
   have k5:W4.cell? ⟨bk,5,none⟩=some (.int .i64 rd):=by obtain ⟨u1,u2,u3,u4,q0,-⟩:=M4.o; exact q0.cell 5
   have O4:Hd (yu W4.drew gk m.obj):=by obtain ⟨u1,u2,u3,u4,q0,q1,-⟩:=M4.o; exact q1.kept (yh (World.grownBy.refl _ _))
   have es:xM m.obj 3=m.obj.data.length:=rfl;rw [es] at cN;have w1:IntKind.i64.wrap (rd+4 * (m.obj.data.length:Int))=rd+4 * m.obj.data.length:=IntWalk.i64_in _ ⟨by omega,by omega⟩
   go_region_held3 (fun w'=>w'.cell? ⟨bk,0,none⟩=some (.pointer (some ⟨gk,0,none⟩))/\w'.cell? ⟨bk,5,none⟩=some (.int .i64 rd))
    (go_keep)
    (first | (go_at_call 87; refine (cN.o _ O4.o).mono ?_; rintro e w' ⟨rfl,hw⟩; rw [hw]; clear hw w'))
   have UQ:=hid (UP.o W4.drew (yh Lg.o) (by
    have:=M4.o.kept (yh (World.grownBy.refl W4 none))
    rw [<- HRU.o] at this;exact this))
   clear UP M4 Lg cN O4;go_wp2
   go_roundw
   case rel=>exact ⟨k+1,_,_,_,by omega,by go_num,rfl,rfl,rfl,UQ.o.1,UQ.o.2.1,UQ.o.2.2,by omega,by omega,by omega⟩
   case measure=>simp [intOf]; omega
  ·obtain rfl:k=bl.length:=by omega
   have g3:decide ((bl.length:Int) < (bl.length:Int))=false:=by simp
   have LB:=hid (show yU Wf W0 P bt bf bd (.slice am bl.length cm) bl gl L1 st no wr by
    have:=HP.o
    rwa [List.drop_of_length_le (by rw [LO.o]; exact Nat.le_refl _),List.append_nil,List.take_of_length_le (by rw [LL.o,LO.o]; exact Nat.le_refl _)] at this)
   have DE:=hid (show Ln.dS ms bd=d by rw [NY.o,List.drop_of_length_le (by rw [LO.o]; exact Nat.le_refl _)]; rfl);have c3:wr.cell? ⟨P,3,none⟩=some (.slice am bl.length cm):=LB.o.blk.cell 3;have Kq:=hid (XL L1 d);obtain ⟨L2,hL2⟩:∃ L2,L2=Ln.eP L1 d:=⟨_,rfl⟩
   have HL2:=hid hL2;rw [<- hL2] at Kq;have OV:=hid (show ∀ i (h:i < L1.length),yv L1[i].obj from fun i h=>by
    have e:L1.map Ln.Mod.obj=ms.map Ln.Mod.obj:=by rw [GJ.o]; exact Ng ms bt bf bd
    have:L1[i].obj∈ms.map Ln.Mod.obj:=by rw [<- e]; exact List.mem_map_of_mem (iq h)
    obtain ⟨x,hx,e2⟩:=List.mem_map.1 this;rw [<- e2];exact HV.o x hx)
   have FIN:=hid (show Ln.lay bt bf bd ms=L2/\Ln.noughts bd ms=(Ln.iJ L1 d - d) / 4 by
    unfold Ln.lay Ln.noughts;rw [DE.o,<- GJ.o,<- HL2.o];refine ⟨rfl,?_⟩;rw [ykW ms L1 d (by rw [GJ.o]; exact Ng ms bt bf bd)])
   clear hL2 HP Ij NY;go_wp2;generalize wr=V1 at *;clear c3
   go_loopw [7,67] (fun vb i wr=>∃ (k:Nat) (b:Int),k<=bl.length/\i = .int .i64 k/\vb = .int .i64 b/\yU Wf W0 P bt bf bd (.slice am bl.length cm) bl gl (L2.take k ++ L1.drop k) st no wr/\L2.drop k=Ln.eP (L1.drop k) b/\Ln.iJ L1 d=Ln.iJ (L1.drop k) b/\(d<=b/\b<=4294967296+5000 * bl.length+5000 * k)) (fun _ i _=>bl.length - (intOf i).toNat)
   case atStart=>exact ⟨0,d,Nat.zero_le _,rfl,rfl,by simpa using LB.o,by rw [HL2.o]; rfl,rfl,Int.le_refl _,by omega⟩
   case round =>
    obtain ⟨k,b,hk2,rfl,rfl,hpa,hld,hbe,hb⟩:=hrel;have HP:=hid hpa;have Ij:=hid hld;have NW:=hid hbe;clear hpa hld hbe LB;by_cases hlt:k < bl.length
    ·have zL:k < L1.length:=by rw [LL.o,LO.o]; exact hlt
     have hkg:k < gl.length:=by rw [HP.o.iQ]; exact hlt
     have ME:k < L2.length:=by rw [Kq.o]; exact zL
     obtain ⟨sg,off,hsg,hsc⟩:=HP.o.jk.ptrs (by omega);have ck:=hsc k hlt;have HM:yD wr bl bl[k] (gl[k]'hkg) L1[k]:=by
      have:=HP.o.mods k hlt
      rwa [KU L1 L2 k zL (by rw [Kq.o]; omega)] at this
     have MV:=OV.o k zL;have UP:=hid (fun (w2:World) (hg:wr.grownBy w2 (some bl[k])) (hm:yD w2 bl bl[k] (gl[k]'hkg) { L1[k] with bss:=Ln.rup b (Ln.aI L1[k].obj 4) })=>show yU Wf W0 P bt bf bd (.slice am bl.length cm) bl gl (L2.take (k+1) ++ L1.drop (k+1)) st no w2/\L2.drop (k+1)=Ln.eP (L1.drop (k+1)) (Ln.rup b (Ln.aI L1[k].obj 4)+4 * L1[k].obj.bss)/\Ln.iJ L1 d=Ln.iJ (L1.drop (k+1)) (Ln.rup b (Ln.aI L1[k].obj 4)+4 * L1[k].obj.bss) from by
      have e:=Ij.o;rw [lV zL] at e;obtain ⟨e1,e2⟩:=Yq ME e;refine ⟨?_,e2,?_⟩
      ·rw [<- P9 L1 L2 k zL ME Kq.o,e1];exact HP.o.upd hlt (by rw [HP.o.gK]; exact hlt) hg hm (by rw [KU L1 L2 k zL (by rw [Kq.o]; omega)])
      ·have e3:=NW.o;rw [lV zL] at e3;exact e3)
     have g1:(k:Int) < (bl.length:Int):=by omega
     have RD:=Ad b (Ln.aI L1[k].obj 4) (by omega) (by omega) (yZ _);have BV:Ln.aI L1[k].obj 4=4\/Ln.aI L1[k].obj 4=8\/Ln.aI L1[k].obj 4=16:=yZ _;have hdl:=MV.1.2.1;clear hsc HP Ij NW;generalize L1[k]=m at *;generalize WK:(gl[k]'hkg)=gk at *;generalize hbk:bl[k]=bk at *;have cB:=hid (fun W2 (h2:yu W2 gk m.obj)=>XE gk m.obj 4 W2 h2 MV.2.1 (by omega) (by omega));have cU:=hid (fun W2=>Pt b (Ln.aI m.obj 4) W2 (by omega) (by omega) (by omega) (by omega));have cN:=hid (fun W2 (h2:yu W2 gk m.obj)=>Ph gk m.obj 4 W2 h2 (Pv MV) MV.1.2.1);subst hsg;have M3:=hid HM;clear HM;have k0:wr.cell? ⟨bk,0,none⟩=some (.pointer (some ⟨gk,0,none⟩)):=by obtain ⟨u1,u2,u3,u4,q0,-⟩:=M3.o; exact q0.cell 0
     have k6:wr.cell? ⟨bk,6,none⟩=some (.int .i64 m.bss):=by obtain ⟨u1,u2,u3,u4,q0,-⟩:=M3.o; exact q0.cell 6
     have f6:wr.frozen? ⟨bk,6,none⟩=false:=by obtain ⟨u1,u2,u3,u4,q0,-⟩:=M3.o; exact q0.free 6
     have o3:Hd (yu wr gk m.obj):=by obtain ⟨u1,u2,u3,u4,q0,q1,-⟩:=M3.o; exact q1
     unfold aW at *;go_wp2_with fail;refine (cB.o _ o3.o).mono ?_;rintro e w' ⟨rfl,hw⟩;rw [hw];clear hw w';go_wp2_with fail;refine (cU.o _).mono ?_;rintro e w' ⟨rfl,hw⟩;rw [hw];clear hw w';generalize OG:Ln.rup b (Ln.aI m.obj 4)=rd at *;have M4:=hid (M3.o.xD rd);have Lg:=hid (ye wr bk 6 (.int .i64 rd));clear OG;go_wp2;clear k0 k6 f6 o3 M3 cB cU ck;generalize wr.setCell ⟨bk,6,none⟩ (.int .i64 rd)=W4 at *;have k0:W4.cell? ⟨bk,0,none⟩=some (.pointer (some ⟨gk,0,none⟩)):=by obtain ⟨u1,u2,u3,u4,q0,-⟩:=M4.o; exact q0.cell 0
     have k6:W4.cell? ⟨bk,6,none⟩=some (.int .i64 rd):=by obtain ⟨u1,u2,u3,u4,q0,-⟩:=M4.o; exact q0.cell 6
     have O4:Hd (yu W4.drew gk m.obj):=by obtain ⟨u1,u2,u3,u4,q0,q1,-⟩:=M4.o; exact q1.kept (yh (World.grownBy.refl _ _))
     have es:xM m.obj 4=m.obj.bss:=rfl;rw [es] at cN;have w1:IntKind.i64.wrap (rd+4 * m.obj.bss)=rd+4 * m.obj.bss:=IntWalk.i64_in _ ⟨by omega,by omega⟩
     go_region_held3 (fun w'=>w'.cell? ⟨bk,0,none⟩=some (.pointer (some ⟨gk,0,none⟩))/\w'.cell? ⟨bk,6,none⟩=some (.int .i64 rd))
      (go_keep)
      (first | (go_at_call 87; refine (cN.o _ O4.o).mono ?_; rintro e w' ⟨rfl,hw⟩; rw [hw]; clear hw w'))
     have UQ:=hid (UP.o W4.drew (yh Lg.o) (M4.o.kept (yh (World.grownBy.refl W4 none))));clear UP M4 Lg cN O4;go_wp2
     go_roundw
     case rel=>exact ⟨k+1,_,by omega,by go_num,rfl,UQ.o.1,UQ.o.2.1,UQ.o.2.2,by omega,by omega⟩
     case measure=>simp [intOf]; omega
    ·obtain rfl:k=bl.length:=by omega
     have g3:decide ((bl.length:Int) < (bl.length:Int))=false:=by simp
     have AZ:=hid (show yU Wf W0 P bt bf bd (.slice am bl.length cm) bl gl L2 st no wr by
      have:=HP.o
      rwa [List.drop_of_length_le (by rw [LL.o,LO.o]; exact Nat.le_refl _),List.append_nil,List.take_of_length_le (by rw [Kq.o,LL.o,LO.o]; exact Nat.le_refl _)] at this)
     have BE:=hid (show Ln.iJ L1 d=b by rw [NW.o,List.drop_of_length_le (by rw [LL.o,LO.o]; exact Nat.le_refl _)]; rfl);have w1:IntKind.i64.wrap (b - d)=b - d:=IntWalk.i64_in _ ⟨by omega,by omega⟩;have c7:wr.cell? ⟨P,7,none⟩=some (.int .i64 no):=AZ.o.blk.cell 7;have f7:=AZ.o.blk.free 7;have HF:=hid (AZ.o.nought (no':=(b - d) / 4));have ed:Int.tdiv (b - d) 4=(b - d) / 4:=Int.tdiv_eq_ediv_of_nonneg (by omega);clear HP Ij NW AZ;go_wp2
     go_end0
     rw [FIN.o.1,FIN.o.2,BE.o];exact ⟨rfl,HF.o⟩
theorem Tryz.BZ:(Tryz.prog.info? 4).map (fun i=>(i.zero,i.size,i.bytes))=some (some (.bool false),1,1):=by kernel_rfl
namespace Ln
def fF (m:Mod):Mod:={ m with short:=[] }
end Ln
theorem OY (m:Ln.Mod) (s o:Int):Ln.address (Ln.fF m) s o=Ln.address m s o:=rfl
theorem yiW {ms ms':List Ln.Mod} (h:ms'.map Ln.fF=ms.map Ln.fF) (s:Ln.gM):Ln.cZ ms' s=Ln.cZ ms s:=by
 unfold Ln.cZ
 cases s.mod with
 | none=>rfl
 | some i =>
  dsimp only;have e:(ms'[i]?).map Ln.fF=(ms[i]?).map Ln.fF:=by rw [<- List.getElem?_map,<- List.getElem?_map,h]
  cases h1:ms'[i]? with
  | none =>
   cases h2:ms[i]? with
   | none=>rfl
   | some y=>rw [h1,h2] at e; simp at e
  | some x =>
   cases h2:ms[i]? with
   | none=>rw [h1,h2] at e; simp at e
   | some y =>
    rw [h1,h2] at e;simp only [Option.map_some,Option.some.injEq] at e;dsimp only;rw [<- OY x,e,OY]
theorem yiG {ms ms':List Ln.Mod} {m m':Ln.Mod} (h:ms'.map Ln.fF=ms.map Ln.fF) (hm:Ln.fF m'=Ln.fF m) (r:Lk.Rel):Ln.distance ms' m' r=Ln.distance ms m r:=by
 have e1:m'.means=m.means:=show (Ln.fF m').means=(Ln.fF m).means by rw [hm]
 unfold Ln.distance Ln.target;rw [e1,yiW h,<- OY m',hm,OY]
structure uF (WB:World) (bi:Nat) (g:Nat) (v1 v3 v4:Value) (d b:Int) (sl:List Value) (j:Nat) (vs:Value) (wr:World):Prop where
 gr:WB.grownBy wr (some bi)
 blk:yc wr bi #[aW g,v1,vs,v3,v4,.int .i64 d,.int .i64 b] 130
 row:wr.ownsRow WB.heap.size 4 1 vs j sl
 nil:j=0->vs = .slice none 0 0
section
variable {WB V wr w3:World} {bi g j:Nat} {v1 v3 v4 vs v':Value} {d b:Int} {sl news:List Value}
theorem uF.kept (h:uF WB bi g v1 v3 v4 d b sl j vs wr) (hV:wr.grownBy V none):uF WB bi g v1 v3 v4 d b sl j vs V :=
 ⟨h.gr.trans (hV.but _),h.blk.grown hV (by simp),h.row.kept hV (Decidable.em _),h.nil⟩
theorem uF.step (h:uF WB bi g v1 v3 v4 d b sl j vs V) (hown:w3.ownsRow WB.heap.size 4 1 v' (j+1) (sl ++ news)) (hg:V.grownBy w3 vs.ownBlock):uF WB bi g v1 v3 v4 d b (sl ++ news) (j+1) v' (w3.setCell ⟨bi,2,none⟩ v'):=by
 have b3:=yF h.blk hg (bR.own h.row) (by decide);have gs:=ye w3 bi 2 v';refine ⟨(h.gr.andThen hg (fun k hk=>.inl (h.row.lt k hk).1)).trans gs,?_,yA hown gs (bR.blk b3) (by decide),fun c=>by omega⟩;simpa using b3.set 2 v'
theorem uF.mod {m:Ln.Mod} {bl:List Nat} {l:List Bool} {cur:Array Value} (hq:yc WB bi cur 130) (ho:yu WB g m.obj) (q2:WB.ownsRow 0 123 3 v1 m.means.length (m.means.flatMap (AU bl))) (q4:WB.ownsRow 0 3 1 v3 m.text.length (m.text.map (Value.int .i64))) (q5:WB.ownsRow 0 3 1 v4 m.far.length (m.far.map (Value.int .i64))) (q6:m.means=[]->v1 = .slice none 0 0) (h:uF WB bi g v1 v3 v4 m.data m.bss (l.map Value.bool) l.length vs wr):yD wr bl bi g { m with short:=l }:=by
 have R:=bR.blk hq;exact ⟨_,_,_,_,h.blk,um ho h.gr R (by decide) (by decide) (by decide) (by decide),yA q2 h.gr R (by decide),JN h.row,yA q4 h.gr R (by decide),yA q5 h.gr R (by decide),q6,fun e=>h.nil (by simp only at e; rw [e]; rfl)⟩
end
theorem yI.nO {n:Nat} {m:Ln.Mod} (h:yI n m) {l:List Bool} (hl:l.length<=65535):yI n { m with short:=l }:=⟨h.text,h.far,h.data,h.bss,h.means,hl,h.aj⟩
theorem ylG (Wf W0:World) (P:Nat) (bt bf bd:Int) (vm:Value) (bl gl:List Nat) (ms:List Ln.Mod) (st:Ln.gM) (no:Int) (W:World) (h:yU Wf W0 P bt bf bd vm bl gl ms st no W) (hn:∀ m∈ms,yI bl.length m) (hz:∀ m∈ms,m.short=[]) :
  Calls Tryz.prog 71 #[aW P] W fun e W'=>e = .returned (.tuple #[])/\yU Wf W0 P bt bf bd vm bl gl (Ln.shorten ms) st no W':=by
 obtain ⟨i0,hi,hz0,hz1,hz2⟩:=info_parts Tryz.BZ;obtain ⟨am,cm,rfl⟩:=yi h.row;have H0:=hid h;have c3:W.cell? ⟨P,3,none⟩=some (.slice am bl.length cm):=h.blk.cell 3;have hbl:=h.few;have LO:=hid h.gK;have HN:=hid hn;have HZ:=hid hz;obtain ⟨L1,hL1⟩:∃ L1,L1=Ln.shorten ms:=⟨_,rfl⟩
 have LL:=hid (show L1.length=ms.length by rw [hL1]; simp [Ln.shorten]);have LA:=hid (show ∀ k (h:k < ms.length) (h':k < L1.length),L1[k]={ ms[k] with short:=ms[k].obj.aj.map (Ln.dH ms ms[k]) } by intro k h h'; subst hL1; simp [Ln.shorten]);have GJ:=hid hL1;clear h hn hz hL1;unfold aW;go_enter Tryz.func71,Tryz.ntmps71;go_wp2;clear c3
 go_loopw [12] (fun i wr=>∃ k:Nat,k<=bl.length/\i = .int .i64 k/\yU Wf W0 P bt bf bd (.slice am bl.length cm) bl gl (L1.take k ++ ms.drop k) st no wr) (fun i _=>bl.length - (intOf i).toNat)
 case atStart=>exact ⟨0,Nat.zero_le _,rfl,by simpa using H0.o⟩
 case round =>
  obtain ⟨k,hk,rfl,hpa⟩:=hrel;have HP:=hid hpa;clear hpa H0;by_cases hlt:k < bl.length
  ·have hko:k < ms.length:=by rw [LO.o]; exact hlt
   have hkg:k < gl.length:=by rw [HP.o.iQ]; exact hlt
   have zL:k < L1.length:=by rw [LL.o]; exact hko
   obtain ⟨sg,off,hsg,hsc⟩:=HP.o.jk.ptrs (by omega);have ck:=hsc k hlt;subst hsg;have wN:(L1.take k ++ ms.drop k)[k]'(by rw [HP.o.gK]; exact hlt)=ms[k]:=KU ms L1 k hko (by rw [LL.o]; omega) (by rw [HP.o.gK]; exact hlt);have HM:yD wr bl bl[k] (gl[k]'hkg) ms[k]:=by
    have:=HP.o.mods k hlt
    rwa [wN] at this
   have MN:=HN.o _ (iq hko);have MZ:=HZ.o _ (iq hko);obtain ⟨v1,v2,v3,v4,q0,q1,q2,-,q4,q5,q6,q7⟩:=HM;have e7:=q7 MZ;subst e7;obtain ⟨at_,ct,af,cf,ad,cd,aa,ca,gy,cs,ar,cr,hb,-,-,-,-,-,p6⟩:=q1.open;have k6:=hb.cell 6;simp only [bI,bN,bK] at k6;have k0:wr.cell? ⟨bl[k],0,none⟩=some (.pointer (some ⟨gl[k]'hkg,0,none⟩)):=q0.cell 0;have M0:=hid (show uF wr bl[k] (gl[k]'hkg) v1 v3 v4 ms[k].data ms[k].bss [] 0 (.slice none 0 0) wr from ⟨World.grownBy.refl _ _,q0,World.ownsRow_nil _ _ _ _,fun _=>rfl⟩);have PM:=hid (fun (l:List Bool) (vs:Value) (wr2:World) (hm:uF wr bl[k] (gl[k]'hkg) v1 v3 v4 ms[k].data ms[k].bss (l.map Value.bool) l.length vs wr2)=>show yD wr2 bl bl[k] (gl[k]'hkg) { ms[k] with short:=l } from uF.mod (m:=ms[k]) q0 q1 q2 q4 q5 q6 hm)
   have PK:=hid (fun (l:List Bool) (vs:Value) (wr2:World) (hm:uF wr bl[k] (gl[k]'hkg) v1 v3 v4 ms[k].data ms[k].bss (l.map Value.bool) l.length vs wr2)=>show yU Wf W0 P bt bf bd (.slice (some ⟨sg,off,none⟩) bl.length cm) bl gl ((L1.take k ++ ms.drop k).set k { ms[k] with short:=l }) st no wr2 from
    HP.o.upd hlt (by rw [HP.o.gK]; exact hlt) hm.gr (PM.o l vs wr2 hm) (by rw [wN]))
   have US:=hid (show ∀ l:List Bool,((L1.take k ++ ms.drop k).set k { ms[k] with short:=l }).map Ln.fF=ms.map Ln.fF from fun l=>by
    have eL:L1.map Ln.fF=ms.map Ln.fF:=by rw [GJ.o]; unfold Ln.shorten; rw [List.map_map]; rfl
    rw [List.map_set,List.map_append,List.map_take,List.map_drop,eL,List.take_append_drop]
    have:Ln.fF { ms[k] with short:=l }=(ms.map Ln.fF)[k]'(by simpa using hko):=by rw [List.getElem_map]; rfl
    rw [this];exact List.set_getElem_self _)
   have NI:=hid (show ∀ l:List Bool,l.length<=65535->∀ x∈(L1.take k ++ ms.drop k).set k { ms[k] with short:=l },yI bl.length x from fun l hl x hx=>by
    rcases List.mem_or_eq_of_mem_set hx with q | rfl
    ·rcases List.mem_append.1 q with q | q
     ·have q2:=List.mem_of_mem_take q;rw [GJ.o] at q2;unfold Ln.shorten at q2;obtain ⟨y,hy,rfl⟩:=List.mem_map.1 q2;exact (HN.o y hy).nO (by rw [rW]; exact (HN.o y hy).aj.1)
     ·exact HN.o x (List.mem_of_mem_drop q)
    ·exact MN.nO hl)
   have cD:=hid (fun (l:List Bool) (hl:l.length<=65535) (vs:Value) (wr2:World) (hm:uF wr bl[k] (gl[k]'hkg) v1 v3 v4 ms[k].data ms[k].bss (l.map Value.bool) l.length vs wr2) (W3:World) (hg:wr2.grownBy W3 none) (r:Lk.Rel) (hr:r∈ms[k].obj.aj)=>show Calls Tryz.prog 107 #[aW bl[k],fK r] W3 (fun e w'=>e = .returned (.int .i64 (Ln.distance ms ms[k] r))/\W3.grownBy w' none) by
    have d:=OX bl _ bl[k] (gl[k]'hkg) { ms[k] with short:=l } r W3 (((PK.o l vs wr2 hm).wZ (NI.o l hl)).kept hg) ((PM.o l vs wr2 hm).kept hg) (MN.nO hl) (MN.aj.2 r hr).2.1 (MN.aj.2 r hr).2.2;refine d.mono ?_;rintro e w' ⟨rfl,q⟩;exact ⟨congrArg (fun z=>Ending.returned (Value.int .i64 z)) (yiG (US.o l) rfl r),q⟩)
   have PS:=hid (fun (wr2:World) (hg:wr.grownBy wr2 (some bl[k]))=>show DN wr2 ar ms[k].obj.aj from DN.aO (yA p6 hg (bR.blk q0) (by decide)));have hrl:=MN.aj.1;have FIN:=hid (show (L1.take k ++ ms.drop k).set k { ms[k] with short:=ms[k].obj.aj.map (Ln.dH ms ms[k]) }=L1.take (k+1) ++ ms.drop (k+1) by rw [<- P9 ms L1 k hko zL LL.o,LA.o k hko zL]);have HR:=hid (show ∀ r∈ms[k].obj.aj,r∈ms[k].obj.aj from fun r h=>h);have g1:(k:Int) < (bl.length:Int):=by omega
   clear hsc q0 q1 q2 q4 q5 q6 q7 hb p6 HP wN NI US PM MN MZ;generalize (gl[k]'hkg)=gk at *;generalize hbb:bl[k]=bk at *;clear hbb;generalize hm:ms[k]=m at *;clear hm;go_wp2;generalize wr=WB at *;clear ck k0 k6
   go_loopw [24] (fun i wr2=>∃ (j:Nat) (vs:Value),j<=m.obj.aj.length/\i = .int .i64 j/\uF WB bk gk v1 v3 v4 m.data m.bss (((m.obj.aj.take j).map (Ln.dH ms m)).map Value.bool) j vs wr2) (fun i _=>m.obj.aj.length - (intOf i).toNat)
   case atStart=>exact ⟨0,_,Nat.zero_le _,rfl,M0.o⟩
   case round =>
    obtain ⟨j,vs,hj,rfl,hme⟩:=hrel;have HM:=hid hme;clear hme M0;obtain ⟨av,cv,rfl⟩:=yi HM.o.row;have LJ:((m.obj.aj.take j).map (Ln.dH ms m)).length=j:=by rw [rW,List.length_take]; omega
    by_cases hlt2:j < m.obj.aj.length
    ·obtain ⟨sg2,BK,hgs,hcs⟩:=PS.o wr HM.o.gr (by omega);subst BK;obtain ⟨q0,q1,q2,q3,q4⟩:=hcs j hlt2;clear hcs;have g2:(j:Int) < (m.obj.aj.length:Int):=by omega
     have TK:=hid (show ((m.obj.aj.take (j+1)).map (Ln.dH ms m)).map Value.bool=(((m.obj.aj.take j).map (Ln.dH ms m)).map Value.bool) ++ [Value.bool (Ln.dH ms m m.obj.aj[j])] by
      rw [List.take_succ_eq_append_getElem hlt2,List.map_append,List.map_append];simp)
     have hrm:m.obj.aj[j]∈m.obj.aj:=iq hlt2;have GA:=hid (aJ wr (.cells #[.int .i64 m.obj.aj[j].ah,.int .i64 m.obj.aj[j].off,.int .i64 m.obj.aj[j].kind,.int .i64 m.obj.aj[j].sym,.int .i64 m.obj.aj[j].addend] 102) none);have cM:=hid (cD.o ((m.obj.aj.take j).map (Ln.dH ms m)) (by rw [LJ]; omega) _ wr (by rw [LJ]; exact HM.o) _ GA.o m.obj.aj[j] hrm);have Ll:=hid (show Ln.distance ms m m.obj.aj[j]=Ln.distance ms m m.obj.aj[j] from rfl);generalize m.obj.aj[j]=r at *;generalize hsl:((m.obj.aj.take j).map (Ln.dH ms m)).map Value.bool=sl at *;have Ko:=hid (HM.o.kept GA.o);have UK:=hid (yc.new wr #[.int .i64 r.ah,.int .i64 r.off,.int .i64 r.kind,.int .i64 r.sym,.int .i64 r.addend] 102)
     clear hsl hrm;unfold aW fK at cM;obtain ⟨ds,hds⟩:∃ ds,Ln.distance ms m r=ds:=⟨_,rfl⟩
     rw [hds] at cM;clear Ll;have Ll:=hid hds;clear hds;go_wp2_with fail;refine cM.o.mono ?_;rintro e W6 ⟨rfl,h5⟩;have vX:=hid (Ko.o.kept h5);have B6:=hid (UK.o.grown h5 (by simp));clear h5 cM q0 q1 q2 q3 q4 Ko UK GA;go_wp2;generalize wr.heap.size=L at *;have s2:W6.cell? ⟨L,2,none⟩=some (.int .i64 r.kind):=B6.o.cell 2;have m2:W6.cell? ⟨bk,2,none⟩=some (.slice av j cv):=vX.o.blk.cell 2;by_cases e1:r.kind=4
     ·have d1:(r.kind == 4)=true:=by simpa using e1
      by_cases e2:-1015808 < ds
      ·have d2:decide (-1015808 < ds)=true:=by simpa using e2
       by_cases e3:ds < 1015808
       ·have d3:decide (ds < 1015808)=true:=by simpa using e3
        have EX:=hid (show Value.bool (Ln.dH ms m r) = .bool true by unfold Ln.dH; rw [Ll.o]; simp [e1,e2,e3]);clear e1 e2 e3;have A7:=yh (aJ W6 (.cells #[.bool true] 4) none);have B7:=hid (B6.o.grown A7 (by simp));have jN:=hid (vX.o.kept A7);have hA:=hid jN.o.row;have n2:(W6.alloc (.cells #[.bool true] 4)).drew.cell? ⟨bk,2,none⟩=some (.slice av j cv):=jN.o.blk.cell 2;have hN:Hd (∀ j u,[Value.bool true][j]?=some u->(W6.alloc (.cells #[.bool true] 4)).drew.cell? ((⟨W6.heap.size,0,none⟩:Addr).add j)=some u):=World.news_of_block (heap_alloc_new W6 (.cells #[.bool true] 4));have iC:Hd (∀ u∈[Value.bool true],u.oneCell'=true):=by intro u hu; simp at hu; subst hu; rfl
        have h63:Hd (j+1<=maxLen):=by show _<=_; unfold maxLen; omega
        have hby:Hd ((j+1) * 1<=140737488355328):=by show _<=_; omega
        have hbs:Hd (WB.heap.size<=(W6.alloc (.cells #[.bool true] 4)).drew.heap.size):=jN.o.gr.size;have SA:Hd ((W6.alloc (.cells #[.bool true] 4)).drew.cell? ⟨L,2,none⟩=some (.int .i64 r.kind)):=B7.o.cell 2;have STEP:=hid (fun (v':Value) (w3:World) (hown':w3.ownsRow WB.heap.size 4 1 v' (j+1) (sl ++ [.bool true])) (hg:(W6.alloc (.cells #[.bool true] 4)).drew.grownBy w3 (Value.ownBlock (.slice av j cv)))=>show uF WB bk gk v1 v3 v4 m.data m.bss (sl ++ [.bool true]) (j+1) v' (w3.setCell ⟨bk,2,none⟩ v')/\yc w3 L #[.int .i64 r.ah,.int .i64 r.off,.int .i64 r.kind,.int .i64 r.sym,.int .i64 r.addend] 102/\yc (w3.setCell ⟨bk,2,none⟩ v') L #[.int .i64 r.ah,.int .i64 r.off,.int .i64 r.kind,.int .i64 r.sym,.int .i64 r.addend] 102/\w3.cell? ⟨bk,2,none⟩=some (.slice av j cv)/\w3.frozen? ⟨bk,2,none⟩=false by
         have st:=jN.o.step hown' hg;have b3:=yF jN.o.blk hg (bR.own jN.o.row) (by decide);have l3:=yF B7.o hg (bR.own jN.o.row) (by decide);exact ⟨st,l3,yF l3 (ye w3 bk 2 v') (bR.blk b3) (by decide),b3.cell 2,b3.free 2⟩)
        clear A7 B7 jN vX B6;refine wp_region_held_drew (S:=(fun w'=>w'.cell? ⟨L,2,none⟩=some (.int .i64 r.kind))) (by kernel_rfl) s2 ?_;intro hS;refine aU (i:=0) (v:=?_) rfl ?_ hS ?_
        rotate_left
        ·intro w' hw'; have x2:=hw'; go_simp; with_reducible rfl
        refine aU (i:=1) (v:=?_) rfl ?_ hS ?_
        rotate_left
        ·intro w' hw'; have x2:=hw'; go_simp; with_reducible rfl
        refine aU (i:=2) (v:=?_) rfl ?_ hS ?_
        rotate_left
        ·intro w' hw'; have x2:=hw'; go_simp; with_reducible rfl
        refine aU (i:=3) (v:=?_) rfl ?_ hS ?_
        rotate_left
        ·intro w' hw'; have x2:=hw'; go_simp; with_reducible rfl
        refine aU (i:=5) (v:=?_) rfl ?_ hS ?_
        rotate_left
        ·intro w' hw'; have x2:=hw'; go_simp; with_reducible rfl
        refine aU (i:=6) (v:=?_) rfl ?_ hS ?_
        rotate_left
        ·intro w' hw'; have x2:=hw'; go_simp; with_reducible rfl
        refine aU (i:=7) (v:=?_) rfl ?_ hS ?_
        rotate_left
        ·intro w' hw'; have x2:=hw'; go_simp; with_reducible rfl
        refine aU (i:=8) (v:=?_) rfl ?_ hS ?_
        rotate_left
        ·intro w' hw'; have x2:=hw'; go_simp; with_reducible rfl
        refine aU (i:=9) (v:=?_) rfl ?_ hS ?_
        rotate_left
        ·intro w' hw'; have x2:=hw'; go_simp; with_reducible rfl
        refine aU (i:=10) (v:=?_) rfl ?_ hS ?_
        rotate_left
        ·intro w' hw'; have x2:=hw'; go_simp; with_reducible rfl
        refine wpAnyH_take (i:=11) (v:=.bool true) rfl (by kernel_rfl) (by kernel_rfl) (by kernel_rfl) (fun _ _ _ h=>h) (Or.inl ⟨by kernel_rfl,fun _ _=>by kernel_rfl⟩) hS ?_;refine wpAnyH_take (i:=12) (v:=.bool true) rfl (by kernel_rfl) (by kernel_rfl) (by kernel_rfl) (fun _ _ _ h=>h) (Or.inl ⟨by kernel_rfl,fun _ _=>by kernel_rfl⟩) hS ?_;refine aU (i:=13) (v:=?_) rfl ?_ hS ?_
        rotate_left
        ·intro w' hw'; have x2:=hw'; go_simp; with_reducible rfl
        refine aU (i:=14) (v:=?_) rfl ?_ hS ?_
        rotate_left
        ·intro w' hw'; have x2:=hw'; go_simp; with_reducible rfl
        refine wpAnyH_take (i:=15) (v:=.bool true) rfl (by kernel_rfl) (by kernel_rfl) (by kernel_rfl) (fun _ _ _ h=>h) (Or.inl ⟨by kernel_rfl,fun _ _=>by kernel_rfl⟩) hS ?_;refine wpAnyH_ready (rs:=[4,16]) (by kernel_rfl) (by simp) ?_;refine AllReadyH.cons rfl (fun K hK=>?_) (AllReadyH.cons rfl (fun K hK=>?_) AllReadyH.nil);go_simp;refine hK.out _ _ hS (fun hS2=>?_);clear hK K;refine wpAnyH_ready (rs:=[16]) (by kernel_rfl) (by simp) ?_
        rotate_left
        go_simp;refine hK.out _ _ SA.o (fun hS2=>?_);clear hK K;refine wpAnyH_ready (rs:=[4]) (by kernel_rfl) (by simp) ?_
        all_goals
         refine AllReadyH.cons rfl (fun K hK=>?_) AllReadyH.nil;go_simp;refine hK.out _ _ SA.o (fun je=>?_);clear hK K hS2 je;refine wpAnyH_ready (rs:=[17]) (by kernel_rfl) (by simp) ?_;refine AllReadyH.cons rfl (fun K hK=>?_) AllReadyH.nil;rw [if_pos (by kernel_rfl)];refine Du _ (.tmp 35) (.tmp 47) 128 rfl WB.heap.size 4 i0 (.bool false) 1 1 Tryz.underlying128 hi hz0 hz1 hz2 rfl (by decide) (.slice av j cv) j sl (by kernel_rfl) hA.o ⟨W6.heap.size,0,none⟩ 1 1 [.bool true] (by kernel_rfl) rfl hN.o iC.o h63.o hby.o hbs.o ?_;intro v' w3 hown' hgrow _ _;obtain ⟨oh,cv',rfl⟩:=yi hown';obtain ⟨t1,t2,t3,t4,t5⟩:=STEP.o _ _ hown' hgrow
         have T1:=hid t1;have T3:Hd ((w3.setCell ⟨bk,2,none⟩ (.slice oh (j+1) cv')).cell? ⟨L,2,none⟩=some (.int .i64 r.kind)):=t3.cell 2;refine hK.out _ _ (t2.cell 2) (fun jh=>?_);clear hK K hown' hgrow t1 t2 t3;refine aU (i:=18) (v:=?_) rfl ?_ jh ?_
         rotate_left
         ·intro w' hw'; have x2:=hw'; go_simp; with_reducible rfl
         refine aU (i:=19) (v:=?_) rfl ?_ jh ?_
         rotate_left
         ·intro w' hw'; have x2:=hw'; go_simp; with_reducible rfl
         refine wpAnyH_ready (rs:=[20]) (by kernel_rfl) (by simp) ?_;refine AllReadyH.cons rfl (fun K hK=>?_) AllReadyH.nil;go_simp;refine hK.out _ _ T3.o (fun hS5=>?_);clear hK K;refine wpAnyH_done (by kernel_rfl) ?_ _
         try simp only [sN,qc,pz,pU,gu,fZ,gq]
         clear hA hN iC h63 hby hbs m2 n2 t4 t5 jh hS5 hS STEP SA T3;go_wp2
         go_roundw
         case rel=>exact ⟨j+1,_,by omega,by go_num,by rw [TK.o,EX.o]; exact T1.o⟩
         case measure=>simp [intOf]; omega
       ·have d3:decide (ds < 1015808)=false:=by simpa using e3
        have EX:=hid (show Value.bool (Ln.dH ms m r) = .bool false by unfold Ln.dH; rw [Ll.o]; simp [e3]);clear e1 e2 e3;have A7:=yh (aJ W6 (.cells #[.bool false] 4) none);have B7:=hid (B6.o.grown A7 (by simp));have jN:=hid (vX.o.kept A7);have hA:=hid jN.o.row;have n2:(W6.alloc (.cells #[.bool false] 4)).drew.cell? ⟨bk,2,none⟩=some (.slice av j cv):=jN.o.blk.cell 2;have hN:Hd (∀ j u,[Value.bool false][j]?=some u->(W6.alloc (.cells #[.bool false] 4)).drew.cell? ((⟨W6.heap.size,0,none⟩:Addr).add j)=some u):=World.news_of_block (heap_alloc_new W6 (.cells #[.bool false] 4));have iC:Hd (∀ u∈[Value.bool false],u.oneCell'=true):=by intro u hu; simp at hu; subst hu; rfl
        have h63:Hd (j+1<=maxLen):=by show _<=_; unfold maxLen; omega
        have hby:Hd ((j+1) * 1<=140737488355328):=by show _<=_; omega
        have hbs:Hd (WB.heap.size<=(W6.alloc (.cells #[.bool false] 4)).drew.heap.size):=jN.o.gr.size;have SA:Hd ((W6.alloc (.cells #[.bool false] 4)).drew.cell? ⟨L,2,none⟩=some (.int .i64 r.kind)):=B7.o.cell 2;have STEP:=hid (fun (v':Value) (w3:World) (hown':w3.ownsRow WB.heap.size 4 1 v' (j+1) (sl ++ [.bool false])) (hg:(W6.alloc (.cells #[.bool false] 4)).drew.grownBy w3 (Value.ownBlock (.slice av j cv)))=>show uF WB bk gk v1 v3 v4 m.data m.bss (sl ++ [.bool false]) (j+1) v' (w3.setCell ⟨bk,2,none⟩ v')/\yc w3 L #[.int .i64 r.ah,.int .i64 r.off,.int .i64 r.kind,.int .i64 r.sym,.int .i64 r.addend] 102/\yc (w3.setCell ⟨bk,2,none⟩ v') L #[.int .i64 r.ah,.int .i64 r.off,.int .i64 r.kind,.int .i64 r.sym,.int .i64 r.addend] 102/\w3.cell? ⟨bk,2,none⟩=some (.slice av j cv)/\w3.frozen? ⟨bk,2,none⟩=false by
         have st:=jN.o.step hown' hg;have b3:=yF jN.o.blk hg (bR.own jN.o.row) (by decide);have l3:=yF B7.o hg (bR.own jN.o.row) (by decide);exact ⟨st,l3,yF l3 (ye w3 bk 2 v') (bR.blk b3) (by decide),b3.cell 2,b3.free 2⟩)
        clear A7 B7 jN vX B6;refine wp_region_held_drew (S:=(fun w'=>w'.cell? ⟨L,2,none⟩=some (.int .i64 r.kind))) (by kernel_rfl) s2 ?_;intro hS;refine aU (i:=0) (v:=?_) rfl ?_ hS ?_
        rotate_left
        ·intro w' hw'; have x2:=hw'; go_simp; with_reducible rfl
        refine aU (i:=1) (v:=?_) rfl ?_ hS ?_
        rotate_left
        ·intro w' hw'; have x2:=hw'; go_simp; with_reducible rfl
        refine aU (i:=2) (v:=?_) rfl ?_ hS ?_
        rotate_left
        ·intro w' hw'; have x2:=hw'; go_simp; with_reducible rfl
        refine aU (i:=3) (v:=?_) rfl ?_ hS ?_
        rotate_left
        ·intro w' hw'; have x2:=hw'; go_simp; with_reducible rfl
        refine aU (i:=5) (v:=?_) rfl ?_ hS ?_
        rotate_left
        ·intro w' hw'; have x2:=hw'; go_simp; with_reducible rfl
        refine aU (i:=6) (v:=?_) rfl ?_ hS ?_
        rotate_left
        ·intro w' hw'; have x2:=hw'; go_simp; with_reducible rfl
        refine aU (i:=7) (v:=?_) rfl ?_ hS ?_
        rotate_left
        ·intro w' hw'; have x2:=hw'; go_simp; with_reducible rfl
        refine aU (i:=8) (v:=?_) rfl ?_ hS ?_
        rotate_left
        ·intro w' hw'; have x2:=hw'; go_simp; with_reducible rfl
        refine aU (i:=9) (v:=?_) rfl ?_ hS ?_
        rotate_left
        ·intro w' hw'; have x2:=hw'; go_simp; with_reducible rfl
        refine aU (i:=10) (v:=?_) rfl ?_ hS ?_
        rotate_left
        ·intro w' hw'; have x2:=hw'; go_simp; with_reducible rfl
        refine wpAnyH_take (i:=11) (v:=.bool true) rfl (by kernel_rfl) (by kernel_rfl) (by kernel_rfl) (fun _ _ _ h=>h) (Or.inl ⟨by kernel_rfl,fun _ _=>by kernel_rfl⟩) hS ?_;refine wpAnyH_take (i:=12) (v:=.bool true) rfl (by kernel_rfl) (by kernel_rfl) (by kernel_rfl) (fun _ _ _ h=>h) (Or.inl ⟨by kernel_rfl,fun _ _=>by kernel_rfl⟩) hS ?_;refine aU (i:=13) (v:=?_) rfl ?_ hS ?_
        rotate_left
        ·intro w' hw'; have x2:=hw'; go_simp; with_reducible rfl
        refine aU (i:=14) (v:=?_) rfl ?_ hS ?_
        rotate_left
        ·intro w' hw'; have x2:=hw'; go_simp; with_reducible rfl
        refine wpAnyH_take (i:=15) (v:=.bool false) rfl (by kernel_rfl) (by kernel_rfl) (by kernel_rfl) (fun _ _ _ h=>h) (Or.inl ⟨by kernel_rfl,fun _ _=>by kernel_rfl⟩) hS ?_;refine wpAnyH_ready (rs:=[4,16]) (by kernel_rfl) (by simp) ?_;refine AllReadyH.cons rfl (fun K hK=>?_) (AllReadyH.cons rfl (fun K hK=>?_) AllReadyH.nil);go_simp;refine hK.out _ _ hS (fun hS2=>?_);clear hK K;refine wpAnyH_ready (rs:=[16]) (by kernel_rfl) (by simp) ?_
        rotate_left
        go_simp;refine hK.out _ _ SA.o (fun hS2=>?_);clear hK K;refine wpAnyH_ready (rs:=[4]) (by kernel_rfl) (by simp) ?_
        all_goals
         refine AllReadyH.cons rfl (fun K hK=>?_) AllReadyH.nil;go_simp;refine hK.out _ _ SA.o (fun je=>?_);clear hK K hS2 je;refine wpAnyH_ready (rs:=[17]) (by kernel_rfl) (by simp) ?_;refine AllReadyH.cons rfl (fun K hK=>?_) AllReadyH.nil;rw [if_pos (by kernel_rfl)];refine Du _ (.tmp 35) (.tmp 47) 128 rfl WB.heap.size 4 i0 (.bool false) 1 1 Tryz.underlying128 hi hz0 hz1 hz2 rfl (by decide) (.slice av j cv) j sl (by kernel_rfl) hA.o ⟨W6.heap.size,0,none⟩ 1 1 [.bool false] (by kernel_rfl) rfl hN.o iC.o h63.o hby.o hbs.o ?_;intro v' w3 hown' hgrow _ _;obtain ⟨oh,cv',rfl⟩:=yi hown';obtain ⟨t1,t2,t3,t4,t5⟩:=STEP.o _ _ hown' hgrow
         have T1:=hid t1;have T3:Hd ((w3.setCell ⟨bk,2,none⟩ (.slice oh (j+1) cv')).cell? ⟨L,2,none⟩=some (.int .i64 r.kind)):=t3.cell 2;refine hK.out _ _ (t2.cell 2) (fun jh=>?_);clear hK K hown' hgrow t1 t2 t3;refine aU (i:=18) (v:=?_) rfl ?_ jh ?_
         rotate_left
         ·intro w' hw'; have x2:=hw'; go_simp; with_reducible rfl
         refine aU (i:=19) (v:=?_) rfl ?_ jh ?_
         rotate_left
         ·intro w' hw'; have x2:=hw'; go_simp; with_reducible rfl
         refine wpAnyH_ready (rs:=[20]) (by kernel_rfl) (by simp) ?_;refine AllReadyH.cons rfl (fun K hK=>?_) AllReadyH.nil;go_simp;refine hK.out _ _ T3.o (fun hS5=>?_);clear hK K;refine wpAnyH_done (by kernel_rfl) ?_ _
         try simp only [sN,qc,pz,pU,gu,fZ,gq]
         clear hA hN iC h63 hby hbs m2 n2 t4 t5 jh hS5 hS STEP SA T3;go_wp2
         go_roundw
         case rel=>exact ⟨j+1,_,by omega,by go_num,by rw [TK.o,EX.o]; exact T1.o⟩
         case measure=>simp [intOf]; omega
      ·have d2:decide (-1015808 < ds)=false:=by simpa using e2
       have EX:=hid (show Value.bool (Ln.dH ms m r) = .bool false by unfold Ln.dH; rw [Ll.o]; simp [e2]);clear e1 e2;have A7:=yh (aJ W6 (.cells #[.bool false] 4) none);have B7:=hid (B6.o.grown A7 (by simp));have jN:=hid (vX.o.kept A7);have hA:=hid jN.o.row;have n2:(W6.alloc (.cells #[.bool false] 4)).drew.cell? ⟨bk,2,none⟩=some (.slice av j cv):=jN.o.blk.cell 2;have hN:Hd (∀ j u,[Value.bool false][j]?=some u->(W6.alloc (.cells #[.bool false] 4)).drew.cell? ((⟨W6.heap.size,0,none⟩:Addr).add j)=some u):=World.news_of_block (heap_alloc_new W6 (.cells #[.bool false] 4));have iC:Hd (∀ u∈[Value.bool false],u.oneCell'=true):=by intro u hu; simp at hu; subst hu; rfl
       have h63:Hd (j+1<=maxLen):=by show _<=_; unfold maxLen; omega
       have hby:Hd ((j+1) * 1<=140737488355328):=by show _<=_; omega
       have hbs:Hd (WB.heap.size<=(W6.alloc (.cells #[.bool false] 4)).drew.heap.size):=jN.o.gr.size;have SA:Hd ((W6.alloc (.cells #[.bool false] 4)).drew.cell? ⟨L,2,none⟩=some (.int .i64 r.kind)):=B7.o.cell 2;have STEP:=hid (fun (v':Value) (w3:World) (hown':w3.ownsRow WB.heap.size 4 1 v' (j+1) (sl ++ [.bool false])) (hg:(W6.alloc (.cells #[.bool false] 4)).drew.grownBy w3 (Value.ownBlock (.slice av j cv)))=>show uF WB bk gk v1 v3 v4 m.data m.bss (sl ++ [.bool false]) (j+1) v' (w3.setCell ⟨bk,2,none⟩ v')/\yc w3 L #[.int .i64 r.ah,.int .i64 r.off,.int .i64 r.kind,.int .i64 r.sym,.int .i64 r.addend] 102/\yc (w3.setCell ⟨bk,2,none⟩ v') L #[.int .i64 r.ah,.int .i64 r.off,.int .i64 r.kind,.int .i64 r.sym,.int .i64 r.addend] 102/\w3.cell? ⟨bk,2,none⟩=some (.slice av j cv)/\w3.frozen? ⟨bk,2,none⟩=false by
        have st:=jN.o.step hown' hg;have b3:=yF jN.o.blk hg (bR.own jN.o.row) (by decide);have l3:=yF B7.o hg (bR.own jN.o.row) (by decide);exact ⟨st,l3,yF l3 (ye w3 bk 2 v') (bR.blk b3) (by decide),b3.cell 2,b3.free 2⟩)
       clear A7 B7 jN vX B6;refine wp_region_held_drew (S:=(fun w'=>w'.cell? ⟨L,2,none⟩=some (.int .i64 r.kind))) (by kernel_rfl) s2 ?_;intro hS;refine aU (i:=0) (v:=?_) rfl ?_ hS ?_
       rotate_left
       ·intro w' hw'; have x2:=hw'; go_simp; with_reducible rfl
       refine aU (i:=1) (v:=?_) rfl ?_ hS ?_
       rotate_left
       ·intro w' hw'; have x2:=hw'; go_simp; with_reducible rfl
       refine aU (i:=2) (v:=?_) rfl ?_ hS ?_
       rotate_left
       ·intro w' hw'; have x2:=hw'; go_simp; with_reducible rfl
       refine aU (i:=3) (v:=?_) rfl ?_ hS ?_
       rotate_left
       ·intro w' hw'; have x2:=hw'; go_simp; with_reducible rfl
       refine aU (i:=5) (v:=?_) rfl ?_ hS ?_
       rotate_left
       ·intro w' hw'; have x2:=hw'; go_simp; with_reducible rfl
       refine aU (i:=6) (v:=?_) rfl ?_ hS ?_
       rotate_left
       ·intro w' hw'; have x2:=hw'; go_simp; with_reducible rfl
       refine aU (i:=7) (v:=?_) rfl ?_ hS ?_
       rotate_left
       ·intro w' hw'; have x2:=hw'; go_simp; with_reducible rfl
       refine aU (i:=8) (v:=?_) rfl ?_ hS ?_
       rotate_left
       ·intro w' hw'; have x2:=hw'; go_simp; with_reducible rfl
       refine aU (i:=9) (v:=?_) rfl ?_ hS ?_
       rotate_left
       ·intro w' hw'; have x2:=hw'; go_simp; with_reducible rfl
       refine aU (i:=10) (v:=?_) rfl ?_ hS ?_
       rotate_left
       ·intro w' hw'; have x2:=hw'; go_simp; with_reducible rfl
       refine wpAnyH_take (i:=11) (v:=.bool false) rfl (by kernel_rfl) (by kernel_rfl) (by kernel_rfl) (fun _ _ _ h=>h) (Or.inl ⟨by kernel_rfl,fun _ _=>by kernel_rfl⟩) hS ?_;refine wpAnyH_take (i:=12) (v:=.bool false) rfl (by kernel_rfl) (by kernel_rfl) (by kernel_rfl) (fun _ _ _ h=>h) (Or.inl ⟨by kernel_rfl,fun _ _=>by kernel_rfl⟩) hS ?_;refine qP (i:=13) rfl hS ?_;refine qP (i:=14) rfl hS ?_;refine wpAnyH_take (i:=15) (v:=.bool false) rfl (by kernel_rfl) (by kernel_rfl) (by kernel_rfl) (fun _ _ _ h=>h) (Or.inl ⟨by kernel_rfl,fun _ _=>by kernel_rfl⟩) hS ?_;refine wpAnyH_ready (rs:=[4,16]) (by kernel_rfl) (by simp) ?_
       refine AllReadyH.cons rfl (fun K hK=>?_) (AllReadyH.cons rfl (fun K hK=>?_) AllReadyH.nil);go_simp;refine hK.out _ _ hS (fun hS2=>?_);clear hK K;refine wpAnyH_ready (rs:=[16]) (by kernel_rfl) (by simp) ?_
       rotate_left
       go_simp;refine hK.out _ _ SA.o (fun hS2=>?_);clear hK K;refine wpAnyH_ready (rs:=[4]) (by kernel_rfl) (by simp) ?_
       all_goals
        refine AllReadyH.cons rfl (fun K hK=>?_) AllReadyH.nil;go_simp;refine hK.out _ _ SA.o (fun je=>?_);clear hK K hS2 je;refine wpAnyH_ready (rs:=[17]) (by kernel_rfl) (by simp) ?_;refine AllReadyH.cons rfl (fun K hK=>?_) AllReadyH.nil;rw [if_pos (by kernel_rfl)];refine Du _ (.tmp 35) (.tmp 47) 128 rfl WB.heap.size 4 i0 (.bool false) 1 1 Tryz.underlying128 hi hz0 hz1 hz2 rfl (by decide) (.slice av j cv) j sl (by kernel_rfl) hA.o ⟨W6.heap.size,0,none⟩ 1 1 [.bool false] (by kernel_rfl) rfl hN.o iC.o h63.o hby.o hbs.o ?_;intro v' w3 hown' hgrow _ _;obtain ⟨oh,cv',rfl⟩:=yi hown';obtain ⟨t1,t2,t3,t4,t5⟩:=STEP.o _ _ hown' hgrow
        have T1:=hid t1;have T3:Hd ((w3.setCell ⟨bk,2,none⟩ (.slice oh (j+1) cv')).cell? ⟨L,2,none⟩=some (.int .i64 r.kind)):=t3.cell 2;refine hK.out _ _ (t2.cell 2) (fun jh=>?_);clear hK K hown' hgrow t1 t2 t3;refine aU (i:=18) (v:=?_) rfl ?_ jh ?_
        rotate_left
        ·intro w' hw'; have x2:=hw'; go_simp; with_reducible rfl
        refine aU (i:=19) (v:=?_) rfl ?_ jh ?_
        rotate_left
        ·intro w' hw'; have x2:=hw'; go_simp; with_reducible rfl
        refine wpAnyH_ready (rs:=[20]) (by kernel_rfl) (by simp) ?_;refine AllReadyH.cons rfl (fun K hK=>?_) AllReadyH.nil;go_simp;refine hK.out _ _ T3.o (fun hS5=>?_);clear hK K;refine wpAnyH_done (by kernel_rfl) ?_ _
        try simp only [sN,qc,pz,pU,gu,fZ,gq]
        clear hA hN iC h63 hby hbs m2 n2 t4 t5 jh hS5 hS STEP SA T3;go_wp2
        go_roundw
        case rel=>exact ⟨j+1,_,by omega,by go_num,by rw [TK.o,EX.o]; exact T1.o⟩
        case measure=>simp [intOf]; omega
     ·have d1:(r.kind == 4)=false:=by simpa using e1
      have EX:=hid (show Value.bool (Ln.dH ms m r) = .bool false by unfold Ln.dH; simp [e1]);clear e1;have A7:=yh (aJ W6 (.cells #[.bool false] 4) none);have B7:=hid (B6.o.grown A7 (by simp));have jN:=hid (vX.o.kept A7);have hA:=hid jN.o.row;have n2:(W6.alloc (.cells #[.bool false] 4)).drew.cell? ⟨bk,2,none⟩=some (.slice av j cv):=jN.o.blk.cell 2;have hN:Hd (∀ j u,[Value.bool false][j]?=some u->(W6.alloc (.cells #[.bool false] 4)).drew.cell? ((⟨W6.heap.size,0,none⟩:Addr).add j)=some u):=World.news_of_block (heap_alloc_new W6 (.cells #[.bool false] 4));have iC:Hd (∀ u∈[Value.bool false],u.oneCell'=true):=by intro u hu; simp at hu; subst hu; rfl
      have h63:Hd (j+1<=maxLen):=by show _<=_; unfold maxLen; omega
      have hby:Hd ((j+1) * 1<=140737488355328):=by show _<=_; omega
      have hbs:Hd (WB.heap.size<=(W6.alloc (.cells #[.bool false] 4)).drew.heap.size):=jN.o.gr.size;have SA:Hd ((W6.alloc (.cells #[.bool false] 4)).drew.cell? ⟨L,2,none⟩=some (.int .i64 r.kind)):=B7.o.cell 2;have STEP:=hid (fun (v':Value) (w3:World) (hown':w3.ownsRow WB.heap.size 4 1 v' (j+1) (sl ++ [.bool false])) (hg:(W6.alloc (.cells #[.bool false] 4)).drew.grownBy w3 (Value.ownBlock (.slice av j cv)))=>show uF WB bk gk v1 v3 v4 m.data m.bss (sl ++ [.bool false]) (j+1) v' (w3.setCell ⟨bk,2,none⟩ v')/\yc w3 L #[.int .i64 r.ah,.int .i64 r.off,.int .i64 r.kind,.int .i64 r.sym,.int .i64 r.addend] 102/\yc (w3.setCell ⟨bk,2,none⟩ v') L #[.int .i64 r.ah,.int .i64 r.off,.int .i64 r.kind,.int .i64 r.sym,.int .i64 r.addend] 102/\w3.cell? ⟨bk,2,none⟩=some (.slice av j cv)/\w3.frozen? ⟨bk,2,none⟩=false by
       have st:=jN.o.step hown' hg;have b3:=yF jN.o.blk hg (bR.own jN.o.row) (by decide);have l3:=yF B7.o hg (bR.own jN.o.row) (by decide);exact ⟨st,l3,yF l3 (ye w3 bk 2 v') (bR.blk b3) (by decide),b3.cell 2,b3.free 2⟩)
      clear A7 B7 jN vX B6;refine wp_region_held_drew (S:=(fun w'=>w'.cell? ⟨L,2,none⟩=some (.int .i64 r.kind))) (by kernel_rfl) s2 ?_;intro hS;refine aU (i:=0) (v:=?_) rfl ?_ hS ?_
      rotate_left
      ·intro w' hw'; have x2:=hw'; go_simp; with_reducible rfl
      refine aU (i:=1) (v:=?_) rfl ?_ hS ?_
      rotate_left
      ·intro w' hw'; have x2:=hw'; go_simp; with_reducible rfl
      refine aU (i:=2) (v:=?_) rfl ?_ hS ?_
      rotate_left
      ·intro w' hw'; have x2:=hw'; go_simp; with_reducible rfl
      refine aU (i:=3) (v:=?_) rfl ?_ hS ?_
      rotate_left
      ·intro w' hw'; have x2:=hw'; go_simp; with_reducible rfl
      refine aU (i:=5) (v:=?_) rfl ?_ hS ?_
      rotate_left
      ·intro w' hw'; have x2:=hw'; go_simp; with_reducible rfl
      refine aU (i:=6) (v:=?_) rfl ?_ hS ?_
      rotate_left
      ·intro w' hw'; have x2:=hw'; go_simp; with_reducible rfl
      refine aU (i:=7) (v:=?_) rfl ?_ hS ?_
      rotate_left
      ·intro w' hw'; have x2:=hw'; go_simp; with_reducible rfl
      refine aU (i:=8) (v:=?_) rfl ?_ hS ?_
      rotate_left
      ·intro w' hw'; have x2:=hw'; go_simp; with_reducible rfl
      refine qP (i:=9) rfl hS ?_;refine qP (i:=10) rfl hS ?_;refine wpAnyH_take (i:=11) (v:=.bool false) rfl (by kernel_rfl) (by kernel_rfl) (by kernel_rfl) (fun _ _ _ h=>h) (Or.inl ⟨by kernel_rfl,fun _ _=>by kernel_rfl⟩) hS ?_;refine wpAnyH_take (i:=12) (v:=.bool false) rfl (by kernel_rfl) (by kernel_rfl) (by kernel_rfl) (fun _ _ _ h=>h) (Or.inl ⟨by kernel_rfl,fun _ _=>by kernel_rfl⟩) hS ?_;refine qP (i:=13) rfl hS ?_;refine qP (i:=14) rfl hS ?_;refine wpAnyH_take (i:=15) (v:=.bool false) rfl (by kernel_rfl) (by kernel_rfl) (by kernel_rfl) (fun _ _ _ h=>h) (Or.inl ⟨by kernel_rfl,fun _ _=>by kernel_rfl⟩) hS ?_
      refine wpAnyH_ready (rs:=[4,16]) (by kernel_rfl) (by simp) ?_;refine AllReadyH.cons rfl (fun K hK=>?_) (AllReadyH.cons rfl (fun K hK=>?_) AllReadyH.nil);go_simp;refine hK.out _ _ hS (fun hS2=>?_);clear hK K;refine wpAnyH_ready (rs:=[16]) (by kernel_rfl) (by simp) ?_
      rotate_left
      go_simp;refine hK.out _ _ SA.o (fun hS2=>?_);clear hK K;refine wpAnyH_ready (rs:=[4]) (by kernel_rfl) (by simp) ?_
      all_goals
       refine AllReadyH.cons rfl (fun K hK=>?_) AllReadyH.nil;go_simp;refine hK.out _ _ SA.o (fun je=>?_);clear hK K hS2 je;refine wpAnyH_ready (rs:=[17]) (by kernel_rfl) (by simp) ?_;refine AllReadyH.cons rfl (fun K hK=>?_) AllReadyH.nil;rw [if_pos (by kernel_rfl)];refine Du _ (.tmp 35) (.tmp 47) 128 rfl WB.heap.size 4 i0 (.bool false) 1 1 Tryz.underlying128 hi hz0 hz1 hz2 rfl (by decide) (.slice av j cv) j sl (by kernel_rfl) hA.o ⟨W6.heap.size,0,none⟩ 1 1 [.bool false] (by kernel_rfl) rfl hN.o iC.o h63.o hby.o hbs.o ?_;intro v' w3 hown' hgrow _ _;obtain ⟨oh,cv',rfl⟩:=yi hown';obtain ⟨t1,t2,t3,t4,t5⟩:=STEP.o _ _ hown' hgrow
       have T1:=hid t1;have T3:Hd ((w3.setCell ⟨bk,2,none⟩ (.slice oh (j+1) cv')).cell? ⟨L,2,none⟩=some (.int .i64 r.kind)):=t3.cell 2;refine hK.out _ _ (t2.cell 2) (fun jh=>?_);clear hK K hown' hgrow t1 t2 t3;refine aU (i:=18) (v:=?_) rfl ?_ jh ?_
       rotate_left
       ·intro w' hw'; have x2:=hw'; go_simp; with_reducible rfl
       refine aU (i:=19) (v:=?_) rfl ?_ jh ?_
       rotate_left
       ·intro w' hw'; have x2:=hw'; go_simp; with_reducible rfl
       refine wpAnyH_ready (rs:=[20]) (by kernel_rfl) (by simp) ?_;refine AllReadyH.cons rfl (fun K hK=>?_) AllReadyH.nil;go_simp;refine hK.out _ _ T3.o (fun hS5=>?_);clear hK K;refine wpAnyH_done (by kernel_rfl) ?_ _
       try simp only [sN,qc,pz,pU,gu,fZ,gq]
       clear hA hN iC h63 hby hbs m2 n2 t4 t5 jh hS5 hS STEP SA T3;go_wp2
       go_roundw
       case rel=>exact ⟨j+1,_,by omega,by go_num,by rw [TK.o,EX.o]; exact T1.o⟩
       case measure=>simp [intOf]; omega
    ·obtain rfl:j=m.obj.aj.length:=by omega
     have g3:decide ((m.obj.aj.length:Int) < (m.obj.aj.length:Int))=false:=by simp
     have PA:=hid (PK.o ((m.obj.aj.take m.obj.aj.length).map (Ln.dH ms m)) _ wr (by rw [LJ]; exact HM.o));rw [List.take_length,FIN.o] at PA;clear LJ;go_wp2
     go_roundw
     case rel=>exact ⟨k+1,by omega,by go_num,PA.o⟩
     case measure=>simp [intOf]; omega
  ·obtain rfl:k=bl.length:=by omega
   have g3:decide ((bl.length:Int) < (bl.length:Int))=false:=by simp
   have LB:=hid (show yU Wf W0 P bt bf bd (.slice am bl.length cm) bl gl L1 st no wr by
    have:=HP.o
    rwa [List.drop_of_length_le (by rw [LO.o]; exact Nat.le_refl _),List.append_nil,List.take_of_length_le (by rw [LL.o,LO.o]; exact Nat.le_refl _)] at this)
   clear HP;go_wp2
   go_end0
   rw [<- GJ.o];exact ⟨rfl,LB.o⟩
end Go.Proofs.YtpgklkhgfcjceaaGreatDoor
