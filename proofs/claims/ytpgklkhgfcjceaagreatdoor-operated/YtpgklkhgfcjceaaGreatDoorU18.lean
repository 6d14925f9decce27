
import Derived.Test.YtpgklkhgfcjceaaGreatDoorU17
set_option maxHeartbeats 16000000
set_option maxRecDepth 100000
namespace Go.Proofs.YtpgklkhgfcjceaaGreatDoor
open Go.RowKit
theorem YQ (g:Nat) (o:Lk.Obj) (ah:Nat) (w:World) (h:yv w g o) (hb4:Co o.align) (h1:1<=ah) (h3:ah<=4) :
  Calls Tryz.prog 106 #[.pointer (some ⟨g,0,none⟩),.int .i64 ah] w fun e w'=>e = .returned (.int .i64 (Ln.aG o ah))/\w'=w:=by
 obtain ⟨at_,ct,af,cf,ad,cd,aa,ca,gJ,cs,ar,cr,hb,-,-,-,q4,-⟩:=h.open;have hl:=hb4.1;have hr:=hb4.2 (ah - 1) (by omega);obtain ⟨ga,off,rfl,hc⟩:=yC.aU q4 (by omega);have hck:=hc (ah - 1) (by omega);have k4:=hb.cell 4;clear h hb hc q4;have g1:(1:Int)<=(ah:Int):=by omega
 have g2:(ah:Int)<=4:=by omega
 have HL:=hid hl;have hl4:4<=o.align.length:=by omega
 have hl5:o.align.length<=4:=by omega
 have hpf:ah - 1 < o.align.length:=by omega
 have hk:w.cell? ⟨ga,off+(ah - 1),none⟩=some (.int .i64 (o.align[ah - 1]'hpf)):=hck;clear hck;have EB:Ln.aG o ah=zA (o.align[ah - 1]'hpf):=by unfold Ln.aG; rw [lN,jW hpf]; rfl
 rw [EB];clear EB;replace hr:2<=o.align[ah - 1]'hpf/\o.align[ah - 1]'hpf<=4:=hr;generalize o.align[ah - 1]'hpf=x at *;generalize o.align.length=n at *;rcases (show x=2\/x=3\/x=4 from by omega) with rfl | rfl | rfl
 all_goals
  clear hr HL hb4;go_enter Tryz.func106,Tryz.ntmps106;go_wp2;go_ret;exact ⟨by simp [zA],rfl⟩
theorem Zr {m m':Ln.Mod} (h1:m'.obj=m.obj) (h2:m'.short=m.short) (ah off a:Int):Ln.stays m' ah off a=Ln.stays m ah off a:=by unfold Ln.stays; rw [h1,h2]
theorem yht {m m':Ln.Mod} (h1:m'.obj=m.obj) (h2:m'.short=m.short) (ah:Int):∀ (ws:List Int) (k:Nat) (a:Int),Ln.aQ m' ah k ws a=Ln.aQ m ah k ws a:=by
 intro ws
 induction ws with
 | nil=>intro k a; rfl
 | cons x ws ih=>intro k a; unfold Ln.aQ; rw [ih,Zr h1 h2]
theorem yjN {m m':Ln.Mod} (h1:m'.obj=m.obj) (h2:m'.short=m.short) (ah:Int):∀ (ws:List Int) (k:Nat) (a:Int),Ln.dP m' ah k ws a=Ln.dP m ah k ws a:=by
 intro ws
 induction ws with
 | nil=>intro k a; rfl
 | cons x ws ih=>intro k a; unfold Ln.dP; rw [ih,Zr h1 h2]
theorem QH {m m':Ln.Mod} (h1:m'.obj=m.obj) (h2:m'.short=m.short) (ah:Nat) (f:Int):Ln.aN m' ah f=Ln.aN m ah f:=by
 unfold Ln.aN Ln.begin_; rw [yht h1 h2,h1]
theorem Rb {m m':Ln.Mod} (h1:m'.obj=m.obj) (h2:m'.short=m.short) (ah:Nat) (f:Int):Ln.dH m' ah f=Ln.dH m ah f:=by
 unfold Ln.dH Ln.begin_; rw [yjN h1 h2,h1]
theorem Yk (m:Ln.Mod) (ah:Int):∀ (ws:List Int) (k:Nat) (a:Int),(Ln.aQ m ah k ws a).length=ws.length+1/\∀ p∈Ln.aQ m ah k ws a,a<=p/\p<=a+4 * ws.length:=by
 intro ws
 induction ws with
 | nil=>intro k a; refine ⟨rfl,fun p hp=>?_⟩; simp [Ln.aQ] at hp; subst hp; simp
 | cons x ws ih =>
  intro k a;unfold Ln.aQ
  have:=ih (k+1) (if Ln.stays m ah (4 * k) a then a+4 else a)
  refine ⟨by rw [iV,this.1]; simp,fun p hp=>?_⟩;rcases List.mem_cons.1 hp with rfl | hp
  ·simp only [iV]; omega
  ·have q:=this.2 p hp;simp only [iV];split at q <;> omega
theorem yiR (m:Ln.Mod) (ah:Int):∀ (ws:List Int) (k:Nat) (a:Int),a<=Ln.dP m ah k ws a/\Ln.dP m ah k ws a<=a+4 * ws.length:=by
 intro ws
 induction ws with
 | nil=>intro k a; simp [Ln.dP]
 | cons x ws ih =>
  intro k a;unfold Ln.dP;have q:=ih (k+1) (if Ln.stays m ah (4 * k) a then a+4 else a);simp only [iV];split at q <;> rename_i e <;> simp only [e] <;> simp <;> omega
theorem ypa {o:Lk.Obj} (hv:yx o) (ah:Nat) (hs:ah=1\/ah=2):(yw o ah).length<=1200:=by
 have:=hv.1.1
 rcases hs with rfl | rfl
 ·exact this.1
 ·exact this.2.1
theorem Jw {m:Ln.Mod} (hv:yx m.obj) (ah:Nat) (hs:ah=1\/ah=2) (f:Int) (h0:0<=f) (h1:f<=562949953421312) :
  (f<=Ln.dH m ah f/\Ln.dH m ah f<=f+4815)/\(Ln.aN m ah f).length<=1201/\∀ p∈Ln.aN m ah f,f<=p/\p<=f+4815:=by
 have hl:=ypa hv ah hs;have r:=Bz f (Ln.aG m.obj ah) h0 (by omega) (zw _);have e:=yiR m ah (yw m.obj ah) 0 (Ln.begin_ m ah f);have p:=Yk m ah (yw m.obj ah) 0 (Ln.begin_ m ah f);have b:Ln.begin_ m ah f=Ln.rup f (Ln.aG m.obj ah):=rfl;rw [b] at e p;refine ⟨?_,?_,fun q hq=>?_⟩
 ·unfold Ln.dH; rw [b]; omega
 ·unfold Ln.aN; rw [b,p.1]; omega
 ·have:=p.2 q hq; omega
section
variable {w:World} {bl:List Nat} {b g n:Nat} {m:Ln.Mod} {x:Int} {ps:List Int}
theorem yG.uP (h:yG w bl b g m) (x:Int):yG (w.setCell ⟨b,5,none⟩ (.int .i64 x)) bl b g { m with data:=x }:=by
 obtain ⟨u1,u2,u3,u4,q0,q1,q2,q3,q4,q5,q6,q7⟩:=h;have gs:=yf w b 5 (.int .i64 x);have R:=bS.blk q0;exact ⟨u1,u2,u3,u4,by simpa using q0.set 5 (.int .i64 x),uV q1 gs R (by decide) (by decide) (by decide) (by decide),yB q2 gs R (by decide),yB q3 gs R (by decide),yB q4 gs R (by decide),yB q5 gs R (by decide),q6,q7⟩
theorem yG.zl (h:yG w bl b g m) (x:Int):yG (w.setCell ⟨b,6,none⟩ (.int .i64 x)) bl b g { m with bss:=x }:=by
 obtain ⟨u1,u2,u3,u4,q0,q1,q2,q3,q4,q5,q6,q7⟩:=h;have gs:=yf w b 6 (.int .i64 x);have R:=bS.blk q0;exact ⟨u1,u2,u3,u4,by simpa using q0.set 6 (.int .i64 x),uV q1 gs R (by decide) (by decide) (by decide) (by decide),yB q2 gs R (by decide),yB q3 gs R (by decide),yB q4 gs R (by decide),yB q5 gs R (by decide),q6,q7⟩
theorem yK.qC (h:yK n m) (hl:ps.length<=65536) (hp:∀ p∈ps,0<=p/\p<=1125899906842624):yK n { m with text:=ps }:=⟨⟨hl,hp⟩,h.far,h.data,h.bss,h.means,h.short,h.aj⟩
theorem yK.zm (h:yK n m) (hl:ps.length<=65536) (hp:∀ p∈ps,0<=p/\p<=1125899906842624):yK n { m with far:=ps }:=⟨h.text,⟨hl,hp⟩,h.data,h.bss,h.means,h.short,h.aj⟩
theorem yK.uP (h:yK n m) (hx:0<=x/\x<=1125899906842624):yK n { m with data:=x }:=⟨h.text,h.far,hx,h.bss,h.means,h.short,h.aj⟩
theorem yK.zl (h:yK n m) (hx:0<=x/\x<=1125899906842624):yK n { m with bss:=x }:=⟨h.text,h.far,h.data,hx,h.means,h.short,h.aj⟩
end
theorem Rc:∀ (ms:List Ln.Mod) (t f d:Int),(Ln.dD ms t f d).length=ms.length:=by
 intro ms
 induction ms with
 | nil=>intro t f d; rfl
 | cons m ms ih=>intro t f d; unfold Ln.dD; rw [iV,ih,iV]
theorem Zj:∀ (ms:List Ln.Mod) (b:Int),(Ln.fu ms b).length=ms.length:=by
 intro ms
 induction ms with
 | nil=>intro b; rfl
 | cons m ms ih=>intro b; unfold Ln.fu; rw [iV,ih,iV]
theorem ZG {α:Type} {l r:List α} {x:α} {k:Nat} (hk:k < l.length) (h:l.drop k=x :: r):l[k]=x/\l.drop (k+1)=r:=by
 rw [mE hk] at h;exact List.cons.inj h
theorem QJ {o:Lk.Obj} (h:yx o):wU o:=by
 obtain ⟨⟨⟨a,b,c⟩,-,d,e⟩,f,-⟩:=h
 have:=f.1
 exact ⟨by omega,by omega,by omega,by omega,by omega,by omega⟩
theorem OM:∀ (ms:List Ln.Mod) (t f d:Int),(Ln.dD ms t f d).map Ln.Mod.obj=ms.map Ln.Mod.obj:=by
 intro ms
 induction ms with
 | nil=>intro t f d; rfl
 | cons m ms ih=>intro t f d; unfold Ln.dD; rw [List.map_cons,ih,List.map_cons]; rfl
theorem ylh:∀ (ms ms':List Ln.Mod) (b:Int),ms'.map Ln.Mod.obj=ms.map Ln.Mod.obj->Ln.iy ms' b=Ln.iy ms b:=by
 intro ms
 induction ms with
 | nil =>
  intro ms' b h
  cases ms' with
  | nil=>rfl
  | cons x xs=>simp at h
 | cons m ms ih =>
  intro ms' b h
  cases ms' with
  | nil=>simp at h
  | cons x xs =>
   rw [List.map_cons,List.map_cons] at h;obtain ⟨h1,h2⟩:=List.cons.inj h;unfold Ln.iy;rw [h1,ih xs _ h2]
theorem Zi (Wf W0:World) (P:Nat) (bt bf bd:Int) (vm:Value) (bl gl:List Nat) (ms:List Ln.Mod) (st:Ln.gP) (no:Int) (W:World) (h:yX Wf W0 P bt bf bd vm bl gl ms st no W) (hn:∀ m∈ms,yK bl.length m) (hv:∀ m∈ms,yx m.obj)
  (hbt:0<=bt/\bt<=4294967296) (hbf:0<=bf/\bf<=4294967296) (hbd:0<=bd/\bd<=4294967296) :
  Calls Tryz.prog 70 #[aX P] W fun e W'=>e = .returned (.tuple #[])/\yX Wf W0 P bt bf bd vm bl gl (Ln.lay bt bf bd ms) st (Ln.noughts bd ms) W':=by
 obtain ⟨am,cm,rfl⟩:=yh h.row;have H0:=hid h;have c0:W.cell? ⟨P,0,none⟩=some (.int .i64 bt):=h.blk.cell 0;have c1:W.cell? ⟨P,1,none⟩=some (.int .i64 bf):=h.blk.cell 1;have c2:W.cell? ⟨P,2,none⟩=some (.int .i64 bd):=h.blk.cell 2;have c3:W.cell? ⟨P,3,none⟩=some (.slice am bl.length cm):=h.blk.cell 3;have hbl:=h.few;have LO:=hid h.gM;have HN:=hid hn;have HV:=hid hv;have LL:=hid (Rc ms bt bf bd);obtain ⟨L1,hL1⟩:∃ L1,L1=Ln.dD ms bt bf bd:=⟨_,rfl⟩
 have Jc:=hid hL1;rw [<- hL1] at LL;clear h hn hv hL1;unfold aX;go_enter Tryz.func70,Tryz.ntmps70;go_wp2
 go_quiet (fail)
 have HW1:=hid (H0.o.kept (ye (World.grownBy.refl W none) nq));go_wp2;generalize W.drewN nq=W1 at *;clear c0 c1 c2 c3 H0
 go_loopw [2,3,4,30] (fun vt vf vd i wr=>∃ (k:Nat) (t f d:Int),k<=bl.length/\i = .int .i64 k/\vt = .int .i64 t/\vf = .int .i64 f/\vd = .int .i64 d/\yX Wf W0 P bt bf bd (.slice am bl.length cm) bl gl (L1.take k ++ ms.drop k) st no wr/\L1.drop k=Ln.dD (ms.drop k) t f d/\Ln.dO ms bd=Ln.dO (ms.drop k) d/\(0<=t/\t<=4294967296+5000 * k)/\(0<=f/\f<=4294967296+5000 * k)/\(0<=d/\d<=4294967296+5000 * k)) (fun _ _ _ i _=>bl.length - (intOf i).toNat)
 case atStart=>exact ⟨0,bt,bf,bd,Nat.zero_le _,rfl,rfl,rfl,rfl,by simpa using HW1.o,by rw [Jc.o]; rfl,rfl,by omega,by omega,by omega⟩
 case round =>
  obtain ⟨k,t,f,d,hk,rfl,rfl,rfl,rfl,hpa,hld,hde,ht,hf,hd⟩:=hrel;have HP:=hid hpa;have JK:=hid hld;have PX:=hid hde;clear hpa hld hde HW1;by_cases hlt:k < bl.length
  ·have hko:k < ms.length:=by rw [LO.o]; exact hlt
   have hkg:k < gl.length:=by rw [HP.o.iQ]; exact hlt
   have AJ:k < L1.length:=by rw [LL.o]; exact hko
   obtain ⟨sg,off,hsg,hsc⟩:=HP.o.jk.ptrs (by omega);have ck:=hsc k hlt;have HM:yG wr bl bl[k] (gl[k]'hkg) ms[k]:=by
    have:=HP.o.mods k hlt
    rwa [MF ms L1 k hko (by rw [LL.o]; omega)] at this
   have MV:=HV.o _ (iC hko);have MN:=HN.o _ (iC hko);have R1:=Jw MV 1 (.inl rfl) t ht.1 (by omega);have R2:=Jw MV 2 (.inr rfl) f hf.1 (by omega);have UP:=hid (fun (w2:World) (hg:wr.grownBy w2 (some bl[k])) (hm:yG w2 bl bl[k] (gl[k]'hkg) (Ln.bC ms[k] t f d))=>show yX Wf W0 P bt bf bd (.slice am bl.length cm) bl gl (L1.take (k+1) ++ ms.drop (k+1)) st no w2/\L1.drop (k+1)=Ln.dD (ms.drop (k+1)) (Ln.dH ms[k] 1 t) (Ln.dH ms[k] 2 f) (Ln.rup d (Ln.aG ms[k].obj 3)+4 * ms[k].obj.data.length)/\Ln.dO ms bd=Ln.dO (ms.drop (k+1)) (Ln.rup d (Ln.aG ms[k].obj 3)+4 * ms[k].obj.data.length) from by
    have e:=JK.o;rw [mE hko] at e;obtain ⟨e1,e2⟩:=ZG AJ e;refine ⟨?_,e2,?_⟩
    ·rw [<- Rs ms L1 k hko AJ LL.o,e1];exact HP.o.upd hlt (by rw [HP.o.gM]; exact hlt) hg hm (by rw [MF ms L1 k hko (by rw [LL.o]; omega)]; rfl)
    ·have e3:=PX.o;rw [mE hko] at e3;exact e3)
   have g1:(k:Int) < (bl.length:Int):=by omega
   have RD:=Bz d (Ln.aG ms[k].obj 3) hd.1 (by omega) (zw _);have BV:Ln.aG ms[k].obj 3=4\/Ln.aG ms[k].obj 3=8\/Ln.aG ms[k].obj 3=16:=zw _;have hdl:ms[k].obj.data.length<=64:=MV.1.1.2.2;clear hsc HP JK PX;generalize ms[k]=m at *;generalize X3:(gl[k]'hkg)=gk at *;generalize hbk:bl[k]=bk at *;have NQ:=hid (YX bl bk gk bl.length m 1 t wr HM MN MV (.inl rfl) ht.1 (by omega));have XB:=hid (fun W2 (h2:yG W2 bl bk gk { m with text:=Ln.aN m 1 t })=>YX bl bk gk bl.length _ 2 f W2 h2 (MN.qC (by omega) (fun p hp=>by have:=R1.2.2 p hp; omega)) MV (.inr rfl) hf.1 (by omega));have cB:=hid (fun W2 (h2:yv W2 gk m.obj)=>YQ gk m.obj 3 W2 h2 MV.2.1 (by omega) (by omega))
   have cU:=hid (fun W2=>Rf d (Ln.aG m.obj 3) W2 hd.1 (by omega) (by omega) (by omega));have cN:=hid (fun W2 (h2:yv W2 gk m.obj)=>QW gk m.obj 3 W2 h2 (QJ MV) MV.1.2.1);subst hsg;unfold aX at *;go_wp2_with fail;refine NQ.o.mono ?_;rintro e W2 ⟨rfl,g2,m2⟩;have M2:=hid (show yG W2 bl bk gk { m with text:=Ln.aN m 1 t } from m2);have WH:=hid g2;clear g2 m2 NQ;go_wp2_with fail;refine (XB.o _ M2.o).mono ?_;rintro e W3 ⟨rfl,g3,m3⟩;have EL:Ln.dH { m with text:=Ln.aN m 1 t } 2 f=Ln.dH m 2 f:=Rb (m:=m) (m':={ m with text:=Ln.aN m 1 t }) rfl rfl 2 f;rw [EL];have M3:=hid (show yG W3 bl bk gk { m with text:=Ln.aN m 1 t,far:=Ln.aN m 2 f } by
    have e:Ln.aN { m with text:=Ln.aN m 1 t } 2 f=Ln.aN m 2 f:=QH (m:=m) (m':={ m with text:=Ln.aN m 1 t }) rfl rfl 2 f;rw [e] at m3;exact m3)
   have WI:=hid (WH.o.trans g3);clear g3 m3 XB EL WH M2;have k0:W3.cell? ⟨bk,0,none⟩=some (.pointer (some ⟨gk,0,none⟩)):=by obtain ⟨u1,u2,u3,u4,q0,-⟩:=M3.o; exact q0.cell 0
   have k5:W3.cell? ⟨bk,5,none⟩=some (.int .i64 m.data):=by obtain ⟨u1,u2,u3,u4,q0,-⟩:=M3.o; exact q0.cell 5
   have f5:W3.frozen? ⟨bk,5,none⟩=false:=by obtain ⟨u1,u2,u3,u4,q0,-⟩:=M3.o; exact q0.free 5
   have o3:Hd (yv W3 gk m.obj):=by obtain ⟨u1,u2,u3,u4,q0,q1,-⟩:=M3.o; exact q1
   go_wp2_with fail;refine (cB.o _ o3.o).mono ?_;rintro e w' ⟨rfl,hw⟩;rw [hw];clear hw w';go_wp2_with fail;refine (cU.o _).mono ?_;rintro e w' ⟨rfl,hw⟩;rw [hw];clear hw w';generalize Qy:Ln.rup d (Ln.aG m.obj 3)=rd at *;have HRU:=hid Qy;clear Qy;have M4:=hid (M3.o.uP rd);have M8:=hid (WI.o.trans (yf W3 bk 5 (.int .i64 rd)));go_wp2;clear k0 k5 f5 o3 M3 WI cB cU;generalize W3.setCell ⟨bk,5,none⟩ (.int .i64 rd)=W4 at *;have k0:W4.cell? ⟨bk,0,none⟩=some (.pointer (some ⟨gk,0,none⟩)):=by obtain ⟨u1,u2,u3,u4,q0,-⟩:=M4.o; exact q0.cell 0
   have k5:W4.cell? ⟨bk,5,none⟩=some (.int .i64 rd):=by obtain ⟨u1,u2,u3,u4,q0,-⟩:=M4.o; exact q0.cell 5
   have O4:Hd (yv W4.drew gk m.obj):=by obtain ⟨u1,u2,u3,u4,q0,q1,-⟩:=M4.o; exact q1.kept (yi (World.grownBy.refl _ _))
   have es:vC m.obj 3=m.obj.data.length:=rfl;rw [es] at cN;have w1:IntKind.i64.wrap (rd+4 * (m.obj.data.length:Int))=rd+4 * m.obj.data.length:=IntWalk.i64_in _ ⟨by omega,by omega⟩
   go_region_held3 (fun w'=>w'.cell? ⟨bk,0,none⟩=some (.pointer (some ⟨gk,0,none⟩))/\w'.cell? ⟨bk,5,none⟩=some (.int .i64 rd))
    (go_keep)
    (first | (go_at_call 87; refine (cN.o _ O4.o).mono ?_; rintro e w' ⟨rfl,hw⟩; rw [hw]; clear hw w'))
   have UQ:=hid (UP.o W4.drew (yi M8.o) (by
    have:=M4.o.kept (yi (World.grownBy.refl W4 none))
    rw [<- HRU.o] at this;exact this))
   clear UP M4 M8 cN O4;go_wp2
   go_roundw
   case rel=>exact ⟨k+1,_,_,_,by omega,by go_num,rfl,rfl,rfl,UQ.o.1,UQ.o.2.1,UQ.o.2.2,by omega,by omega,by omega⟩
   case measure=>simp [intOf]; omega
  ·obtain rfl:k=bl.length:=by omega
   have g3:decide ((bl.length:Int) < (bl.length:Int))=false:=by simp
   have Nk:=hid (show yX Wf W0 P bt bf bd (.slice am bl.length cm) bl gl L1 st no wr by
    have:=HP.o
    rwa [List.drop_of_length_le (by rw [LO.o]; exact Nat.le_refl _),List.append_nil,List.take_of_length_le (by rw [LL.o,LO.o]; exact Nat.le_refl _)] at this)
   have DE:=hid (show Ln.dO ms bd=d by rw [PX.o,List.drop_of_length_le (by rw [LO.o]; exact Nat.le_refl _)]; rfl);have c3:wr.cell? ⟨P,3,none⟩=some (.slice am bl.length cm):=Nk.o.blk.cell 3;have L6:=hid (Zj L1 d);obtain ⟨L2,hL2⟩:∃ L2,L2=Ln.fu L1 d:=⟨_,rfl⟩
   have HL2:=hid hL2;rw [<- hL2] at L6;have OV:=hid (show ∀ i (h:i < L1.length),yx L1[i].obj from fun i h=>by
    have e:L1.map Ln.Mod.obj=ms.map Ln.Mod.obj:=by rw [Jc.o]; exact OM ms bt bf bd
    have:L1[i].obj∈ms.map Ln.Mod.obj:=by rw [<- e]; exact List.mem_map_of_mem (iC h)
    obtain ⟨x,hx,e2⟩:=List.mem_map.1 this;rw [<- e2];exact HV.o x hx)
   have FIN:=hid (show Ln.lay bt bf bd ms=L2/\Ln.noughts bd ms=(Ln.iy L1 d - d) / 4 by
    unfold Ln.lay Ln.noughts;rw [DE.o,<- Jc.o,<- HL2.o];refine ⟨rfl,?_⟩;rw [ylh ms L1 d (by rw [Jc.o]; exact OM ms bt bf bd)])
   clear hL2 HP JK PX;go_wp2;generalize wr=V1 at *;clear c3
   go_loopw [7,67] (fun vb i wr=>∃ (k:Nat) (b:Int),k<=bl.length/\i = .int .i64 k/\vb = .int .i64 b/\yX Wf W0 P bt bf bd (.slice am bl.length cm) bl gl (L2.take k ++ L1.drop k) st no wr/\L2.drop k=Ln.fu (L1.drop k) b/\Ln.iy L1 d=Ln.iy (L1.drop k) b/\(d<=b/\b<=4294967296+5000 * bl.length+5000 * k)) (fun _ i _=>bl.length - (intOf i).toNat)
   case atStart=>exact ⟨0,d,Nat.zero_le _,rfl,rfl,by simpa using Nk.o,by rw [HL2.o]; rfl,rfl,Int.le_refl _,by omega⟩
   case round =>
    obtain ⟨k,b,hk2,rfl,rfl,hpa,hld,hbe,hb⟩:=hrel;have HP:=hid hpa;have JK:=hid hld;have PU:=hid hbe;clear hpa hld hbe Nk;by_cases hlt:k < bl.length
    ·have AJ:k < L1.length:=by rw [LL.o,LO.o]; exact hlt
     have hkg:k < gl.length:=by rw [HP.o.iQ]; exact hlt
     have Oh:k < L2.length:=by rw [L6.o]; exact AJ
     obtain ⟨sg,off,hsg,hsc⟩:=HP.o.jk.ptrs (by omega);have ck:=hsc k hlt;have HM:yG wr bl bl[k] (gl[k]'hkg) L1[k]:=by
      have:=HP.o.mods k hlt
      rwa [MF L1 L2 k AJ (by rw [L6.o]; omega)] at this
     have MV:=OV.o k AJ;have UP:=hid (fun (w2:World) (hg:wr.grownBy w2 (some bl[k])) (hm:yG w2 bl bl[k] (gl[k]'hkg) { L1[k] with bss:=Ln.rup b (Ln.aG L1[k].obj 4) })=>show yX Wf W0 P bt bf bd (.slice am bl.length cm) bl gl (L2.take (k+1) ++ L1.drop (k+1)) st no w2/\L2.drop (k+1)=Ln.fu (L1.drop (k+1)) (Ln.rup b (Ln.aG L1[k].obj 4)+4 * L1[k].obj.bss)/\Ln.iy L1 d=Ln.iy (L1.drop (k+1)) (Ln.rup b (Ln.aG L1[k].obj 4)+4 * L1[k].obj.bss) from by
      have e:=JK.o;rw [mE AJ] at e;obtain ⟨e1,e2⟩:=ZG Oh e;refine ⟨?_,e2,?_⟩
      ·rw [<- Rs L1 L2 k AJ Oh L6.o,e1];exact HP.o.upd hlt (by rw [HP.o.gM]; exact hlt) hg hm (by rw [MF L1 L2 k AJ (by rw [L6.o]; omega)])
      ·have e3:=PU.o;rw [mE AJ] at e3;exact e3)
     have g1:(k:Int) < (bl.length:Int):=by omega
     have RD:=Bz b (Ln.aG L1[k].obj 4) (by omega) (by omega) (zw _);have BV:Ln.aG L1[k].obj 4=4\/Ln.aG L1[k].obj 4=8\/Ln.aG L1[k].obj 4=16:=zw _;have hdl:=MV.1.2.1;clear hsc HP JK PU;generalize L1[k]=m at *;generalize X3:(gl[k]'hkg)=gk at *;generalize hbk:bl[k]=bk at *;have cB:=hid (fun W2 (h2:yv W2 gk m.obj)=>YQ gk m.obj 4 W2 h2 MV.2.1 (by omega) (by omega));have cU:=hid (fun W2=>Rf b (Ln.aG m.obj 4) W2 (by omega) (by omega) (by omega) (by omega));have cN:=hid (fun W2 (h2:yv W2 gk m.obj)=>QW gk m.obj 4 W2 h2 (QJ MV) MV.1.2.1);subst hsg;have M3:=hid HM;clear HM;have k0:wr.cell? ⟨bk,0,none⟩=some (.pointer (some ⟨gk,0,none⟩)):=by obtain ⟨u1,u2,u3,u4,q0,-⟩:=M3.o; exact q0.cell 0
     have k6:wr.cell? ⟨bk,6,none⟩=some (.int .i64 m.bss):=by obtain ⟨u1,u2,u3,u4,q0,-⟩:=M3.o; exact q0.cell 6
     have f6:wr.frozen? ⟨bk,6,none⟩=false:=by obtain ⟨u1,u2,u3,u4,q0,-⟩:=M3.o; exact q0.free 6
     have o3:Hd (yv wr gk m.obj):=by obtain ⟨u1,u2,u3,u4,q0,q1,-⟩:=M3.o; exact q1
     unfold aX at *;go_wp2_with fail;refine (cB.o _ o3.o).mono ?_;rintro e w' ⟨rfl,hw⟩;rw [hw];clear hw w';go_wp2_with fail;refine (cU.o _).mono ?_;rintro e w' ⟨rfl,hw⟩;rw [hw];clear hw w';generalize Qy:Ln.rup b (Ln.aG m.obj 4)=rd at *;have M4:=hid (M3.o.zl rd);have M8:=hid (yf wr bk 6 (.int .i64 rd));clear Qy;go_wp2;clear k0 k6 f6 o3 M3 cB cU ck;generalize wr.setCell ⟨bk,6,none⟩ (.int .i64 rd)=W4 at *;have k0:W4.cell? ⟨bk,0,none⟩=some (.pointer (some ⟨gk,0,none⟩)):=by obtain ⟨u1,u2,u3,u4,q0,-⟩:=M4.o; exact q0.cell 0
     have k6:W4.cell? ⟨bk,6,none⟩=some (.int .i64 rd):=by obtain ⟨u1,u2,u3,u4,q0,-⟩:=M4.o; exact q0.cell 6
     have O4:Hd (yv W4.drew gk m.obj):=by obtain ⟨u1,u2,u3,u4,q0,q1,-⟩:=M4.o; exact q1.kept (yi (World.grownBy.refl _ _))
     have es:vC m.obj 4=m.obj.bss:=rfl;rw [es] at cN;have w1:IntKind.i64.wrap (rd+4 * m.obj.bss)=rd+4 * m.obj.bss:=IntWalk.i64_in _ ⟨by omega,by omega⟩
     go_region_held3 (fun w'=>w'.cell? ⟨bk,0,none⟩=some (.pointer (some ⟨gk,0,none⟩))/\w'.cell? ⟨bk,6,none⟩=some (.int .i64 rd))
      (go_keep)
      (first | (go_at_call 87; refine (cN.o _ O4.o).mono ?_; rintro e w' ⟨rfl,hw⟩; rw [hw]; clear hw w'))
     have UQ:=hid (UP.o W4.drew (yi M8.o) (M4.o.kept (yi (World.grownBy.refl W4 none))));clear UP M4 M8 cN O4;go_wp2
     go_roundw
     case rel=>exact ⟨k+1,_,by omega,by go_num,rfl,UQ.o.1,UQ.o.2.1,UQ.o.2.2,by omega,by omega⟩
     case measure=>simp [intOf]; omega
    ·obtain rfl:k=bl.length:=by omega
     have g3:decide ((bl.length:Int) < (bl.length:Int))=false:=by simp
     have Cv:=hid (show yX Wf W0 P bt bf bd (.slice am bl.length cm) bl gl L2 st no wr by
      have:=HP.o
      rwa [List.drop_of_length_le (by rw [LL.o,LO.o]; exact Nat.le_refl _),List.append_nil,List.take_of_length_le (by rw [L6.o,LL.o,LO.o]; exact Nat.le_refl _)] at this)
     have BE:=hid (show Ln.iy L1 d=b by rw [PU.o,List.drop_of_length_le (by rw [LL.o,LO.o]; exact Nat.le_refl _)]; rfl);have w1:IntKind.i64.wrap (b - d)=b - d:=IntWalk.i64_in _ ⟨by omega,by omega⟩;have c7:wr.cell? ⟨P,7,none⟩=some (.int .i64 no):=Cv.o.blk.cell 7;have f7:=Cv.o.blk.free 7;have HF:=hid (Cv.o.nought (no':=(b - d) / 4));have ed:Int.tdiv (b - d) 4=(b - d) / 4:=Int.tdiv_eq_ediv_of_nonneg (by omega);clear HP JK PU Cv;go_wp2
     go_end0
     rw [FIN.o.1,FIN.o.2,BE.o];exact ⟨rfl,HF.o⟩
theorem Tryz.Dh:(Tryz.prog.info? 4).map (fun i=>(i.zero,i.size,i.bytes))=some (some (.bool false),1,1):=by kernel_rfl
namespace Ln
def fI (m:Mod):Mod:={ m with short:=[] }
end Ln
theorem QG (m:Ln.Mod) (s o:Int):Ln.address (Ln.fI m) s o=Ln.address m s o:=rfl
theorem yjh {ms ms':List Ln.Mod} (h:ms'.map Ln.fI=ms.map Ln.fI) (s:Ln.gP):Ln.bW ms' s=Ln.bW ms s:=by
 unfold Ln.bW
 cases s.mod with
 | none=>rfl
 | some i =>
  dsimp only;have e:(ms'[i]?).map Ln.fI=(ms[i]?).map Ln.fI:=by rw [<- List.getElem?_map,<- List.getElem?_map,h]
  cases h1:ms'[i]? with
  | none =>
   cases h2:ms[i]? with
   | none=>rfl
   | some y=>rw [h1,h2] at e; simp at e
  | some x =>
   cases h2:ms[i]? with
   | none=>rw [h1,h2] at e; simp at e
   | some y =>
    rw [h1,h2] at e;simp only [Option.map_some,Option.some.injEq] at e;dsimp only;rw [<- QG x,e,QG]
theorem yiQ {ms ms':List Ln.Mod} {m m':Ln.Mod} (h:ms'.map Ln.fI=ms.map Ln.fI) (hm:Ln.fI m'=Ln.fI m) (r:Lk.Rel):Ln.distance ms' m' r=Ln.distance ms m r:=by
 have e1:m'.means=m.means:=show (Ln.fI m').means=(Ln.fI m).means by rw [hm]
 unfold Ln.distance Ln.target;rw [e1,yjh h,<- QG m',hm,QG]
structure vg (WB:World) (bi:Nat) (g:Nat) (v1 v3 v4:Value) (d b:Int) (sl:List Value) (j:Nat) (vs:Value) (wr:World):Prop where
 gr:WB.grownBy wr (some bi)
 blk:yc wr bi #[aX g,v1,vs,v3,v4,.int .i64 d,.int .i64 b] 130
 row:wr.ownsRow WB.heap.size 4 1 vs j sl
 nil:j=0->vs = .slice none 0 0
section
variable {WB V wr w3:World} {bi g j:Nat} {v1 v3 v4 vs v':Value} {d b:Int} {sl news:List Value}
theorem vg.kept (h:vg WB bi g v1 v3 v4 d b sl j vs wr) (hV:wr.grownBy V none):vg WB bi g v1 v3 v4 d b sl j vs V :=
 ⟨h.gr.trans (hV.but _),h.blk.grown hV (by simp),h.row.kept hV (Decidable.em _),h.nil⟩
theorem vg.step (h:vg WB bi g v1 v3 v4 d b sl j vs V) (hown:w3.ownsRow WB.heap.size 4 1 v' (j+1) (sl ++ news)) (hg:V.grownBy w3 vs.ownBlock):vg WB bi g v1 v3 v4 d b (sl ++ news) (j+1) v' (w3.setCell ⟨bi,2,none⟩ v'):=by
 have b3:=yN h.blk hg (bS.own h.row) (by decide);have gs:=yf w3 bi 2 v';refine ⟨(h.gr.andThen hg (fun k hk=>.inl (h.row.lt k hk).1)).trans gs,?_,yB hown gs (bS.blk b3) (by decide),fun c=>by omega⟩;simpa using b3.set 2 v'
theorem vg.mod {m:Ln.Mod} {bl:List Nat} {l:List Bool} {cur:Array Value} (hq:yc WB bi cur 130) (ho:yv WB g m.obj) (q2:WB.ownsRow 0 123 3 v1 m.means.length (m.means.flatMap (Cq bl))) (q4:WB.ownsRow 0 3 1 v3 m.text.length (m.text.map (Value.int .i64))) (q5:WB.ownsRow 0 3 1 v4 m.far.length (m.far.map (Value.int .i64))) (q6:m.means=[]->v1 = .slice none 0 0) (h:vg WB bi g v1 v3 v4 m.data m.bss (l.map Value.bool) l.length vs wr):yG wr bl bi g { m with short:=l }:=by
 have R:=bS.blk hq;exact ⟨_,_,_,_,h.blk,uV ho h.gr R (by decide) (by decide) (by decide) (by decide),yB q2 h.gr R (by decide),Lf h.row,yB q4 h.gr R (by decide),yB q5 h.gr R (by decide),q6,fun e=>h.nil (by simp only at e; rw [e]; rfl)⟩
end
theorem yK.oG {n:Nat} {m:Ln.Mod} (h:yK n m) {l:List Bool} (hl:l.length<=65535):yK n { m with short:=l }:=⟨h.text,h.far,h.data,h.bss,h.means,hl,h.aj⟩
theorem ylR (Wf W0:World) (P:Nat) (bt bf bd:Int) (vm:Value) (bl gl:List Nat) (ms:List Ln.Mod) (st:Ln.gP) (no:Int) (W:World) (h:yX Wf W0 P bt bf bd vm bl gl ms st no W) (hn:∀ m∈ms,yK bl.length m) (hz:∀ m∈ms,m.short=[]) :
  Calls Tryz.prog 71 #[aX P] W fun e W'=>e = .returned (.tuple #[])/\yX Wf W0 P bt bf bd vm bl gl (Ln.shorten ms) st no W':=by
 obtain ⟨i0,hi,hz0,hz1,hz2⟩:=info_parts Tryz.Dh;obtain ⟨am,cm,rfl⟩:=yh h.row;have H0:=hid h;have c3:W.cell? ⟨P,3,none⟩=some (.slice am bl.length cm):=h.blk.cell 3;have hbl:=h.few;have LO:=hid h.gM;have HN:=hid hn;have HZ:=hid hz;obtain ⟨L1,hL1⟩:∃ L1,L1=Ln.shorten ms:=⟨_,rfl⟩
 have LL:=hid (show L1.length=ms.length by rw [hL1]; simp [Ln.shorten]);have LA:=hid (show ∀ k (h:k < ms.length) (h':k < L1.length),L1[k]={ ms[k] with short:=ms[k].obj.aj.map (Ln.bU ms ms[k]) } by intro k h h'; subst hL1; simp [Ln.shorten]);have Jc:=hid hL1;clear h hn hz hL1;unfold aX;go_enter Tryz.func71,Tryz.ntmps71;go_wp2;clear c3
 go_loopw [12] (fun i wr=>∃ k:Nat,k<=bl.length/\i = .int .i64 k/\yX Wf W0 P bt bf bd (.slice am bl.length cm) bl gl (L1.take k ++ ms.drop k) st no wr) (fun i _=>bl.length - (intOf i).toNat)
 case atStart=>exact ⟨0,Nat.zero_le _,rfl,by simpa using H0.o⟩
 case round =>
  obtain ⟨k,hk,rfl,hpa⟩:=hrel;have HP:=hid hpa;clear hpa H0;by_cases hlt:k < bl.length
  ·have hko:k < ms.length:=by rw [LO.o]; exact hlt
   have hkg:k < gl.length:=by rw [HP.o.iQ]; exact hlt
   have AJ:k < L1.length:=by rw [LL.o]; exact hko
   obtain ⟨sg,off,hsg,hsc⟩:=HP.o.jk.ptrs (by omega);have ck:=hsc k hlt;subst hsg;have xK:(L1.take k ++ ms.drop k)[k]'(by rw [HP.o.gM]; exact hlt)=ms[k]:=MF ms L1 k hko (by rw [LL.o]; omega) (by rw [HP.o.gM]; exact hlt);have HM:yG wr bl bl[k] (gl[k]'hkg) ms[k]:=by
    have:=HP.o.mods k hlt
    rwa [xK] at this
   have MN:=HN.o _ (iC hko);have MZ:=HZ.o _ (iC hko);obtain ⟨v1,v2,v3,v4,q0,q1,q2,-,q4,q5,q6,q7⟩:=HM;have e7:=q7 MZ;subst e7;obtain ⟨at_,ct,af,cf,ad,cd,aa,ca,gJ,cs,ar,cr,hb,-,-,-,-,-,p6⟩:=q1.open;have k6:=hb.cell 6;simp only [bJ,bN,bL] at k6;have k0:wr.cell? ⟨bl[k],0,none⟩=some (.pointer (some ⟨gl[k]'hkg,0,none⟩)):=q0.cell 0;have M0:=hid (show vg wr bl[k] (gl[k]'hkg) v1 v3 v4 ms[k].data ms[k].bss [] 0 (.slice none 0 0) wr from ⟨World.grownBy.refl _ _,q0,World.ownsRow_nil _ _ _ _,fun _=>rfl⟩);have PM:=hid (fun (l:List Bool) (vs:Value) (wr2:World) (hm:vg wr bl[k] (gl[k]'hkg) v1 v3 v4 ms[k].data ms[k].bss (l.map Value.bool) l.length vs wr2)=>show yG wr2 bl bl[k] (gl[k]'hkg) { ms[k] with short:=l } from vg.mod (m:=ms[k]) q0 q1 q2 q4 q5 q6 hm)
   have PK:=hid (fun (l:List Bool) (vs:Value) (wr2:World) (hm:vg wr bl[k] (gl[k]'hkg) v1 v3 v4 ms[k].data ms[k].bss (l.map Value.bool) l.length vs wr2)=>show yX Wf W0 P bt bf bd (.slice (some ⟨sg,off,none⟩) bl.length cm) bl gl ((L1.take k ++ ms.drop k).set k { ms[k] with short:=l }) st no wr2 from
    HP.o.upd hlt (by rw [HP.o.gM]; exact hlt) hm.gr (PM.o l vs wr2 hm) (by rw [xK]))
   have US:=hid (show ∀ l:List Bool,((L1.take k ++ ms.drop k).set k { ms[k] with short:=l }).map Ln.fI=ms.map Ln.fI from fun l=>by
    have eL:L1.map Ln.fI=ms.map Ln.fI:=by rw [Jc.o]; unfold Ln.shorten; rw [List.map_map]; rfl
    rw [List.map_set,List.map_append,List.map_take,List.map_drop,eL,List.take_append_drop]
    have:Ln.fI { ms[k] with short:=l }=(ms.map Ln.fI)[k]'(by simpa using hko):=by rw [List.getElem_map]; rfl
    rw [this];exact List.set_getElem_self _)
   have NI:=hid (show ∀ l:List Bool,l.length<=65535->∀ x∈(L1.take k ++ ms.drop k).set k { ms[k] with short:=l },yK bl.length x from fun l hl x hx=>by
    rcases List.mem_or_eq_of_mem_set hx with q | rfl
    ·rcases List.mem_append.1 q with q | q
     ·have q2:=List.mem_of_mem_take q;rw [Jc.o] at q2;unfold Ln.shorten at q2;obtain ⟨y,hy,rfl⟩:=List.mem_map.1 q2;exact (HN.o y hy).oG (by rw [sU]; exact (HN.o y hy).aj.1)
     ·exact HN.o x (List.mem_of_mem_drop q)
    ·exact MN.oG hl)
   have cD:=hid (fun (l:List Bool) (hl:l.length<=65535) (vs:Value) (wr2:World) (hm:vg wr bl[k] (gl[k]'hkg) v1 v3 v4 ms[k].data ms[k].bss (l.map Value.bool) l.length vs wr2) (W3:World) (hg:wr2.grownBy W3 none) (r:Lk.Rel) (hr:r∈ms[k].obj.aj)=>show Calls Tryz.prog 107 #[aX bl[k],fT r] W3 (fun e w'=>e = .returned (.int .i64 (Ln.distance ms ms[k] r))/\W3.grownBy w' none) by
    have d:=QE bl _ bl[k] (gl[k]'hkg) { ms[k] with short:=l } r W3 (((PK.o l vs wr2 hm).xY (NI.o l hl)).kept hg) ((PM.o l vs wr2 hm).kept hg) (MN.oG hl) (MN.aj.2 r hr).2.1 (MN.aj.2 r hr).2.2;refine d.mono ?_;rintro e w' ⟨rfl,q⟩;exact ⟨congrArg (fun z=>Ending.returned (Value.int .i64 z)) (yiQ (US.o l) rfl r),q⟩)
   have PS:=hid (fun (wr2:World) (hg:wr.grownBy wr2 (some bl[k]))=>show Fj wr2 ar ms[k].obj.aj from Fj.aU (yB p6 hg (bS.blk q0) (by decide)));have hrl:=MN.aj.1;have FIN:=hid (show (L1.take k ++ ms.drop k).set k { ms[k] with short:=ms[k].obj.aj.map (Ln.bU ms ms[k]) }=L1.take (k+1) ++ ms.drop (k+1) by rw [<- Rs ms L1 k hko AJ LL.o,LA.o k hko AJ]);have HR:=hid (show ∀ r∈ms[k].obj.aj,r∈ms[k].obj.aj from fun r h=>h);have g1:(k:Int) < (bl.length:Int):=by omega
   clear hsc q0 q1 q2 q4 q5 q6 q7 hb p6 HP xK NI US PM MN MZ;generalize (gl[k]'hkg)=gk at *;generalize hbb:bl[k]=bk at *;clear hbb;generalize hm:ms[k]=m at *;clear hm;go_wp2;generalize wr=WB at *;clear ck k0 k6
   go_loopw [24] (fun i wr2=>∃ (j:Nat) (vs:Value),j<=m.obj.aj.length/\i = .int .i64 j/\vg WB bk gk v1 v3 v4 m.data m.bss (((m.obj.aj.take j).map (Ln.bU ms m)).map Value.bool) j vs wr2) (fun i _=>m.obj.aj.length - (intOf i).toNat)
   case atStart=>exact ⟨0,_,Nat.zero_le _,rfl,M0.o⟩
   case round =>
    obtain ⟨j,vs,hj,rfl,hme⟩:=hrel;have HM:=hid hme;clear hme M0;obtain ⟨av,cv,rfl⟩:=yh HM.o.row;have LJ:((m.obj.aj.take j).map (Ln.bU ms m)).length=j:=by rw [sU,List.length_take]; omega
    by_cases hlt2:j < m.obj.aj.length
    ·obtain ⟨sg2,Dc,hgs,hcs⟩:=PS.o wr HM.o.gr (by omega);subst Dc;obtain ⟨q0,q1,q2,q3,q4⟩:=hcs j hlt2;clear hcs;have g2:(j:Int) < (m.obj.aj.length:Int):=by omega
     have TK:=hid (show ((m.obj.aj.take (j+1)).map (Ln.bU ms m)).map Value.bool=(((m.obj.aj.take j).map (Ln.bU ms m)).map Value.bool) ++ [Value.bool (Ln.bU ms m m.obj.aj[j])] by
      rw [List.take_succ_eq_append_getElem hlt2,List.map_append,List.map_append];simp)
     have hrm:m.obj.aj[j]∈m.obj.aj:=iC hlt2;have GA:=hid (aH wr (.cells #[.int .i64 m.obj.aj[j].ah,.int .i64 m.obj.aj[j].off,.int .i64 m.obj.aj[j].kind,.int .i64 m.obj.aj[j].sym,.int .i64 m.obj.aj[j].addend] 102) none);have cM:=hid (cD.o ((m.obj.aj.take j).map (Ln.bU ms m)) (by rw [LJ]; omega) _ wr (by rw [LJ]; exact HM.o) _ GA.o m.obj.aj[j] hrm);have Nc:=hid (show Ln.distance ms m m.obj.aj[j]=Ln.distance ms m m.obj.aj[j] from rfl);generalize m.obj.aj[j]=r at *;generalize hsl:((m.obj.aj.take j).map (Ln.bU ms m)).map Value.bool=sl at *;have LZ:=hid (HM.o.kept GA.o);have Ww:=hid (yc.new wr #[.int .i64 r.ah,.int .i64 r.off,.int .i64 r.kind,.int .i64 r.sym,.int .i64 r.addend] 102)
     clear hsl hrm;unfold aX fT at cM;obtain ⟨ds,hds⟩:∃ ds,Ln.distance ms m r=ds:=⟨_,rfl⟩
     rw [hds] at cM;clear Nc;have Nc:=hid hds;clear hds;go_wp2_with fail;refine cM.o.mono ?_;rintro e W6 ⟨rfl,h5⟩;have wW:=hid (LZ.o.kept h5);have B6:=hid (Ww.o.grown h5 (by simp));clear h5 cM q0 q1 q2 q3 q4 LZ Ww GA;go_wp2;generalize wr.heap.size=L at *;have s2:W6.cell? ⟨L,2,none⟩=some (.int .i64 r.kind):=B6.o.cell 2;have m2:W6.cell? ⟨bk,2,none⟩=some (.slice av j cv):=wW.o.blk.cell 2;by_cases e1:r.kind=4
     ·have d1:(r.kind == 4)=true:=by simpa using e1
      by_cases e2:-1015808 < ds
      ·have d2:decide (-1015808 < ds)=true:=by simpa using e2
       by_cases e3:ds < 1015808
       ·have d3:decide (ds < 1015808)=true:=by simpa using e3
        have EX:=hid (show Value.bool (Ln.bU ms m r) = .bool true by unfold Ln.bU; rw [Nc.o]; simp [e1,e2,e3]);clear e1 e2 e3;have A7:=yi (aH W6 (.cells #[.bool true] 4) none);have B7:=hid (B6.o.grown A7 (by simp));have jP:=hid (wW.o.kept A7);have hA:=hid jP.o.row;have n2:(W6.alloc (.cells #[.bool true] 4)).drew.cell? ⟨bk,2,none⟩=some (.slice av j cv):=jP.o.blk.cell 2;have hN:Hd (∀ j u,[Value.bool true][j]?=some u->(W6.alloc (.cells #[.bool true] 4)).drew.cell? ((⟨W6.heap.size,0,none⟩:Addr).add j)=some u):=World.news_of_block (heap_alloc_new W6 (.cells #[.bool true] 4));have iE:Hd (∀ u∈[Value.bool true],u.oneCell'=true):=by intro u hu; simp at hu; subst hu; rfl
        have h63:Hd (j+1<=maxLen):=by show _<=_; unfold maxLen; omega
        have hby:Hd ((j+1) * 1<=140737488355328):=by show _<=_; omega
        have hbs:Hd (WB.heap.size<=(W6.alloc (.cells #[.bool true] 4)).drew.heap.size):=jP.o.gr.size;have SA:Hd ((W6.alloc (.cells #[.bool true] 4)).drew.cell? ⟨L,2,none⟩=some (.int .i64 r.kind)):=B7.o.cell 2;have STEP:=hid (fun (v':Value) (w3:World) (hown':w3.ownsRow WB.heap.size 4 1 v' (j+1) (sl ++ [.bool true])) (hg:(W6.alloc (.cells #[.bool true] 4)).drew.grownBy w3 (Value.ownBlock (.slice av j cv)))=>show vg WB bk gk v1 v3 v4 m.data m.bss (sl ++ [.bool true]) (j+1) v' (w3.setCell ⟨bk,2,none⟩ v')/\yc w3 L #[.int .i64 r.ah,.int .i64 r.off,.int .i64 r.kind,.int .i64 r.sym,.int .i64 r.addend] 102/\yc (w3.setCell ⟨bk,2,none⟩ v') L #[.int .i64 r.ah,.int .i64 r.off,.int .i64 r.kind,.int .i64 r.sym,.int .i64 r.addend] 102/\w3.cell? ⟨bk,2,none⟩=some (.slice av j cv)/\w3.frozen? ⟨bk,2,none⟩=false by
         have st:=jP.o.step hown' hg;have b3:=yN jP.o.blk hg (bS.own jP.o.row) (by decide);have l3:=yN B7.o hg (bS.own jP.o.row) (by decide);exact ⟨st,l3,yN l3 (yf w3 bk 2 v') (bS.blk b3) (by decide),b3.cell 2,b3.free 2⟩)
        clear A7 B7 jP wW B6;refine wp_region_held_drew (S:=(fun w'=>w'.cell? ⟨L,2,none⟩=some (.int .i64 r.kind))) (by kernel_rfl) s2 ?_;intro hS;refine aW (i:=0) (v:=?_) rfl ?_ hS ?_
        rotate_left
        ·intro w' hw'; have x2:=hw'; go_simp; with_reducible rfl
        refine aW (i:=1) (v:=?_) rfl ?_ hS ?_
        rotate_left
        ·intro w' hw'; have x2:=hw'; go_simp; with_reducible rfl
        refine aW (i:=2) (v:=?_) rfl ?_ hS ?_
        rotate_left
        ·intro w' hw'; have x2:=hw'; go_simp; with_reducible rfl
        refine aW (i:=3) (v:=?_) rfl ?_ hS ?_
        rotate_left
        ·intro w' hw'; have x2:=hw'; go_simp; with_reducible rfl
        refine aW (i:=5) (v:=?_) rfl ?_ hS ?_
        rotate_left
        ·intro w' hw'; have x2:=hw'; go_simp; with_reducible rfl
        refine aW (i:=6) (v:=?_) rfl ?_ hS ?_
        rotate_left
        ·intro w' hw'; have x2:=hw'; go_simp; with_reducible rfl
        refine aW (i:=7) (v:=?_) rfl ?_ hS ?_
        rotate_left
        ·intro w' hw'; have x2:=hw'; go_simp; with_reducible rfl
        refine aW (i:=8) (v:=?_) rfl ?_ hS ?_
        rotate_left
        ·intro w' hw'; have x2:=hw'; go_simp; with_reducible rfl
        refine aW (i:=9) (v:=?_) rfl ?_ hS ?_
        rotate_left
        ·intro w' hw'; have x2:=hw'; go_simp; with_reducible rfl
        refine aW (i:=10) (v:=?_) rfl ?_ hS ?_
        rotate_left
        ·intro w' hw'; have x2:=hw'; go_simp; with_reducible rfl
        refine wpAnyH_take (i:=11) (v:=.bool true) rfl (by kernel_rfl) (by kernel_rfl) (by kernel_rfl) (fun _ _ _ h=>h) (Or.inl ⟨by kernel_rfl,fun _ _=>by kernel_rfl⟩) hS ?_;refine wpAnyH_take (i:=12) (v:=.bool true) rfl (by kernel_rfl) (by kernel_rfl) (by kernel_rfl) (fun _ _ _ h=>h) (Or.inl ⟨by kernel_rfl,fun _ _=>by kernel_rfl⟩) hS ?_;refine aW (i:=13) (v:=?_) rfl ?_ hS ?_
        rotate_left
        ·intro w' hw'; have x2:=hw'; go_simp; with_reducible rfl
        refine aW (i:=14) (v:=?_) rfl ?_ hS ?_
        rotate_left
        ·intro w' hw'; have x2:=hw'; go_simp; with_reducible rfl
        refine wpAnyH_take (i:=15) (v:=.bool true) rfl (by kernel_rfl) (by kernel_rfl) (by kernel_rfl) (fun _ _ _ h=>h) (Or.inl ⟨by kernel_rfl,fun _ _=>by kernel_rfl⟩) hS ?_;refine wpAnyH_ready (rs:=[4,16]) (by kernel_rfl) (by simp) ?_;refine AllReadyH.cons rfl (fun K hK=>?_) (AllReadyH.cons rfl (fun K hK=>?_) AllReadyH.nil);go_simp;refine hK.out _ _ hS (fun hS2=>?_);clear hK K;refine wpAnyH_ready (rs:=[16]) (by kernel_rfl) (by simp) ?_
        rotate_left
        go_simp;refine hK.out _ _ SA.o (fun hS2=>?_);clear hK K;refine wpAnyH_ready (rs:=[4]) (by kernel_rfl) (by simp) ?_
        all_goals
         refine AllReadyH.cons rfl (fun K hK=>?_) AllReadyH.nil;go_simp;refine hK.out _ _ SA.o (fun je=>?_);clear hK K hS2 je;refine wpAnyH_ready (rs:=[17]) (by kernel_rfl) (by simp) ?_;refine AllReadyH.cons rfl (fun K hK=>?_) AllReadyH.nil;rw [if_pos (by kernel_rfl)];refine ER _ (.tmp 35) (.tmp 47) 128 rfl WB.heap.size 4 i0 (.bool false) 1 1 Tryz.underlying128 hi hz0 hz1 hz2 rfl (by decide) (.slice av j cv) j sl (by kernel_rfl) hA.o ⟨W6.heap.size,0,none⟩ 1 1 [.bool true] (by kernel_rfl) rfl hN.o iE.o h63.o hby.o hbs.o ?_;intro v' w3 hown' hgrow _ _;obtain ⟨oP,cv',rfl⟩:=yh hown';obtain ⟨t1,t2,t3,t4,t5⟩:=STEP.o _ _ hown' hgrow
         have T1:=hid t1;have T3:Hd ((w3.setCell ⟨bk,2,none⟩ (.slice oP (j+1) cv')).cell? ⟨L,2,none⟩=some (.int .i64 r.kind)):=t3.cell 2;refine hK.out _ _ (t2.cell 2) (fun jh=>?_);clear hK K hown' hgrow t1 t2 t3;refine aW (i:=18) (v:=?_) rfl ?_ jh ?_
         rotate_left
         ·intro w' hw'; have x2:=hw'; go_simp; with_reducible rfl
         refine aW (i:=19) (v:=?_) rfl ?_ jh ?_
         rotate_left
         ·intro w' hw'; have x2:=hw'; go_simp; with_reducible rfl
         refine wpAnyH_ready (rs:=[20]) (by kernel_rfl) (by simp) ?_;refine AllReadyH.cons rfl (fun K hK=>?_) AllReadyH.nil;go_simp;refine hK.out _ _ T3.o (fun hS5=>?_);clear hK K;refine wpAnyH_done (by kernel_rfl) ?_ _
         try simp only [tX,qE,qc,qx,gH,gF,gG]
         clear hA hN iE h63 hby hbs m2 n2 t4 t5 jh hS5 hS STEP SA T3;go_wp2
         go_roundw
         case rel=>exact ⟨j+1,_,by omega,by go_num,by rw [TK.o,EX.o]; exact T1.o⟩
         case measure=>simp [intOf]; omega
       ·have d3:decide (ds < 1015808)=false:=by simpa using e3
        have EX:=hid (show Value.bool (Ln.bU ms m r) = .bool false by unfold Ln.bU; rw [Nc.o]; simp [e3]);clear e1 e2 e3;have A7:=yi (aH W6 (.cells #[.bool false] 4) none);have B7:=hid (B6.o.grown A7 (by simp));have jP:=hid (wW.o.kept A7);have hA:=hid jP.o.row;have n2:(W6.alloc (.cells #[.bool false] 4)).drew.cell? ⟨bk,2,none⟩=some (.slice av j cv):=jP.o.blk.cell 2;have hN:Hd (∀ j u,[Value.bool false][j]?=some u->(W6.alloc (.cells #[.bool false] 4)).drew.cell? ((⟨W6.heap.size,0,none⟩:Addr).add j)=some u):=World.news_of_block (heap_alloc_new W6 (.cells #[.bool false] 4));have iE:Hd (∀ u∈[Value.bool false],u.oneCell'=true):=by intro u hu; simp at hu; subst hu; rfl
        have h63:Hd (j+1<=maxLen):=by show _<=_; unfold maxLen; omega
        have hby:Hd ((j+1) * 1<=140737488355328):=by show _<=_; omega
        have hbs:Hd (WB.heap.size<=(W6.alloc (.cells #[.bool false] 4)).drew.heap.size):=jP.o.gr.size;have SA:Hd ((W6.alloc (.cells #[.bool false] 4)).drew.cell? ⟨L,2,none⟩=some (.int .i64 r.kind)):=B7.o.cell 2;have STEP:=hid (fun (v':Value) (w3:World) (hown':w3.ownsRow WB.heap.size 4 1 v' (j+1) (sl ++ [.bool false])) (hg:(W6.alloc (.cells #[.bool false] 4)).drew.grownBy w3 (Value.ownBlock (.slice av j cv)))=>show vg WB bk gk v1 v3 v4 m.data m.bss (sl ++ [.bool false]) (j+1) v' (w3.setCell ⟨bk,2,none⟩ v')/\yc w3 L #[.int .i64 r.ah,.int .i64 r.off,.int .i64 r.kind,.int .i64 r.sym,.int .i64 r.addend] 102/\yc (w3.setCell ⟨bk,2,none⟩ v') L #[.int .i64 r.ah,.int .i64 r.off,.int .i64 r.kind,.int .i64 r.sym,.int .i64 r.addend] 102/\w3.cell? ⟨bk,2,none⟩=some (.slice av j cv)/\w3.frozen? ⟨bk,2,none⟩=false by
         have st:=jP.o.step hown' hg;have b3:=yN jP.o.blk hg (bS.own jP.o.row) (by decide);have l3:=yN B7.o hg (bS.own jP.o.row) (by decide);exact ⟨st,l3,yN l3 (yf w3 bk 2 v') (bS.blk b3) (by decide),b3.cell 2,b3.free 2⟩)
        clear A7 B7 jP wW B6;refine wp_region_held_drew (S:=(fun w'=>w'.cell? ⟨L,2,none⟩=some (.int .i64 r.kind))) (by kernel_rfl) s2 ?_;intro hS;refine aW (i:=0) (v:=?_) rfl ?_ hS ?_
        rotate_left
        ·intro w' hw'; have x2:=hw'; go_simp; with_reducible rfl
        refine aW (i:=1) (v:=?_) rfl ?_ hS ?_
        rotate_left
        ·intro w' hw'; have x2:=hw'; go_simp; with_reducible rfl
        refine aW (i:=2) (v:=?_) rfl ?_ hS ?_
        rotate_left
        ·intro w' hw'; have x2:=hw'; go_simp; with_reducible rfl
        refine aW (i:=3) (v:=?_) rfl ?_ hS ?_
        rotate_left
        ·intro w' hw'; have x2:=hw'; go_simp; with_reducible rfl
        refine aW (i:=5) (v:=?_) rfl ?_ hS ?_
        rotate_left
        ·intro w' hw'; have x2:=hw'; go_simp; with_reducible rfl
        refine aW (i:=6) (v:=?_) rfl ?_ hS ?_
        rotate_left
        ·intro w' hw'; have x2:=hw'; go_simp; with_reducible rfl
        refine aW (i:=7) (v:=?_) rfl ?_ hS ?_
        rotate_left
        ·intro w' hw'; have x2:=hw'; go_simp; with_reducible rfl
        refine aW (i:=8) (v:=?_) rfl ?_ hS ?_
        rotate_left
        ·intro w' hw'; have x2:=hw'; go_simp; with_reducible rfl
        refine aW (i:=9) (v:=?_) rfl ?_ hS ?_
        rotate_left
        ·intro w' hw'; have x2:=hw'; go_simp; with_reducible rfl
        refine aW (i:=10) (v:=?_) rfl ?_ hS ?_
        rotate_left
        ·intro w' hw'; have x2:=hw'; go_simp; with_reducible rfl
        refine wpAnyH_take (i:=11) (v:=.bool true) rfl (by kernel_rfl) (by kernel_rfl) (by kernel_rfl) (fun _ _ _ h=>h) (Or.inl ⟨by kernel_rfl,fun _ _=>by kernel_rfl⟩) hS ?_;refine wpAnyH_take (i:=12) (v:=.bool true) rfl (by kernel_rfl) (by kernel_rfl) (by kernel_rfl) (fun _ _ _ h=>h) (Or.inl ⟨by kernel_rfl,fun _ _=>by kernel_rfl⟩) hS ?_;refine aW (i:=13) (v:=?_) rfl ?_ hS ?_
        rotate_left
        ·intro w' hw'; have x2:=hw'; go_simp; with_reducible rfl
        refine aW (i:=14) (v:=?_) rfl ?_ hS ?_
        rotate_left
        ·intro w' hw'; have x2:=hw'; go_simp; with_reducible rfl
        refine wpAnyH_take (i:=15) (v:=.bool false) rfl (by kernel_rfl) (by kernel_rfl) (by kernel_rfl) (fun _ _ _ h=>h) (Or.inl ⟨by kernel_rfl,fun _ _=>by kernel_rfl⟩) hS ?_;refine wpAnyH_ready (rs:=[4,16]) (by kernel_rfl) (by simp) ?_;refine AllReadyH.cons rfl (fun K hK=>?_) (AllReadyH.cons rfl (fun K hK=>?_) AllReadyH.nil);go_simp;refine hK.out _ _ hS (fun hS2=>?_);clear hK K;refine wpAnyH_ready (rs:=[16]) (by kernel_rfl) (by simp) ?_
        rotate_left
        go_simp;refine hK.out _ _ SA.o (fun hS2=>?_);clear hK K;refine wpAnyH_ready (rs:=[4]) (by kernel_rfl) (by simp) ?_
        all_goals
         refine AllReadyH.cons rfl (fun K hK=>?_) AllReadyH.nil;go_simp;refine hK.out _ _ SA.o (fun je=>?_);clear hK K hS2 je;refine wpAnyH_ready (rs:=[17]) (by kernel_rfl) (by simp) ?_;refine AllReadyH.cons rfl (fun K hK=>?_) AllReadyH.nil;rw [if_pos (by kernel_rfl)];refine ER _ (.tmp 35) (.tmp 47) 128 rfl WB.heap.size 4 i0 (.bool false) 1 1 Tryz.underlying128 hi hz0 hz1 hz2 rfl (by decide) (.slice av j cv) j sl (by kernel_rfl) hA.o ⟨W6.heap.size,0,none⟩ 1 1 [.bool false] (by kernel_rfl) rfl hN.o iE.o h63.o hby.o hbs.o ?_;intro v' w3 hown' hgrow _ _;obtain ⟨oP,cv',rfl⟩:=yh hown';obtain ⟨t1,t2,t3,t4,t5⟩:=STEP.o _ _ hown' hgrow
         have T1:=hid t1;have T3:Hd ((w3.setCell ⟨bk,2,none⟩ (.slice oP (j+1) cv')).cell? ⟨L,2,none⟩=some (.int .i64 r.kind)):=t3.cell 2;refine hK.out _ _ (t2.cell 2) (fun jh=>?_);clear hK K hown' hgrow t1 t2 t3;refine aW (i:=18) (v:=?_) rfl ?_ jh ?_
         rotate_left
         ·intro w' hw'; have x2:=hw'; go_simp; with_reducible rfl
         refine aW (i:=19) (v:=?_) rfl ?_ jh ?_
         rotate_left
         ·intro w' hw'; have x2:=hw'; go_simp; with_reducible rfl
         refine wpAnyH_ready (rs:=[20]) (by kernel_rfl) (by simp) ?_;refine AllReadyH.cons rfl (fun K hK=>?_) AllReadyH.nil;go_simp;refine hK.out _ _ T3.o (fun hS5=>?_);clear hK K;refine wpAnyH_done (by kernel_rfl) ?_ _
         try simp only [tX,qE,qc,qx,gH,gF,gG]
         clear hA hN iE h63 hby hbs m2 n2 t4 t5 jh hS5 hS STEP SA T3;go_wp2
         go_roundw
         case rel=>exact ⟨j+1,_,by omega,by go_num,by rw [TK.o,EX.o]; exact T1.o⟩
         case measure=>simp [intOf]; omega
      ·have d2:decide (-1015808 < ds)=false:=by simpa using e2
       have EX:=hid (show Value.bool (Ln.bU ms m r) = .bool false by unfold Ln.bU; rw [Nc.o]; simp [e2]);clear e1 e2;have A7:=yi (aH W6 (.cells #[.bool false] 4) none);have B7:=hid (B6.o.grown A7 (by simp));have jP:=hid (wW.o.kept A7);have hA:=hid jP.o.row;have n2:(W6.alloc (.cells #[.bool false] 4)).drew.cell? ⟨bk,2,none⟩=some (.slice av j cv):=jP.o.blk.cell 2;have hN:Hd (∀ j u,[Value.bool false][j]?=some u->(W6.alloc (.cells #[.bool false] 4)).drew.cell? ((⟨W6.heap.size,0,none⟩:Addr).add j)=some u):=World.news_of_block (heap_alloc_new W6 (.cells #[.bool false] 4));have iE:Hd (∀ u∈[Value.bool false],u.oneCell'=true):=by intro u hu; simp at hu; subst hu; rfl
       have h63:Hd (j+1<=maxLen):=by show _<=_; unfold maxLen; omega
       have hby:Hd ((j+1) * 1<=140737488355328):=by show _<=_; omega
       have hbs:Hd (WB.heap.size<=(W6.alloc (.cells #[.bool false] 4)).drew.heap.size):=jP.o.gr.size;have SA:Hd ((W6.alloc (.cells #[.bool false] 4)).drew.cell? ⟨L,2,none⟩=some (.int .i64 r.kind)):=B7.o.cell 2;have STEP:=hid (fun (v':Value) (w3:World) (hown':w3.ownsRow WB.heap.size 4 1 v' (j+1) (sl ++ [.bool false])) (hg:(W6.alloc (.cells #[.bool false] 4)).drew.grownBy w3 (Value.ownBlock (.slice av j cv)))=>show vg WB bk gk v1 v3 v4 m.data m.bss (sl ++ [.bool false]) (j+1) v' (w3.setCell ⟨bk,2,none⟩ v')/\yc w3 L #[.int .i64 r.ah,.int .i64 r.off,.int .i64 r.kind,.int .i64 r.sym,.int .i64 r.addend] 102/\yc (w3.setCell ⟨bk,2,none⟩ v') L #[.int .i64 r.ah,.int .i64 r.off,.int .i64 r.kind,.int .i64 r.sym,.int .i64 r.addend] 102/\w3.cell? ⟨bk,2,none⟩=some (.slice av j cv)/\w3.frozen? ⟨bk,2,none⟩=false by
        have st:=jP.o.step hown' hg;have b3:=yN jP.o.blk hg (bS.own jP.o.row) (by decide);have l3:=yN B7.o hg (bS.own jP.o.row) (by decide);exact ⟨st,l3,yN l3 (yf w3 bk 2 v') (bS.blk b3) (by decide),b3.cell 2,b3.free 2⟩)
       clear A7 B7 jP wW B6;refine wp_region_held_drew (S:=(fun w'=>w'.cell? ⟨L,2,none⟩=some (.int .i64 r.kind))) (by kernel_rfl) s2 ?_;intro hS;refine aW (i:=0) (v:=?_) rfl ?_ hS ?_
       rotate_left
       ·intro w' hw'; have x2:=hw'; go_simp; with_reducible rfl
       refine aW (i:=1) (v:=?_) rfl ?_ hS ?_
       rotate_left
       ·intro w' hw'; have x2:=hw'; go_simp; with_reducible rfl
       refine aW (i:=2) (v:=?_) rfl ?_ hS ?_
       rotate_left
       ·intro w' hw'; have x2:=hw'; go_simp; with_reducible rfl
       refine aW (i:=3) (v:=?_) rfl ?_ hS ?_
       rotate_left
       ·intro w' hw'; have x2:=hw'; go_simp; with_reducible rfl
       refine aW (i:=5) (v:=?_) rfl ?_ hS ?_
       rotate_left
       ·intro w' hw'; have x2:=hw'; go_simp; with_reducible rfl
       refine aW (i:=6) (v:=?_) rfl ?_ hS ?_
       rotate_left
       ·intro w' hw'; have x2:=hw'; go_simp; with_reducible rfl
       refine aW (i:=7) (v:=?_) rfl ?_ hS ?_
       rotate_left
       ·intro w' hw'; have x2:=hw'; go_simp; with_reducible rfl
       refine aW (i:=8) (v:=?_) rfl ?_ hS ?_
       rotate_left
       ·intro w' hw'; have x2:=hw'; go_simp; with_reducible rfl
       refine aW (i:=9) (v:=?_) rfl ?_ hS ?_
       rotate_left
       ·intro w' hw'; have x2:=hw'; go_simp; with_reducible rfl
       refine aW (i:=10) (v:=?_) rfl ?_ hS ?_
       rotate_left
       ·intro w' hw'; have x2:=hw'; go_simp; with_reducible rfl
       refine wpAnyH_take (i:=11) (v:=.bool false) rfl (by kernel_rfl) (by kernel_rfl) (by kernel_rfl) (fun _ _ _ h=>h) (Or.inl ⟨by kernel_rfl,fun _ _=>by kernel_rfl⟩) hS ?_;refine wpAnyH_take (i:=12) (v:=.bool false) rfl (by kernel_rfl) (by kernel_rfl) (by kernel_rfl) (fun _ _ _ h=>h) (Or.inl ⟨by kernel_rfl,fun _ _=>by kernel_rfl⟩) hS ?_;refine rO (i:=13) rfl hS ?_;refine rO (i:=14) rfl hS ?_;refine wpAnyH_take (i:=15) (v:=.bool false) rfl (by kernel_rfl) (by kernel_rfl) (by kernel_rfl) (fun _ _ _ h=>h) (Or.inl ⟨by kernel_rfl,fun _ _=>by kernel_rfl⟩) hS ?_;refine wpAnyH_ready (rs:=[4,16]) (by kernel_rfl) (by simp) ?_
       refine AllReadyH.cons rfl (fun K hK=>?_) (AllReadyH.cons rfl (fun K hK=>?_) AllReadyH.nil);go_simp;refine hK.out _ _ hS (fun hS2=>?_);clear hK K;refine wpAnyH_ready (rs:=[16]) (by kernel_rfl) (by simp) ?_
       rotate_left
       go_simp;refine hK.out _ _ SA.o (fun hS2=>?_);clear hK K;refine wpAnyH_ready (rs:=[4]) (by kernel_rfl) (by simp) ?_
       all_goals
        refine AllReadyH.cons rfl (fun K hK=>?_) AllReadyH.nil;go_simp;refine hK.out _ _ SA.o (fun je=>?_);clear hK K hS2 je;refine wpAnyH_ready (rs:=[17]) (by kernel_rfl) (by simp) ?_;refine AllReadyH.cons rfl (fun K hK=>?_) AllReadyH.nil;rw [if_pos (by kernel_rfl)];refine ER _ (.tmp 35) (.tmp 47) 128 rfl WB.heap.size 4 i0 (.bool false) 1 1 Tryz.underlying128 hi hz0 hz1 hz2 rfl (by decide) (.slice av j cv) j sl (by kernel_rfl) hA.o ⟨W6.heap.size,0,none⟩ 1 1 [.bool false] (by kernel_rfl) rfl hN.o iE.o h63.o hby.o hbs.o ?_;intro v' w3 hown' hgrow _ _;obtain ⟨oP,cv',rfl⟩:=yh hown';obtain ⟨t1,t2,t3,t4,t5⟩:=STEP.o _ _ hown' hgrow
        have T1:=hid t1;have T3:Hd ((w3.setCell ⟨bk,2,none⟩ (.slice oP (j+1) cv')).cell? ⟨L,2,none⟩=some (.int .i64 r.kind)):=t3.cell 2;refine hK.out _ _ (t2.cell 2) (fun jh=>?_);clear hK K hown' hgrow t1 t2 t3;refine aW (i:=18) (v:=?_) rfl ?_ jh ?_
        rotate_left
        ·intro w' hw'; have x2:=hw'; go_simp; with_reducible rfl
        refine aW (i:=19) (v:=?_) rfl ?_ jh ?_
        rotate_left
        ·intro w' hw'; have x2:=hw'; go_simp; with_reducible rfl
        refine wpAnyH_ready (rs:=[20]) (by kernel_rfl) (by simp) ?_;refine AllReadyH.cons rfl (fun K hK=>?_) AllReadyH.nil;go_simp;refine hK.out _ _ T3.o (fun hS5=>?_);clear hK K;refine wpAnyH_done (by kernel_rfl) ?_ _
        try simp only [tX,qE,qc,qx,gH,gF,gG]
        clear hA hN iE h63 hby hbs m2 n2 t4 t5 jh hS5 hS STEP SA T3;go_wp2
        go_roundw
        case rel=>exact ⟨j+1,_,by omega,by go_num,by rw [TK.o,EX.o]; exact T1.o⟩
        case measure=>simp [intOf]; omega
     ·have d1:(r.kind == 4)=false:=by simpa using e1
      have EX:=hid (show Value.bool (Ln.bU ms m r) = .bool false by unfold Ln.bU; simp [e1]);clear e1;have A7:=yi (aH W6 (.cells #[.bool false] 4) none);have B7:=hid (B6.o.grown A7 (by simp));have jP:=hid (wW.o.kept A7);have hA:=hid jP.o.row;have n2:(W6.alloc (.cells #[.bool false] 4)).drew.cell? ⟨bk,2,none⟩=some (.slice av j cv):=jP.o.blk.cell 2;have hN:Hd (∀ j u,[Value.bool false][j]?=some u->(W6.alloc (.cells #[.bool false] 4)).drew.cell? ((⟨W6.heap.size,0,none⟩:Addr).add j)=some u):=World.news_of_block (heap_alloc_new W6 (.cells #[.bool false] 4));have iE:Hd (∀ u∈[Value.bool false],u.oneCell'=true):=by intro u hu; simp at hu; subst hu; rfl
      have h63:Hd (j+1<=maxLen):=by show _<=_; unfold maxLen; omega
      have hby:Hd ((j+1) * 1<=140737488355328):=by show _<=_; omega
      have hbs:Hd (WB.heap.size<=(W6.alloc (.cells #[.bool false] 4)).drew.heap.size):=jP.o.gr.size;have SA:Hd ((W6.alloc (.cells #[.bool false] 4)).drew.cell? ⟨L,2,none⟩=some (.int .i64 r.kind)):=B7.o.cell 2;have STEP:=hid (fun (v':Value) (w3:World) (hown':w3.ownsRow WB.heap.size 4 1 v' (j+1) (sl ++ [.bool false])) (hg:(W6.alloc (.cells #[.bool false] 4)).drew.grownBy w3 (Value.ownBlock (.slice av j cv)))=>show vg WB bk gk v1 v3 v4 m.data m.bss (sl ++ [.bool false]) (j+1) v' (w3.setCell ⟨bk,2,none⟩ v')/\yc w3 L #[.int .i64 r.ah,.int .i64 r.off,.int .i64 r.kind,.int .i64 r.sym,.int .i64 r.addend] 102/\yc (w3.setCell ⟨bk,2,none⟩ v') L #[.int .i64 r.ah,.int .i64 r.off,.int .i64 r.kind,.int .i64 r.sym,.int .i64 r.addend] 102/\w3.cell? ⟨bk,2,none⟩=some (.slice av j cv)/\w3.frozen? ⟨bk,2,none⟩=false by
       have st:=jP.o.step hown' hg;have b3:=yN jP.o.blk hg (bS.own jP.o.row) (by decide);have l3:=yN B7.o hg (bS.own jP.o.row) (by decide);exact ⟨st,l3,yN l3 (yf w3 bk 2 v') (bS.blk b3) (by decide),b3.cell 2,b3.free 2⟩)
      clear A7 B7 jP wW B6;refine wp_region_held_drew (S:=(fun w'=>w'.cell? ⟨L,2,none⟩=some (.int .i64 r.kind))) (by kernel_rfl) s2 ?_;intro hS;refine aW (i:=0) (v:=?_) rfl ?_ hS ?_
      rotate_left
      ·intro w' hw'; have x2:=hw'; go_simp; with_reducible rfl
      refine aW (i:=1) (v:=?_) rfl ?_ hS ?_
      rotate_left
      ·intro w' hw'; have x2:=hw'; go_simp; with_reducible rfl
      refine aW (i:=2) (v:=?_) rfl ?_ hS ?_
      rotate_left
      ·intro w' hw'; have x2:=hw'; go_simp; with_reducible rfl
      refine aW (i:=3) (v:=?_) rfl ?_ hS ?_
      rotate_left
      ·intro w' hw'; have x2:=hw'; go_simp; with_reducible rfl
      refine aW (i:=5) (v:=?_) rfl ?_ hS ?_
      rotate_left
      ·intro w' hw'; have x2:=hw'; go_simp; with_reducible rfl
      refine aW (i:=6) (v:=?_) rfl ?_ hS ?_
      rotate_left
      ·intro w' hw'; have x2:=hw'; go_simp; with_reducible rfl
      refine aW (i:=7) (v:=?_) rfl ?_ hS ?_
      rotate_left
      ·intro w' hw'; have x2:=hw'; go_simp; with_reducible rfl
      refine aW (i:=8) (v:=?_) rfl ?_ hS ?_
      rotate_left
      ·intro w' hw'; have x2:=hw'; go_simp; with_reducible rfl
      refine rO (i:=9) rfl hS ?_;refine rO (i:=10) rfl hS ?_;refine wpAnyH_take (i:=11) (v:=.bool false) rfl (by kernel_rfl) (by kernel_rfl) (by kernel_rfl) (fun _ _ _ h=>h) (Or.inl ⟨by kernel_rfl,fun _ _=>by kernel_rfl⟩) hS ?_;refine wpAnyH_take (i:=12) (v:=.bool false) rfl (by kernel_rfl) (by kernel_rfl) (by kernel_rfl) (fun _ _ _ h=>h) (Or.inl ⟨by kernel_rfl,fun _ _=>by kernel_rfl⟩) hS ?_;refine rO (i:=13) rfl hS ?_;refine rO (i:=14) rfl hS ?_;refine wpAnyH_take (i:=15) (v:=.bool false) rfl (by kernel_rfl) (by kernel_rfl) (by kernel_rfl) (fun _ _ _ h=>h) (Or.inl ⟨by kernel_rfl,fun _ _=>by kernel_rfl⟩) hS ?_
      refine wpAnyH_ready (rs:=[4,16]) (by kernel_rfl) (by simp) ?_;refine AllReadyH.cons rfl (fun K hK=>?_) (AllReadyH.cons rfl (fun K hK=>?_) AllReadyH.nil);go_simp;refine hK.out _ _ hS (fun hS2=>?_);clear hK K;refine wpAnyH_ready (rs:=[16]) (by kernel_rfl) (by simp) ?_
      rotate_left
      go_simp;refine hK.out _ _ SA.o (fun hS2=>?_);clear hK K;refine wpAnyH_ready (rs:=[4]) (by kernel_rfl) (by simp) ?_
      all_goals
       refine AllReadyH.cons rfl (fun K hK=>?_) AllReadyH.nil;go_simp;refine hK.out _ _ SA.o (fun je=>?_);clear hK K hS2 je;refine wpAnyH_ready (rs:=[17]) (by kernel_rfl) (by simp) ?_;refine AllReadyH.cons rfl (fun K hK=>?_) AllReadyH.nil;rw [if_pos (by kernel_rfl)];refine ER _ (.tmp 35) (.tmp 47) 128 rfl WB.heap.size 4 i0 (.bool false) 1 1 Tryz.underlying128 hi hz0 hz1 hz2 rfl (by decide) (.slice av j cv) j sl (by kernel_rfl) hA.o ⟨W6.heap.size,0,none⟩ 1 1 [.bool false] (by kernel_rfl) rfl hN.o iE.o h63.o hby.o hbs.o ?_;intro v' w3 hown' hgrow _ _;obtain ⟨oP,cv',rfl⟩:=yh hown';obtain ⟨t1,t2,t3,t4,t5⟩:=STEP.o _ _ hown' hgrow
       have T1:=hid t1;have T3:Hd ((w3.setCell ⟨bk,2,none⟩ (.slice oP (j+1) cv')).cell? ⟨L,2,none⟩=some (.int .i64 r.kind)):=t3.cell 2;refine hK.out _ _ (t2.cell 2) (fun jh=>?_);clear hK K hown' hgrow t1 t2 t3;refine aW (i:=18) (v:=?_) rfl ?_ jh ?_
       rotate_left
       ·intro w' hw'; have x2:=hw'; go_simp; with_reducible rfl
       refine aW (i:=19) (v:=?_) rfl ?_ jh ?_
       rotate_left
       ·intro w' hw'; have x2:=hw'; go_simp; with_reducible rfl
       refine wpAnyH_ready (rs:=[20]) (by kernel_rfl) (by simp) ?_;refine AllReadyH.cons rfl (fun K hK=>?_) AllReadyH.nil;go_simp;refine hK.out _ _ T3.o (fun hS5=>?_);clear hK K;refine wpAnyH_done (by kernel_rfl) ?_ _
       try simp only [tX,qE,qc,qx,gH,gF,gG]
       clear hA hN iE h63 hby hbs m2 n2 t4 t5 jh hS5 hS STEP SA T3;go_wp2
       go_roundw
       case rel=>exact ⟨j+1,_,by omega,by go_num,by rw [TK.o,EX.o]; exact T1.o⟩
       case measure=>simp [intOf]; omega
    ·obtain rfl:j=m.obj.aj.length:=by omega
     have g3:decide ((m.obj.aj.length:Int) < (m.obj.aj.length:Int))=false:=by simp
     have PA:=hid (PK.o ((m.obj.aj.take m.obj.aj.length).map (Ln.bU ms m)) _ wr (by rw [LJ]; exact HM.o));rw [List.take_length,FIN.o] at PA;clear LJ;go_wp2
     go_roundw
     case rel=>exact ⟨k+1,by omega,by go_num,PA.o⟩
     case measure=>simp [intOf]; omega
  ·obtain rfl:k=bl.length:=by omega
   have g3:decide ((bl.length:Int) < (bl.length:Int))=false:=by simp
   have Nk:=hid (show yX Wf W0 P bt bf bd (.slice am bl.length cm) bl gl L1 st no wr by
    have:=HP.o
    rwa [List.drop_of_length_le (by rw [LO.o]; exact Nat.le_refl _),List.append_nil,List.take_of_length_le (by rw [LL.o,LO.o]; exact Nat.le_refl _)] at this)
   clear HP;go_wp2
   go_end0
   rw [<- Jc.o];exact ⟨rfl,Nk.o⟩
end Go.Proofs.YtpgklkhgfcjceaaGreatDoor
