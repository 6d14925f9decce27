
import Derived.Test.YtelehpmjhjljgaaGreatDoorV19
set_option maxHeartbeats 16000000
set_option maxRecDepth 100000
namespace Go.Proofs.YtelehpmjhjljgaaGreatDoor
open Go.RowKit
namespace Dl
def Pos (os:List Lk.Obj):Prop:=∀ o∈os,∀ y∈o.syms,0<=y.ah
theorem Bu {n:List UInt8} {b:Int} {y:Lk.Sym} (h:0<=y.ah):qK n b y=true↔(y.name=n/\y.bind=b/\y.ah≠0):=by
 unfold qK;simp only [Bool.and_eq_true,decide_eq_true_iff];constructor
 ·rintro ⟨h1,h2,h3⟩; exact ⟨h1,h2,by omega⟩
 ·rintro ⟨h1,h2,h3⟩; exact ⟨h1,h2,by omega⟩
theorem rY (n:List UInt8) (b:Int) (i:Nat):∀ (ys:List Lk.Sym) (k:Nat),(∀ y∈ys,0<=y.ah) ->
  ((gU n b i k ys).head?=none/\Ln.eO n b ys=none)\/∃ p y,(gU n b i k ys).head?=some p/\p.1=i/\k<=p.2/\ys[p.2 - k]?=some y/\Ln.eO n b ys=some (y.ah,y.off):=by
 intro ys
 induction ys with
 | nil=>intro k _; exact .inl ⟨rfl,rfl⟩
 | cons y ys ih =>
  intro k hp;have h0:=Bu (n:=n) (b:=b) (hp y List.mem_cons_self);rw [gU,Ln.eO];by_cases c:qK n b y=true
  ·rw [if_pos c,if_pos (h0.1 c)];exact .inr ⟨(i,k),y,rfl,rfl,Nat.le_refl _,by simp,rfl⟩
  ·rw [if_neg c,if_neg (fun h=>c (h0.2 h))];rcases ih (k+1) (fun z hz=>hp z (List.mem_cons_of_mem _ hz)) with h | ⟨p,z,h1,h2,h3,h4,h5⟩
   ·exact .inl h
   ·refine .inr ⟨p,z,h1,h2,by omega,?_,h5⟩;rw [show p.2 - k=(p.2 - (k+1))+1 by omega,dL];exact h4
theorem rX (n:List UInt8) (b:Int):∀ (os:List Lk.Obj) (i:Nat),Pos os ->
  ((dW n b i os).head?=none/\Ln.findAt n b i os=Ln.none_)\/∃ p o y,(dW n b i os).head?=some p/\i<=p.1/\os[p.1 - i]?=some o/\o.syms[p.2]?=some y/\Ln.findAt n b i os=⟨some p.1,y.ah,y.off⟩:=by
 intro os
 induction os with
 | nil=>intro i _; exact .inl ⟨rfl,rfl⟩
 | cons o os ih =>
  intro i hp;rw [dW,Ln.findAt];rcases rY n b i o.syms 0 (hp o List.mem_cons_self) with ⟨h1,h2⟩ | ⟨p,y,h1,h2,h3,h4,h5⟩
  ·rw [List.head?_append,h1,h2];rcases ih (i+1) (fun x hx=>hp x (List.mem_cons_of_mem _ hx)) with ⟨a1,a2⟩ | ⟨p,x,y,a1,a2,a3,a4,a5⟩
   ·exact .inl ⟨by rw [a1]; rfl,a2⟩
   ·refine .inr ⟨p,x,y,by rw [a1]; rfl,by omega,?_,a4,a5⟩;rw [show p.1 - i=(p.1 - (i+1))+1 by omega,dL];exact a3
  ·rw [List.head?_append,h1,h5];refine .inr ⟨p,o,y,rfl,by omega,by rw [h2,Nat.sub_self]; rfl,?_,by rw [h2]⟩;rw [Nat.sub_zero] at h4;exact h4
def lQ (os:List Lk.Obj):Option (Nat×Nat)->Ln.fQ
 | none=>Ln.none_
 | some p=>⟨some p.1,(bD os p.1 p.2).ah,(bD os p.1 p.2).off⟩
theorem jR {os:List Lk.Obj} (hp:Pos os) (n:List UInt8) (b:Int):Ln.find os n b=lQ os (bT os n b).head?:=by
 unfold Ln.find bT;rcases rX n b os 0 hp with ⟨h1,h2⟩ | ⟨p,o,y,h1,-,h3,h4,h5⟩
 ·rw [h1,h2]; rfl
 ·rw [Nat.sub_zero] at h3;rw [h1,h5];unfold lQ;dsimp only;rw [(iP.of h3 h4).2]
theorem iW {os:List Lk.Obj} (hp:Pos os) (n:List UInt8):Ln.named os n=lQ os (cand os n).head?:=by
 unfold Ln.named cand;rw [jR hp n 1,jR hp n 2,List.head?_append]
 cases h:(bT os n 1).head? with
 | none=>rfl
 | some p=>rfl
theorem pK {os:List Lk.Obj} (hp:Pos os) (i k:Nat):Ln.meaning os i (bD os i k)=lQ os (means os i k):=by
 unfold Ln.meaning means;split
 ·rfl
 ·exact iW hp _
theorem qH (n:List UInt8) (b:Int):∀ (a c:List Lk.Obj) (i:Nat),dW n b i (a ++ c)=dW n b i a ++ dW n b (i+a.length) c:=by
 intro a
 induction a with
 | nil=>intro c i; rfl
 | cons o a ih =>
  intro c i;rw [List.cons_append,dW,dW,ih,List.append_assoc,gL,show i+1+a.length=i+(a.length+1) by omega]
theorem wu {os:List Lk.Obj} (hp:Pos os) (n:List UInt8) (b:Int) (i:Nat):(Ln.find (os.take i) n b).mod.isSome=true↔∃ p,(bT os n b).head?=some p/\p.1 < i:=by
 have e:bT os n b=dW n b 0 (os.take i) ++ dW n b (os.take i).length (os.drop i):=by
  have:=qH n b (os.take i) (os.drop i) 0
  rw [List.take_append_drop,Nat.zero_add] at this;exact this
 have hpt:Pos (os.take i):=fun o ho=>hp o (List.mem_of_mem_take ho)
 rw [jR hpt,e,List.head?_append];unfold bT
 cases h:(dW n b 0 (os.take i)).head? with
 | none =>
  constructor
  ·intro hc; cases hc
  ·rintro ⟨p,h1,h2⟩;rw [Option.none_or] at h1;obtain ⟨q1,o,y,q2,-⟩:=mI n b p _ _ (List.mem_of_mem_head? h1);obtain ⟨q3,-⟩:=List.getElem?_eq_some_iff.1 q2;rw [List.length_take] at q1 q3;rw [List.length_drop] at q3;omega
 | some p =>
  refine ⟨fun _=>⟨p,rfl,?_⟩,fun _=>rfl⟩;obtain ⟨-,o,y,q2,-⟩:=mI n b p _ _ (List.mem_of_mem_head? h);obtain ⟨q3,-⟩:=List.getElem?_eq_some_iff.1 q2;rw [List.length_take] at q3;omega
end Dl
theorem yp.pos {o:Lk.Obj} (h:yp o):∀ y∈o.syms,0<=y.ah:=by
 intro y hy;obtain ⟨i,hi,rfl⟩:=List.getElem_of_mem hy;exact (h.2.2.2.1 i hi).1.2.2.1.1
theorem qx.pos {w:World} {ao:Option Addr} {gl:List Nat} {os:List Lk.Obj} (h:qx w ao gl os):Dl.Pos os:=fun o ho=>(h.val o ho).pos
theorem Xx (g:Nat) (o:Lk.Obj) (ah:Nat) (w:World) (h:yq w g o) (hb4:oI o.align) (h1:1<=ah) (h3:ah<=4) :
  Calls Tryz.prog 78 #[.pointer (some ⟨g,0,none⟩),.int .i64 ah] w fun e w'=>e = .returned (.int .i64 (Ln.aJ o ah))/\w'=w:=by
 obtain ⟨at_,ct,af,cf,ad,cd,aa,ca,gF,cs,ar,cr,hb,-,-,-,q4,-⟩:=h.open;have hl:=hb4.1;have hr:=hb4.2 (ah - 1) (by omega);obtain ⟨ga,off,rfl,hc⟩:=ym.aB q4 (by omega);have hck:=hc (ah - 1) (by omega);have k4:=hb.cell 4;clear h hb hc q4;have g1:(1:Int)<=(ah:Int):=by omega
 have g2:(ah:Int)<=4:=by omega
 have HL:=hid hl;have hl4:4<=o.align.length:=by omega
 have hl5:o.align.length<=4:=by omega
 have hpf:ah - 1 < o.align.length:=by omega
 have hk:w.cell? ⟨ga,off+(ah - 1),none⟩=some (.int .i64 (o.align[ah - 1]'hpf)):=hck;clear hck;have EB:Ln.aJ o ah=yL (o.align[ah - 1]'hpf):=by unfold Ln.aJ; rw [iJ,gy hpf]; rfl
 rw [EB];clear EB;replace hr:2<=o.align[ah - 1]'hpf/\o.align[ah - 1]'hpf<=4:=hr;generalize o.align[ah - 1]'hpf=x at *;generalize o.align.length=n at *;rcases (show x=2\/x=3\/x=4 from by omega) with rfl | rfl | rfl
 all_goals
  clear hr HL hb4;go_enter Tryz.func78,Tryz.ntmps78;go_wp2;go_ret;exact ⟨by simp [yL],rfl⟩
theorem Yf {m m':Ln.Mod} (h1:m'.obj=m.obj) (h2:m'.short=m.short) (ah off a:Int):Ln.stays m' ah off a=Ln.stays m ah off a:=by unfold Ln.stays; rw [h1,h2]
theorem yhe {m m':Ln.Mod} (h1:m'.obj=m.obj) (h2:m'.short=m.short) (ah:Int):∀ (ws:List Int) (k:Nat) (a:Int),Ln.aA m' ah k ws a=Ln.aA m ah k ws a:=by
 intro ws
 induction ws with
 | nil=>intro k a; rfl
 | cons x ws ih=>intro k a; unfold Ln.aA; rw [ih,Yf h1 h2]
theorem yiO {m m':Ln.Mod} (h1:m'.obj=m.obj) (h2:m'.short=m.short) (ah:Int):∀ (ws:List Int) (k:Nat) (a:Int),Ln.aL m' ah k ws a=Ln.aL m ah k ws a:=by
 intro ws
 induction ws with
 | nil=>intro k a; rfl
 | cons x ws ih=>intro k a; unfold Ln.aL; rw [ih,Yf h1 h2]
theorem Mq {m m':Ln.Mod} (h1:m'.obj=m.obj) (h2:m'.short=m.short) (ah:Nat) (f:Int):Ln.aT m' ah f=Ln.aT m ah f:=by
 unfold Ln.aT Ln.begin_; rw [yhe h1 h2,h1]
theorem Mf {m m':Ln.Mod} (h1:m'.obj=m.obj) (h2:m'.short=m.short) (ah:Nat) (f:Int):Ln.bU m' ah f=Ln.bU m ah f:=by
 unfold Ln.bU Ln.begin_; rw [yiO h1 h2,h1]
theorem Wy (m:Ln.Mod) (ah:Int):∀ (ws:List Int) (k:Nat) (a:Int),(Ln.aA m ah k ws a).length=ws.length+1/\∀ p∈Ln.aA m ah k ws a,a<=p/\p<=a+4 * ws.length:=by
 intro ws
 induction ws with
 | nil=>intro k a; refine ⟨rfl,fun p hp=>?_⟩; simp [Ln.aA] at hp; subst hp; simp
 | cons x ws ih =>
  intro k a;unfold Ln.aA
  have:=ih (k+1) (if Ln.stays m ah (4 * k) a then a+4 else a)
  refine ⟨by rw [gL,this.1]; simp,fun p hp=>?_⟩;rcases List.mem_cons.1 hp with rfl | hp
  ·simp only [gL]; omega
  ·have q:=this.2 p hp;simp only [gL];split at q <;> omega
theorem yil (m:Ln.Mod) (ah:Int):∀ (ws:List Int) (k:Nat) (a:Int),a<=Ln.aL m ah k ws a/\Ln.aL m ah k ws a<=a+4 * ws.length:=by
 intro ws
 induction ws with
 | nil=>intro k a; simp [Ln.aL]
 | cons x ws ih =>
  intro k a;unfold Ln.aL;have q:=ih (k+1) (if Ln.stays m ah (4 * k) a then a+4 else a);simp only [gL];split at q <;> rename_i e <;> simp only [e] <;> simp <;> omega
theorem ymW {o:Lk.Obj} (hv:yp o) (ah:Nat) (hs:ah=1\/ah=2):(yh o ah).length<=1200:=by
 have:=hv.1.1
 rcases hs with rfl | rfl
 ·exact this.1
 ·exact this.2.1
theorem CZ {m:Ln.Mod} (hv:yp m.obj) (ah:Nat) (hs:ah=1\/ah=2) (f:Int) (h0:0<=f) (h1:f<=562949953421312) :
  (f<=Ln.bU m ah f/\Ln.bU m ah f<=f+4815)/\(Ln.aT m ah f).length<=1201/\∀ p∈Ln.aT m ah f,f<=p/\p<=f+4815:=by
 have hl:=ymW hv ah hs;have r:=ru f (Ln.aJ m.obj ah) h0 (by omega) (uT _);have e:=yil m ah (yh m.obj ah) 0 (Ln.begin_ m ah f);have p:=Wy m ah (yh m.obj ah) 0 (Ln.begin_ m ah f);have b:Ln.begin_ m ah f=Ln.rup f (Ln.aJ m.obj ah):=rfl;rw [b] at e p;refine ⟨?_,?_,fun q hq=>?_⟩
 ·unfold Ln.bU; rw [b]; omega
 ·unfold Ln.aT; rw [b,p.1]; omega
 ·have:=p.2 q hq; omega
section
variable {w:World} {bl:List Nat} {b g n:Nat} {m:Ln.Mod} {x:Int} {ps:List Int}
theorem yN.qN (h:yN w bl b g m) (x:Int):yN (w.setCell ⟨b,5,none⟩ (.int .i64 x)) bl b g { m with data:=x }:=by
 obtain ⟨u1,u2,u3,u4,q0,q1,q2,q3,q4,q5,q6,q7⟩:=h;have gs:=yi w b 5 (.int .i64 x);have R:=aW.blk q0;exact ⟨u1,u2,u3,u4,by simpa using q0.set 5 (.int .i64 x),oK q1 gs R (by decide) (by decide) (by decide) (by decide),yw q2 gs R (by decide),yw q3 gs R (by decide),yw q4 gs R (by decide),yw q5 gs R (by decide),q6,q7⟩
theorem yN.uM (h:yN w bl b g m) (x:Int):yN (w.setCell ⟨b,6,none⟩ (.int .i64 x)) bl b g { m with bss:=x }:=by
 obtain ⟨u1,u2,u3,u4,q0,q1,q2,q3,q4,q5,q6,q7⟩:=h;have gs:=yi w b 6 (.int .i64 x);have R:=aW.blk q0;exact ⟨u1,u2,u3,u4,by simpa using q0.set 6 (.int .i64 x),oK q1 gs R (by decide) (by decide) (by decide) (by decide),yw q2 gs R (by decide),yw q3 gs R (by decide),yw q4 gs R (by decide),yw q5 gs R (by decide),q6,q7⟩
theorem yO.nS (h:yO n m) (hl:ps.length<=65536) (hp:∀ p∈ps,0<=p/\p<=1125899906842624):yO n { m with text:=ps }:=⟨⟨hl,hp⟩,h.far,h.data,h.bss,h.means,h.short,h.aj⟩
theorem yO.uN (h:yO n m) (hl:ps.length<=65536) (hp:∀ p∈ps,0<=p/\p<=1125899906842624):yO n { m with far:=ps }:=⟨h.text,⟨hl,hp⟩,h.data,h.bss,h.means,h.short,h.aj⟩
theorem yO.qN (h:yO n m) (hx:0<=x/\x<=1125899906842624):yO n { m with data:=x }:=⟨h.text,h.far,hx,h.bss,h.means,h.short,h.aj⟩
theorem yO.uM (h:yO n m) (hx:0<=x/\x<=1125899906842624):yO n { m with bss:=x }:=⟨h.text,h.far,h.data,hx,h.means,h.short,h.aj⟩
end
theorem Km:∀ (ms:List Ln.Mod) (t f d:Int),(Ln.bB ms t f d).length=ms.length:=by
 intro ms
 induction ms with
 | nil=>intro t f d; rfl
 | cons m ms ih=>intro t f d; unfold Ln.bB; rw [gL,ih,gL]
theorem XE:∀ (ms:List Ln.Mod) (b:Int),(Ln.bI ms b).length=ms.length:=by
 intro ms
 induction ms with
 | nil=>intro b; rfl
 | cons m ms ih=>intro b; unfold Ln.bI; rw [gL,ih,gL]
theorem X7 {α:Type} {l r:List α} {x:α} {k:Nat} (hk:k < l.length) (h:l.drop k=x :: r):l[k]=x/\l.drop (k+1)=r:=by
 rw [jg hk] at h;exact List.cons.inj h
theorem Mh {o:Lk.Obj} (h:yp o):kV o:=by
 obtain ⟨⟨⟨a,b,c⟩,-,d,e⟩,f,-⟩:=h
 have:=f.1
 exact ⟨by omega,by omega,by omega,by omega,by omega,by omega⟩
theorem Gi:∀ (ms:List Ln.Mod) (t f d:Int),(Ln.bB ms t f d).map Ln.Mod.obj=ms.map Ln.Mod.obj:=by
 intro ms
 induction ms with
 | nil=>intro t f d; rfl
 | cons m ms ih=>intro t f d; unfold Ln.bB; rw [List.map_cons,ih,List.map_cons]; rfl
theorem yjO:∀ (ms ms':List Ln.Mod) (b:Int),ms'.map Ln.Mod.obj=ms.map Ln.Mod.obj->Ln.fM ms' b=Ln.fM ms b:=by
 intro ms
 induction ms with
 | nil =>
  intro ms' b h
  cases ms' with
  | nil=>rfl
  | cons x xs=>simp at h
 | cons m ms ih =>
  intro ms' b h
  cases ms' with
  | nil=>simp at h
  | cons x xs =>
   rw [List.map_cons,List.map_cons] at h;obtain ⟨h1,h2⟩:=List.cons.inj h;unfold Ln.fM;rw [h1,ih xs _ h2]
theorem XD (Wf W0:World) (P:Nat) (bt bf bd:Int) (vm:Value) (bl gl:List Nat) (ms:List Ln.Mod) (st:Ln.fQ) (no:Int) (W:World) (h:jv Wf W0 P bt bf bd vm bl gl ms st no W) (hn:∀ m∈ms,yO bl.length m) (hv:∀ m∈ms,yp m.obj)
  (hbt:0<=bt/\bt<=4294967296) (hbf:0<=bf/\bf<=4294967296) (hbd:0<=bd/\bd<=4294967296) :
  Calls Tryz.prog 47 #[aP P] W fun e W'=>e = .returned (.tuple #[])/\jv Wf W0 P bt bf bd vm bl gl (Ln.lay bt bf bd ms) st (Ln.noughts bd ms) W':=by
 obtain ⟨am,cm,rfl⟩:=yj h.row;have H0:=hid h;have c0:W.cell? ⟨P,0,none⟩=some (.int .i64 bt):=h.blk.cell 0;have c1:W.cell? ⟨P,1,none⟩=some (.int .i64 bf):=h.blk.cell 1;have c2:W.cell? ⟨P,2,none⟩=some (.int .i64 bd):=h.blk.cell 2;have c3:W.cell? ⟨P,3,none⟩=some (.slice am bl.length cm):=h.blk.cell 3;have hbl:=h.few;have LO:=hid h.fT;have HN:=hid hn;have HV:=hid hv;have LL:=hid (Km ms bt bf bd);obtain ⟨L1,hL1⟩:∃ L1,L1=Ln.bB ms bt bf bd:=⟨_,rfl⟩
 have qD:=hid hL1;rw [<- hL1] at LL;clear h hn hv hL1;unfold aP;go_enter Tryz.func47,Tryz.ntmps47;go_wp2
 go_quiet (fail)
 have HW1:=hid (H0.o.kept (yd (World.grownBy.refl W none) nq));go_wp2;generalize W.drewN nq=W1 at *;clear c0 c1 c2 c3 H0
 go_loopw [2,3,4,30] (fun vt vf vd i wr=>∃ (k:Nat) (t f d:Int),k<=bl.length/\i = .int .i64 k/\vt = .int .i64 t/\vf = .int .i64 f/\vd = .int .i64 d/\jv Wf W0 P bt bf bd (.slice am bl.length cm) bl gl (L1.take k ++ ms.drop k) st no wr/\L1.drop k=Ln.bB (ms.drop k) t f d/\Ln.bH ms bd=Ln.bH (ms.drop k) d/\(0<=t/\t<=4294967296+5000 * k)/\(0<=f/\f<=4294967296+5000 * k)/\(0<=d/\d<=4294967296+5000 * k)) (fun _ _ _ i _=>bl.length - (intOf i).toNat)
 case atStart=>exact ⟨0,bt,bf,bd,Nat.zero_le _,rfl,rfl,rfl,rfl,by simpa using HW1.o,by rw [qD.o]; rfl,rfl,by omega,by omega,by omega⟩
 case round =>
  obtain ⟨k,t,f,d,hk,rfl,rfl,rfl,rfl,hpa,hld,hde,ht,hf,hd⟩:=hrel;have HP:=hid hpa;have Dw:=hid hld;have KR:=hid hde;clear hpa hld hde HW1;by_cases hlt:k < bl.length
  ·have hko:k < ms.length:=by rw [LO.o]; exact hlt
   have hkg:k < gl.length:=by rw [HP.o.gX]; exact hlt
   have wL:k < L1.length:=by rw [LL.o]; exact hko
   obtain ⟨sg,off,hsg,hsc⟩:=HP.o.iA.ptrs (by omega);have ck:=hsc k hlt;have HM:yN wr bl bl[k] (gl[k]'hkg) ms[k]:=by
    have:=HP.o.mods k hlt
    rwa [Gm ms L1 k hko (by rw [LL.o]; omega)] at this
   have MV:=HV.o _ (dM hko);have MN:=HN.o _ (dM hko);have R1:=CZ MV 1 (.inl rfl) t ht.1 (by omega);have R2:=CZ MV 2 (.inr rfl) f hf.1 (by omega);have UP:=hid (fun (w2:World) (hg:wr.grownBy w2 (some bl[k])) (hm:yN w2 bl bl[k] (gl[k]'hkg) (Ln.jS ms[k] t f d))=>show jv Wf W0 P bt bf bd (.slice am bl.length cm) bl gl (L1.take (k+1) ++ ms.drop (k+1)) st no w2/\L1.drop (k+1)=Ln.bB (ms.drop (k+1)) (Ln.bU ms[k] 1 t) (Ln.bU ms[k] 2 f) (Ln.rup d (Ln.aJ ms[k].obj 3)+4 * ms[k].obj.data.length)/\Ln.bH ms bd=Ln.bH (ms.drop (k+1)) (Ln.rup d (Ln.aJ ms[k].obj 3)+4 * ms[k].obj.data.length) from by
    have e:=Dw.o;rw [jg hko] at e;obtain ⟨e1,e2⟩:=X7 wL e;refine ⟨?_,e2,?_⟩
    ·rw [<- MC ms L1 k hko wL LL.o,e1];exact HP.o.upd hlt (by rw [HP.o.fT]; exact hlt) hg hm (by rw [Gm ms L1 k hko (by rw [LL.o]; omega)]; rfl)
    ·have e3:=KR.o;rw [jg hko] at e3;exact e3)
   have g1:(k:Int) < (bl.length:Int):=by omega
   have RD:=ru d (Ln.aJ ms[k].obj 3) hd.1 (by omega) (uT _);have BV:Ln.aJ ms[k].obj 3=4\/Ln.aJ ms[k].obj 3=8\/Ln.aJ ms[k].obj 3=16:=uT _;have hdl:ms[k].obj.data.length<=64:=MV.1.1.2.2;clear hsc HP Dw KR;generalize ms[k]=m at *;generalize PZ:(gl[k]'hkg)=gk at *;generalize hbk:bl[k]=bk at *;have Jk:=hid (XJ bl bk gk bl.length m 1 t wr HM MN MV (.inl rfl) ht.1 (by omega));have Lm:=hid (fun W2 (h2:yN W2 bl bk gk { m with text:=Ln.aT m 1 t })=>XJ bl bk gk bl.length _ 2 f W2 h2 (MN.nS (by omega) (fun p hp=>by have:=R1.2.2 p hp; omega)) MV (.inr rfl) hf.1 (by omega));have cB:=hid (fun W2 (h2:yq W2 gk m.obj)=>Xx gk m.obj 3 W2 h2 MV.2.1 (by omega) (by omega))
   have cU:=hid (fun W2=>Mg d (Ln.aJ m.obj 3) W2 hd.1 (by omega) (by omega) (by omega));have cN:=hid (fun W2 (h2:yq W2 gk m.obj)=>QZ gk m.obj 3 W2 h2 (Mh MV) MV.1.2.1);subst hsg;unfold aP at *;go_wp2_with fail;refine Jk.o.mono ?_;rintro e W2 ⟨rfl,g2,m2⟩;have M2:=hid (show yN W2 bl bk gk { m with text:=Ln.aT m 1 t } from m2);have Tm:=hid g2;clear g2 m2 Jk;go_wp2_with fail;refine (Lm.o _ M2.o).mono ?_;rintro e W3 ⟨rfl,g3,m3⟩;have EL:Ln.bU { m with text:=Ln.aT m 1 t } 2 f=Ln.bU m 2 f:=Mf (m:=m) (m':={ m with text:=Ln.aT m 1 t }) rfl rfl 2 f;rw [EL];have M3:=hid (show yN W3 bl bk gk { m with text:=Ln.aT m 1 t,far:=Ln.aT m 2 f } by
    have e:Ln.aT { m with text:=Ln.aT m 1 t } 2 f=Ln.aT m 2 f:=Mq (m:=m) (m':={ m with text:=Ln.aT m 1 t }) rfl rfl 2 f;rw [e] at m3;exact m3)
   have Tn:=hid (Tm.o.trans g3);clear g3 m3 Lm EL Tm M2;have k0:W3.cell? ⟨bk,0,none⟩=some (.pointer (some ⟨gk,0,none⟩)):=by obtain ⟨u1,u2,u3,u4,q0,-⟩:=M3.o; exact q0.cell 0
   have k5:W3.cell? ⟨bk,5,none⟩=some (.int .i64 m.data):=by obtain ⟨u1,u2,u3,u4,q0,-⟩:=M3.o; exact q0.cell 5
   have f5:W3.frozen? ⟨bk,5,none⟩=false:=by obtain ⟨u1,u2,u3,u4,q0,-⟩:=M3.o; exact q0.free 5
   have o3:Hd (yq W3 gk m.obj):=by obtain ⟨u1,u2,u3,u4,q0,q1,-⟩:=M3.o; exact q1
   go_wp2_with fail;refine (cB.o _ o3.o).mono ?_;rintro e w' ⟨rfl,hw⟩;rw [hw];clear hw w';go_wp2_with fail;refine (cU.o _).mono ?_;rintro e w' ⟨rfl,hw⟩;rw [hw];clear hw w';generalize LW:Ln.rup d (Ln.aJ m.obj 3)=rd at *;have HRU:=hid LW;clear LW;have M4:=hid (M3.o.qN rd);have Hy:=hid (Tn.o.trans (yi W3 bk 5 (.int .i64 rd)));go_wp2;clear k0 k5 f5 o3 M3 Tn cB cU;generalize W3.setCell ⟨bk,5,none⟩ (.int .i64 rd)=W4 at *;have k0:W4.cell? ⟨bk,0,none⟩=some (.pointer (some ⟨gk,0,none⟩)):=by obtain ⟨u1,u2,u3,u4,q0,-⟩:=M4.o; exact q0.cell 0
   have k5:W4.cell? ⟨bk,5,none⟩=some (.int .i64 rd):=by obtain ⟨u1,u2,u3,u4,q0,-⟩:=M4.o; exact q0.cell 5
   have O4:Hd (yq W4.drew gk m.obj):=by obtain ⟨u1,u2,u3,u4,q0,q1,-⟩:=M4.o; exact q1.kept (yf (World.grownBy.refl _ _))
   have es:kY m.obj 3=m.obj.data.length:=rfl;rw [es] at cN;have w1:IntKind.i64.wrap (rd+4 * (m.obj.data.length:Int))=rd+4 * m.obj.data.length:=IntWalk.i64_in _ ⟨by omega,by omega⟩
   go_region_held3 (fun w'=>w'.cell? ⟨bk,0,none⟩=some (.pointer (some ⟨gk,0,none⟩))/\w'.cell? ⟨bk,5,none⟩=some (.int .i64 rd))
    (go_keep)
    (first | (go_at_call 79; refine (cN.o _ O4.o).mono ?_; rintro e w' ⟨rfl,hw⟩; rw [hw]; clear hw w'))
   have UQ:=hid (UP.o W4.drew (yf Hy.o) (by
    have:=M4.o.kept (yf (World.grownBy.refl W4 none))
    rw [<- HRU.o] at this;exact this))
   clear UP M4 Hy cN O4;go_wp2
   go_roundw
   case rel=>exact ⟨k+1,_,_,_,by omega,by go_num,rfl,rfl,rfl,UQ.o.1,UQ.o.2.1,UQ.o.2.2,by omega,by omega,by omega⟩
   case measure=>simp [intOf]; omega
  ·obtain rfl:k=bl.length:=by omega
   have g3:decide ((bl.length:Int) < (bl.length:Int))=false:=by simp
   have zh:=hid (show jv Wf W0 P bt bf bd (.slice am bl.length cm) bl gl L1 st no wr by
    have:=HP.o
    rwa [List.drop_of_length_le (by rw [LO.o]; exact Nat.le_refl _),List.append_nil,List.take_of_length_le (by rw [LL.o,LO.o]; exact Nat.le_refl _)] at this)
   have DE:=hid (show Ln.bH ms bd=d by rw [KR.o,List.drop_of_length_le (by rw [LO.o]; exact Nat.le_refl _)]; rfl);have c3:wr.cell? ⟨P,3,none⟩=some (.slice am bl.length cm):=zh.o.blk.cell 3;have Fz:=hid (XE L1 d);obtain ⟨L2,hL2⟩:∃ L2,L2=Ln.bI L1 d:=⟨_,rfl⟩
   have HL2:=hid hL2;rw [<- hL2] at Fz;have OV:=hid (show ∀ i (h:i < L1.length),yp L1[i].obj from fun i h=>by
    have e:L1.map Ln.Mod.obj=ms.map Ln.Mod.obj:=by rw [qD.o]; exact Gi ms bt bf bd
    have:L1[i].obj∈ms.map Ln.Mod.obj:=by rw [<- e]; exact List.mem_map_of_mem (dM h)
    obtain ⟨x,hx,e2⟩:=List.mem_map.1 this;rw [<- e2];exact HV.o x hx)
   have FIN:=hid (show Ln.lay bt bf bd ms=L2/\Ln.noughts bd ms=(Ln.fM L1 d - d) / 4 by
    unfold Ln.lay Ln.noughts;rw [DE.o,<- qD.o,<- HL2.o];refine ⟨rfl,?_⟩;rw [yjO ms L1 d (by rw [qD.o]; exact Gi ms bt bf bd)])
   clear hL2 HP Dw KR;go_wp2;generalize wr=V1 at *;clear c3
   go_loopw [7,67] (fun vb i wr=>∃ (k:Nat) (b:Int),k<=bl.length/\i = .int .i64 k/\vb = .int .i64 b/\jv Wf W0 P bt bf bd (.slice am bl.length cm) bl gl (L2.take k ++ L1.drop k) st no wr/\L2.drop k=Ln.bI (L1.drop k) b/\Ln.fM L1 d=Ln.fM (L1.drop k) b/\(d<=b/\b<=4294967296+5000 * bl.length+5000 * k)) (fun _ i _=>bl.length - (intOf i).toNat)
   case atStart=>exact ⟨0,d,Nat.zero_le _,rfl,rfl,by simpa using zh.o,by rw [HL2.o]; rfl,rfl,Int.le_refl _,by omega⟩
   case round =>
    obtain ⟨k,b,hk2,rfl,rfl,hpa,hld,hbe,hb⟩:=hrel;have HP:=hid hpa;have Dw:=hid hld;have KP:=hid hbe;clear hpa hld hbe zh;by_cases hlt:k < bl.length
    ·have wL:k < L1.length:=by rw [LL.o,LO.o]; exact hlt
     have hkg:k < gl.length:=by rw [HP.o.gX]; exact hlt
     have JE:k < L2.length:=by rw [Fz.o]; exact wL
     obtain ⟨sg,off,hsg,hsc⟩:=HP.o.iA.ptrs (by omega);have ck:=hsc k hlt;have HM:yN wr bl bl[k] (gl[k]'hkg) L1[k]:=by
      have:=HP.o.mods k hlt
      rwa [Gm L1 L2 k wL (by rw [Fz.o]; omega)] at this
     have MV:=OV.o k wL;have UP:=hid (fun (w2:World) (hg:wr.grownBy w2 (some bl[k])) (hm:yN w2 bl bl[k] (gl[k]'hkg) { L1[k] with bss:=Ln.rup b (Ln.aJ L1[k].obj 4) })=>show jv Wf W0 P bt bf bd (.slice am bl.length cm) bl gl (L2.take (k+1) ++ L1.drop (k+1)) st no w2/\L2.drop (k+1)=Ln.bI (L1.drop (k+1)) (Ln.rup b (Ln.aJ L1[k].obj 4)+4 * L1[k].obj.bss)/\Ln.fM L1 d=Ln.fM (L1.drop (k+1)) (Ln.rup b (Ln.aJ L1[k].obj 4)+4 * L1[k].obj.bss) from by
      have e:=Dw.o;rw [jg wL] at e;obtain ⟨e1,e2⟩:=X7 JE e;refine ⟨?_,e2,?_⟩
      ·rw [<- MC L1 L2 k wL JE Fz.o,e1];exact HP.o.upd hlt (by rw [HP.o.fT]; exact hlt) hg hm (by rw [Gm L1 L2 k wL (by rw [Fz.o]; omega)])
      ·have e3:=KP.o;rw [jg wL] at e3;exact e3)
     have g1:(k:Int) < (bl.length:Int):=by omega
     have RD:=ru b (Ln.aJ L1[k].obj 4) (by omega) (by omega) (uT _);have BV:Ln.aJ L1[k].obj 4=4\/Ln.aJ L1[k].obj 4=8\/Ln.aJ L1[k].obj 4=16:=uT _;have hdl:=MV.1.2.1;clear hsc HP Dw KP;generalize L1[k]=m at *;generalize PZ:(gl[k]'hkg)=gk at *;generalize hbk:bl[k]=bk at *;have cB:=hid (fun W2 (h2:yq W2 gk m.obj)=>Xx gk m.obj 4 W2 h2 MV.2.1 (by omega) (by omega));have cU:=hid (fun W2=>Mg b (Ln.aJ m.obj 4) W2 (by omega) (by omega) (by omega) (by omega));have cN:=hid (fun W2 (h2:yq W2 gk m.obj)=>QZ gk m.obj 4 W2 h2 (Mh MV) MV.1.2.1);subst hsg;have M3:=hid HM;clear HM;have k0:wr.cell? ⟨bk,0,none⟩=some (.pointer (some ⟨gk,0,none⟩)):=by obtain ⟨u1,u2,u3,u4,q0,-⟩:=M3.o; exact q0.cell 0
     have k6:wr.cell? ⟨bk,6,none⟩=some (.int .i64 m.bss):=by obtain ⟨u1,u2,u3,u4,q0,-⟩:=M3.o; exact q0.cell 6
     have f6:wr.frozen? ⟨bk,6,none⟩=false:=by obtain ⟨u1,u2,u3,u4,q0,-⟩:=M3.o; exact q0.free 6
     have o3:Hd (yq wr gk m.obj):=by obtain ⟨u1,u2,u3,u4,q0,q1,-⟩:=M3.o; exact q1
     unfold aP at *;go_wp2_with fail;refine (cB.o _ o3.o).mono ?_;rintro e w' ⟨rfl,hw⟩;rw [hw];clear hw w';go_wp2_with fail;refine (cU.o _).mono ?_;rintro e w' ⟨rfl,hw⟩;rw [hw];clear hw w';generalize LW:Ln.rup b (Ln.aJ m.obj 4)=rd at *;have M4:=hid (M3.o.uM rd);have Hy:=hid (yi wr bk 6 (.int .i64 rd));clear LW;go_wp2;clear k0 k6 f6 o3 M3 cB cU ck;generalize wr.setCell ⟨bk,6,none⟩ (.int .i64 rd)=W4 at *;have k0:W4.cell? ⟨bk,0,none⟩=some (.pointer (some ⟨gk,0,none⟩)):=by obtain ⟨u1,u2,u3,u4,q0,-⟩:=M4.o; exact q0.cell 0
     have k6:W4.cell? ⟨bk,6,none⟩=some (.int .i64 rd):=by obtain ⟨u1,u2,u3,u4,q0,-⟩:=M4.o; exact q0.cell 6
     have O4:Hd (yq W4.drew gk m.obj):=by obtain ⟨u1,u2,u3,u4,q0,q1,-⟩:=M4.o; exact q1.kept (yf (World.grownBy.refl _ _))
     have es:kY m.obj 4=m.obj.bss:=rfl;rw [es] at cN;have w1:IntKind.i64.wrap (rd+4 * m.obj.bss)=rd+4 * m.obj.bss:=IntWalk.i64_in _ ⟨by omega,by omega⟩
     go_region_held3 (fun w'=>w'.cell? ⟨bk,0,none⟩=some (.pointer (some ⟨gk,0,none⟩))/\w'.cell? ⟨bk,6,none⟩=some (.int .i64 rd))
      (go_keep)
      (first | (go_at_call 79; refine (cN.o _ O4.o).mono ?_; rintro e w' ⟨rfl,hw⟩; rw [hw]; clear hw w'))
     have UQ:=hid (UP.o W4.drew (yf Hy.o) (M4.o.kept (yf (World.grownBy.refl W4 none))));clear UP M4 Hy cN O4;go_wp2
     go_roundw
     case rel=>exact ⟨k+1,_,by omega,by go_num,rfl,UQ.o.1,UQ.o.2.1,UQ.o.2.2,by omega,by omega⟩
     case measure=>simp [intOf]; omega
    ·obtain rfl:k=bl.length:=by omega
     have g3:decide ((bl.length:Int) < (bl.length:Int))=false:=by simp
     have qE:=hid (show jv Wf W0 P bt bf bd (.slice am bl.length cm) bl gl L2 st no wr by
      have:=HP.o
      rwa [List.drop_of_length_le (by rw [LL.o,LO.o]; exact Nat.le_refl _),List.append_nil,List.take_of_length_le (by rw [Fz.o,LL.o,LO.o]; exact Nat.le_refl _)] at this)
     have BE:=hid (show Ln.fM L1 d=b by rw [KP.o,List.drop_of_length_le (by rw [LL.o,LO.o]; exact Nat.le_refl _)]; rfl);have w1:IntKind.i64.wrap (b - d)=b - d:=IntWalk.i64_in _ ⟨by omega,by omega⟩;have c7:wr.cell? ⟨P,7,none⟩=some (.int .i64 no):=qE.o.blk.cell 7;have f7:=qE.o.blk.free 7;have HF:=hid (qE.o.nought (no':=(b - d) / 4));have ed:Int.tdiv (b - d) 4=(b - d) / 4:=Int.tdiv_eq_ediv_of_nonneg (by omega);clear HP Dw KP qE;go_wp2
     go_end0
     rw [FIN.o.1,FIN.o.2,BE.o];exact ⟨rfl,HF.o⟩
theorem Tryz.oq:(Tryz.prog.info? 4).map (fun i=>(i.zero,i.size,i.bytes))=some (some (.bool false),1,1):=by kernel_rfl
namespace Ln
def dZ (m:Mod):Mod:={ m with short:=[] }
end Ln
theorem Mk (m:Ln.Mod) (s o:Int):Ln.address (Ln.dZ m) s o=Ln.address m s o:=rfl
theorem yix {ms ms':List Ln.Mod} (h:ms'.map Ln.dZ=ms.map Ln.dZ) (s:Ln.fQ):Ln.bK ms' s=Ln.bK ms s:=by
 unfold Ln.bK
 cases s.mod with
 | none=>rfl
 | some i =>
  dsimp only;have e:(ms'[i]?).map Ln.dZ=(ms[i]?).map Ln.dZ:=by rw [<- List.getElem?_map,<- List.getElem?_map,h]
  cases h1:ms'[i]? with
  | none =>
   cases h2:ms[i]? with
   | none=>rfl
   | some y=>rw [h1,h2] at e; simp at e
  | some x =>
   cases h2:ms[i]? with
   | none=>rw [h1,h2] at e; simp at e
   | some y =>
    rw [h1,h2] at e;simp only [Option.map_some,Option.some.injEq] at e;dsimp only;rw [<- Mk x,e,Mk]
theorem yik {ms ms':List Ln.Mod} {m m':Ln.Mod} (h:ms'.map Ln.dZ=ms.map Ln.dZ) (hm:Ln.dZ m'=Ln.dZ m) (r:Lk.Rel):Ln.distance ms' m' r=Ln.distance ms m r:=by
 have e1:m'.means=m.means:=show (Ln.dZ m').means=(Ln.dZ m).means by rw [hm]
 unfold Ln.distance Ln.target;rw [e1,yix h,<- Mk m',hm,Mk]
structure rA (WB:World) (bi:Nat) (g:Nat) (v1 v3 v4:Value) (d b:Int) (sl:List Value) (j:Nat) (vs:Value) (wr:World):Prop where
 gr:WB.grownBy wr (some bi)
 blk:ye wr bi #[aP g,v1,vs,v3,v4,.int .i64 d,.int .i64 b] 109
 row:wr.ownsRow WB.heap.size 4 1 vs j sl
 nil:j=0->vs = .slice none 0 0
section
variable {WB V wr w3:World} {bi g j:Nat} {v1 v3 v4 vs v':Value} {d b:Int} {sl news:List Value}
theorem rA.kept (h:rA WB bi g v1 v3 v4 d b sl j vs wr) (hV:wr.grownBy V none):rA WB bi g v1 v3 v4 d b sl j vs V :=
 ⟨h.gr.trans (hV.but _),h.blk.grown hV (by simp),h.row.kept hV (Decidable.em _),h.nil⟩
theorem rA.step (h:rA WB bi g v1 v3 v4 d b sl j vs V) (hown:w3.ownsRow WB.heap.size 4 1 v' (j+1) (sl ++ news)) (hg:V.grownBy w3 vs.ownBlock):rA WB bi g v1 v3 v4 d b (sl ++ news) (j+1) v' (w3.setCell ⟨bi,2,none⟩ v'):=by
 have b3:=yy h.blk hg (aW.own h.row) (by decide);have gs:=yi w3 bi 2 v';refine ⟨(h.gr.andThen hg (fun k hk=>.inl (h.row.lt k hk).1)).trans gs,?_,yw hown gs (aW.blk b3) (by decide),fun c=>by omega⟩;simpa using b3.set 2 v'
theorem rA.mod {m:Ln.Mod} {bl:List Nat} {l:List Bool} {cur:Array Value} (hq:ye WB bi cur 109) (ho:yq WB g m.obj) (q2:WB.ownsRow 0 103 3 v1 m.means.length (m.means.flatMap (xY bl))) (q4:WB.ownsRow 0 3 1 v3 m.text.length (m.text.map (Value.int .i64))) (q5:WB.ownsRow 0 3 1 v4 m.far.length (m.far.map (Value.int .i64))) (q6:m.means=[]->v1 = .slice none 0 0) (h:rA WB bi g v1 v3 v4 m.data m.bss (l.map Value.bool) l.length vs wr):yN wr bl bi g { m with short:=l }:=by
 have R:=aW.blk hq;exact ⟨_,_,_,_,h.blk,oK ho h.gr R (by decide) (by decide) (by decide) (by decide),yw q2 h.gr R (by decide),EJ h.row,yw q4 h.gr R (by decide),yw q5 h.gr R (by decide),q6,fun e=>h.nil (by simp only at e; rw [e]; rfl)⟩
end
theorem yO.lN {n:Nat} {m:Ln.Mod} (h:yO n m) {l:List Bool} (hl:l.length<=65535):yO n { m with short:=l }:=⟨h.text,h.far,h.data,h.bss,h.means,hl,h.aj⟩
theorem ykr (Wf W0:World) (P:Nat) (bt bf bd:Int) (vm:Value) (bl gl:List Nat) (ms:List Ln.Mod) (st:Ln.fQ) (no:Int) (W:World) (h:jv Wf W0 P bt bf bd vm bl gl ms st no W) (hn:∀ m∈ms,yO bl.length m) (hz:∀ m∈ms,m.short=[]) :
  Calls Tryz.prog 48 #[aP P] W fun e W'=>e = .returned (.tuple #[])/\jv Wf W0 P bt bf bd vm bl gl (Ln.shorten ms) st no W':=by
 obtain ⟨i0,hi,hz0,hz1,hz2⟩:=info_parts Tryz.oq;obtain ⟨am,cm,rfl⟩:=yj h.row;have H0:=hid h;have c3:W.cell? ⟨P,3,none⟩=some (.slice am bl.length cm):=h.blk.cell 3;have hbl:=h.few;have LO:=hid h.fT;have HN:=hid hn;have HZ:=hid hz;obtain ⟨L1,hL1⟩:∃ L1,L1=Ln.shorten ms:=⟨_,rfl⟩
 have LL:=hid (show L1.length=ms.length by rw [hL1]; simp [Ln.shorten]);have LA:=hid (show ∀ k (h:k < ms.length) (h':k < L1.length),L1[k]={ ms[k] with short:=ms[k].obj.aj.map (Ln.bP ms ms[k]) } by intro k h h'; subst hL1; simp [Ln.shorten]);have qD:=hid hL1;clear h hn hz hL1;unfold aP;go_enter Tryz.func48,Tryz.ntmps48;go_wp2;clear c3
 go_loopw [12] (fun i wr=>∃ k:Nat,k<=bl.length/\i = .int .i64 k/\jv Wf W0 P bt bf bd (.slice am bl.length cm) bl gl (L1.take k ++ ms.drop k) st no wr) (fun i _=>bl.length - (intOf i).toNat)
 case atStart=>exact ⟨0,Nat.zero_le _,rfl,by simpa using H0.o⟩
 case round =>
  obtain ⟨k,hk,rfl,hpa⟩:=hrel;have HP:=hid hpa;clear hpa H0;by_cases hlt:k < bl.length
  ·have hko:k < ms.length:=by rw [LO.o]; exact hlt
   have hkg:k < gl.length:=by rw [HP.o.gX]; exact hlt
   have wL:k < L1.length:=by rw [LL.o]; exact hko
   obtain ⟨sg,off,hsg,hsc⟩:=HP.o.iA.ptrs (by omega);have ck:=hsc k hlt;subst hsg;have tZ:(L1.take k ++ ms.drop k)[k]'(by rw [HP.o.fT]; exact hlt)=ms[k]:=Gm ms L1 k hko (by rw [LL.o]; omega) (by rw [HP.o.fT]; exact hlt);have HM:yN wr bl bl[k] (gl[k]'hkg) ms[k]:=by
    have:=HP.o.mods k hlt
    rwa [tZ] at this
   have MN:=HN.o _ (dM hko);have MZ:=HZ.o _ (dM hko);obtain ⟨v1,v2,v3,v4,q0,q1,q2,-,q4,q5,q6,q7⟩:=HM;have e7:=q7 MZ;subst e7;obtain ⟨at_,ct,af,cf,ad,cd,aa,ca,gF,cs,ar,cr,hb,-,-,-,-,-,p6⟩:=q1.open;have k6:=hb.cell 6;simp only [dH,dL,dK] at k6;have k0:wr.cell? ⟨bl[k],0,none⟩=some (.pointer (some ⟨gl[k]'hkg,0,none⟩)):=q0.cell 0;have M0:=hid (show rA wr bl[k] (gl[k]'hkg) v1 v3 v4 ms[k].data ms[k].bss [] 0 (.slice none 0 0) wr from ⟨World.grownBy.refl _ _,q0,World.ownsRow_nil _ _ _ _,fun _=>rfl⟩);have PM:=hid (fun (l:List Bool) (vs:Value) (wr2:World) (hm:rA wr bl[k] (gl[k]'hkg) v1 v3 v4 ms[k].data ms[k].bss (l.map Value.bool) l.length vs wr2)=>show yN wr2 bl bl[k] (gl[k]'hkg) { ms[k] with short:=l } from rA.mod (m:=ms[k]) q0 q1 q2 q4 q5 q6 hm)
   have PK:=hid (fun (l:List Bool) (vs:Value) (wr2:World) (hm:rA wr bl[k] (gl[k]'hkg) v1 v3 v4 ms[k].data ms[k].bss (l.map Value.bool) l.length vs wr2)=>show jv Wf W0 P bt bf bd (.slice (some ⟨sg,off,none⟩) bl.length cm) bl gl ((L1.take k ++ ms.drop k).set k { ms[k] with short:=l }) st no wr2 from
    HP.o.upd hlt (by rw [HP.o.fT]; exact hlt) hm.gr (PM.o l vs wr2 hm) (by rw [tZ]))
   have US:=hid (show ∀ l:List Bool,((L1.take k ++ ms.drop k).set k { ms[k] with short:=l }).map Ln.dZ=ms.map Ln.dZ from fun l=>by
    have eL:L1.map Ln.dZ=ms.map Ln.dZ:=by rw [qD.o]; unfold Ln.shorten; rw [List.map_map]; rfl
    rw [List.map_set,List.map_append,List.map_take,List.map_drop,eL,List.take_append_drop]
    have:Ln.dZ { ms[k] with short:=l }=(ms.map Ln.dZ)[k]'(by simpa using hko):=by rw [List.getElem_map]; rfl
    rw [this];exact List.set_getElem_self _)
   have NI:=hid (show ∀ l:List Bool,l.length<=65535->∀ x∈(L1.take k ++ ms.drop k).set k { ms[k] with short:=l },yO bl.length x from fun l hl x hx=>by
    rcases List.mem_or_eq_of_mem_set hx with q | rfl
    ·rcases List.mem_append.1 q with q | q
     ·have q2:=List.mem_of_mem_take q;rw [qD.o] at q2;unfold Ln.shorten at q2;obtain ⟨y,hy,rfl⟩:=List.mem_map.1 q2;exact (HN.o y hy).lN (by rw [jc]; exact (HN.o y hy).aj.1)
     ·exact HN.o x (List.mem_of_mem_drop q)
    ·exact MN.lN hl)
   have cD:=hid (fun (l:List Bool) (hl:l.length<=65535) (vs:Value) (wr2:World) (hm:rA wr bl[k] (gl[k]'hkg) v1 v3 v4 ms[k].data ms[k].bss (l.map Value.bool) l.length vs wr2) (W3:World) (hg:wr2.grownBy W3 none) (r:Lk.Rel) (hr:r∈ms[k].obj.aj)=>show Calls Tryz.prog 80 #[aP bl[k],bY r] W3 (fun e w'=>e = .returned (.int .i64 (Ln.distance ms ms[k] r))/\W3.grownBy w' none) by
    have d:=Ma bl _ bl[k] (gl[k]'hkg) { ms[k] with short:=l } r W3 (((PK.o l vs wr2 hm).uF (NI.o l hl)).kept hg) ((PM.o l vs wr2 hm).kept hg) (MN.lN hl) (MN.aj.2 r hr).2.1 (MN.aj.2 r hr).2.2;refine d.mono ?_;rintro e w' ⟨rfl,q⟩;exact ⟨congrArg (fun z=>Ending.returned (Value.int .i64 z)) (yik (US.o l) rfl r),q⟩)
   have PS:=hid (fun (wr2:World) (hg:wr.grownBy wr2 (some bl[k]))=>show lX wr2 ar ms[k].obj.aj from lX.aB (yw p6 hg (aW.blk q0) (by decide)));have hrl:=MN.aj.1;have FIN:=hid (show (L1.take k ++ ms.drop k).set k { ms[k] with short:=ms[k].obj.aj.map (Ln.bP ms ms[k]) }=L1.take (k+1) ++ ms.drop (k+1) by rw [<- MC ms L1 k hko wL LL.o,LA.o k hko wL]);have HR:=hid (show ∀ r∈ms[k].obj.aj,r∈ms[k].obj.aj from fun r h=>h);have g1:(k:Int) < (bl.length:Int):=by omega
   clear hsc q0 q1 q2 q4 q5 q6 q7 hb p6 HP tZ NI US PM MN MZ;generalize (gl[k]'hkg)=gk at *;generalize hbb:bl[k]=bk at *;clear hbb;generalize hm:ms[k]=m at *;clear hm;go_wp2;generalize wr=WB at *;clear ck k0 k6
   go_loopw [24] (fun i wr2=>∃ (j:Nat) (vs:Value),j<=m.obj.aj.length/\i = .int .i64 j/\rA WB bk gk v1 v3 v4 m.data m.bss (((m.obj.aj.take j).map (Ln.bP ms m)).map Value.bool) j vs wr2) (fun i _=>m.obj.aj.length - (intOf i).toNat)
   case atStart=>exact ⟨0,_,Nat.zero_le _,rfl,M0.o⟩
   case round =>
    obtain ⟨j,vs,hj,rfl,hme⟩:=hrel;have HM:=hid hme;clear hme M0;obtain ⟨av,cv,rfl⟩:=yj HM.o.row;have LJ:((m.obj.aj.take j).map (Ln.bP ms m)).length=j:=by rw [jc,List.length_take]; omega
    by_cases hlt2:j < m.obj.aj.length
    ·obtain ⟨sg2,zN,hgs,hcs⟩:=PS.o wr HM.o.gr (by omega);subst zN;obtain ⟨q0,q1,q2,q3,q4⟩:=hcs j hlt2;clear hcs;have g2:(j:Int) < (m.obj.aj.length:Int):=by omega
     have TK:=hid (show ((m.obj.aj.take (j+1)).map (Ln.bP ms m)).map Value.bool=(((m.obj.aj.take j).map (Ln.bP ms m)).map Value.bool) ++ [Value.bool (Ln.bP ms m m.obj.aj[j])] by
      rw [List.take_succ_eq_append_getElem hlt2,List.map_append,List.map_append];simp)
     have hrm:m.obj.aj[j]∈m.obj.aj:=dM hlt2;have GA:=hid (aH wr (.cells #[.int .i64 m.obj.aj[j].ah,.int .i64 m.obj.aj[j].off,.int .i64 m.obj.aj[j].kind,.int .i64 m.obj.aj[j].sym,.int .i64 m.obj.aj[j].addend] 83) none);have cM:=hid (cD.o ((m.obj.aj.take j).map (Ln.bP ms m)) (by rw [LJ]; omega) _ wr (by rw [LJ]; exact HM.o) _ GA.o m.obj.aj[j] hrm);have Ih:=hid (show Ln.distance ms m m.obj.aj[j]=Ln.distance ms m m.obj.aj[j] from rfl);generalize m.obj.aj[j]=r at *;generalize hsl:((m.obj.aj.take j).map (Ln.bP ms m)).map Value.bool=sl at *;have Fw:=hid (HM.o.kept GA.o);have SS:=hid (ye.new wr #[.int .i64 r.ah,.int .i64 r.off,.int .i64 r.kind,.int .i64 r.sym,.int .i64 r.addend] 83)
     clear hsl hrm;unfold aP bY at cM;obtain ⟨ds,hds⟩:∃ ds,Ln.distance ms m r=ds:=⟨_,rfl⟩
     rw [hds] at cM;clear Ih;have Ih:=hid hds;clear hds;go_wp2_with fail;refine cM.o.mono ?_;rintro e W6 ⟨rfl,h5⟩;have tH:=hid (Fw.o.kept h5);have B6:=hid (SS.o.grown h5 (by simp));clear h5 cM q0 q1 q2 q3 q4 Fw SS GA;go_wp2;generalize wr.heap.size=L at *;have s2:W6.cell? ⟨L,2,none⟩=some (.int .i64 r.kind):=B6.o.cell 2;have m2:W6.cell? ⟨bk,2,none⟩=some (.slice av j cv):=tH.o.blk.cell 2;by_cases e1:r.kind=4
     ·have d1:(r.kind == 4)=true:=by simpa using e1
      by_cases e2:-1015808 < ds
      ·have d2:decide (-1015808 < ds)=true:=by simpa using e2
       by_cases e3:ds < 1015808
       ·have d3:decide (ds < 1015808)=true:=by simpa using e3
        have EX:=hid (show Value.bool (Ln.bP ms m r) = .bool true by unfold Ln.bP; rw [Ih.o]; simp [e1,e2,e3]);clear e1 e2 e3;have A7:=yf (aH W6 (.cells #[.bool true] 4) none);have B7:=hid (B6.o.grown A7 (by simp));have iR:=hid (tH.o.kept A7);have hA:=hid iR.o.row;have n2:(W6.alloc (.cells #[.bool true] 4)).drew.cell? ⟨bk,2,none⟩=some (.slice av j cv):=iR.o.blk.cell 2;have hN:Hd (∀ j u,[Value.bool true][j]?=some u->(W6.alloc (.cells #[.bool true] 4)).drew.cell? ((⟨W6.heap.size,0,none⟩:Addr).add j)=some u):=World.news_of_block (heap_alloc_new W6 (.cells #[.bool true] 4));have iY:Hd (∀ u∈[Value.bool true],u.oneCell'=true):=by intro u hu; simp at hu; subst hu; rfl
        have h63:Hd (j+1<=maxLen):=by show _<=_; unfold maxLen; omega
        have hby:Hd ((j+1) * 1<=140737488355328):=by show _<=_; omega
        have hbs:Hd (WB.heap.size<=(W6.alloc (.cells #[.bool true] 4)).drew.heap.size):=iR.o.gr.size;have SA:Hd ((W6.alloc (.cells #[.bool true] 4)).drew.cell? ⟨L,2,none⟩=some (.int .i64 r.kind)):=B7.o.cell 2;have STEP:=hid (fun (v':Value) (w3:World) (hown':w3.ownsRow WB.heap.size 4 1 v' (j+1) (sl ++ [.bool true])) (hg:(W6.alloc (.cells #[.bool true] 4)).drew.grownBy w3 (Value.ownBlock (.slice av j cv)))=>show rA WB bk gk v1 v3 v4 m.data m.bss (sl ++ [.bool true]) (j+1) v' (w3.setCell ⟨bk,2,none⟩ v')/\ye w3 L #[.int .i64 r.ah,.int .i64 r.off,.int .i64 r.kind,.int .i64 r.sym,.int .i64 r.addend] 83/\ye (w3.setCell ⟨bk,2,none⟩ v') L #[.int .i64 r.ah,.int .i64 r.off,.int .i64 r.kind,.int .i64 r.sym,.int .i64 r.addend] 83/\w3.cell? ⟨bk,2,none⟩=some (.slice av j cv)/\w3.frozen? ⟨bk,2,none⟩=false by
         have st:=iR.o.step hown' hg;have b3:=yy iR.o.blk hg (aW.own iR.o.row) (by decide);have l3:=yy B7.o hg (aW.own iR.o.row) (by decide);exact ⟨st,l3,yy l3 (yi w3 bk 2 v') (aW.blk b3) (by decide),b3.cell 2,b3.free 2⟩)
        clear A7 B7 iR tH B6;refine wp_region_held_drew (S:=(fun w'=>w'.cell? ⟨L,2,none⟩=some (.int .i64 r.kind))) (by kernel_rfl) s2 ?_;intro hS
        iterate 4
         refine yU (v:=?_) rfl (by kernel_rfl) (fun _ _ _ h=>h) hS ?_ ?_
         rotate_left
         ·intro w' hw'; have x2:=hw'; go_simp; with_reducible rfl
        refine fD (i:=5) (v:=?_) rfl ?_ hS ?_
        rotate_left
        ·intro w' hw'; have x2:=hw'; go_simp; with_reducible rfl
        refine fD (i:=6) (v:=?_) rfl ?_ hS ?_
        rotate_left
        ·intro w' hw'; have x2:=hw'; go_simp; with_reducible rfl
        refine fD (i:=7) (v:=?_) rfl ?_ hS ?_
        rotate_left
        ·intro w' hw'; have x2:=hw'; go_simp; with_reducible rfl
        refine fD (i:=8) (v:=?_) rfl ?_ hS ?_
        rotate_left
        ·intro w' hw'; have x2:=hw'; go_simp; with_reducible rfl
        refine fD (i:=9) (v:=?_) rfl ?_ hS ?_
        rotate_left
        ·intro w' hw'; have x2:=hw'; go_simp; with_reducible rfl
        refine fD (i:=10) (v:=?_) rfl ?_ hS ?_
        rotate_left
        ·intro w' hw'; have x2:=hw'; go_simp; with_reducible rfl
        refine wpAnyH_take (i:=11) (v:=.bool true) rfl (by kernel_rfl) (by kernel_rfl) (by kernel_rfl) (fun _ _ _ h=>h) (Or.inl ⟨by kernel_rfl,fun _ _=>by kernel_rfl⟩) hS ?_;refine wpAnyH_take (i:=12) (v:=.bool true) rfl (by kernel_rfl) (by kernel_rfl) (by kernel_rfl) (fun _ _ _ h=>h) (Or.inl ⟨by kernel_rfl,fun _ _=>by kernel_rfl⟩) hS ?_;refine fD (i:=13) (v:=?_) rfl ?_ hS ?_
        rotate_left
        ·intro w' hw'; have x2:=hw'; go_simp; with_reducible rfl
        refine fD (i:=14) (v:=?_) rfl ?_ hS ?_
        rotate_left
        ·intro w' hw'; have x2:=hw'; go_simp; with_reducible rfl
        refine wpAnyH_take (i:=15) (v:=.bool true) rfl (by kernel_rfl) (by kernel_rfl) (by kernel_rfl) (fun _ _ _ h=>h) (Or.inl ⟨by kernel_rfl,fun _ _=>by kernel_rfl⟩) hS ?_;refine wpAnyH_ready (rs:=[4,16]) (by kernel_rfl) (by simp) ?_;refine AllReadyH.cons rfl (fun K hK=>?_) (AllReadyH.cons rfl (fun K hK=>?_) AllReadyH.nil);go_simp;refine hK.out _ _ hS (fun hS2=>?_);clear hK K;refine wpAnyH_ready (rs:=[16]) (by kernel_rfl) (by simp) ?_
        rotate_left
        go_simp;refine hK.out _ _ SA.o (fun hS2=>?_);clear hK K;refine wpAnyH_ready (rs:=[4]) (by kernel_rfl) (by simp) ?_
        all_goals
         refine AllReadyH.cons rfl (fun K hK=>?_) AllReadyH.nil;go_simp;refine hK.out _ _ SA.o (fun iZ=>?_);clear hK K hS2 iZ;refine wpAnyH_ready (rs:=[17]) (by kernel_rfl) (by simp) ?_;refine AllReadyH.cons rfl (fun K hK=>?_) AllReadyH.nil;rw [if_pos (by kernel_rfl)];refine EK _ (.tmp 35) (.tmp 47) 85 rfl WB.heap.size 4 i0 (.bool false) 1 1 Tryz.underlying85 hi hz0 hz1 hz2 rfl (by decide) (.slice av j cv) j sl (by kernel_rfl) hA.o ⟨W6.heap.size,0,none⟩ 1 1 [.bool true] (by kernel_rfl) rfl hN.o iY.o h63.o hby.o hbs.o ?_;intro v' w3 hown' hgrow _ _;obtain ⟨jN,cv',rfl⟩:=yj hown';obtain ⟨t1,t2,t3,t4,t5⟩:=STEP.o _ _ hown' hgrow
         have T1:=hid t1;have T3:Hd ((w3.setCell ⟨bk,2,none⟩ (.slice jN (j+1) cv')).cell? ⟨L,2,none⟩=some (.int .i64 r.kind)):=t3.cell 2;refine hK.out _ _ (t2.cell 2) (fun nD=>?_);clear hK K hown' hgrow t1 t2 t3;refine fD (i:=18) (v:=?_) rfl ?_ nD ?_
         rotate_left
         ·intro w' hw'; have x2:=hw'; go_simp; with_reducible rfl
         refine fD (i:=19) (v:=?_) rfl ?_ nD ?_
         rotate_left
         ·intro w' hw'; have x2:=hw'; go_simp; with_reducible rfl
         refine wpAnyH_ready (rs:=[20]) (by kernel_rfl) (by simp) ?_;refine AllReadyH.cons rfl (fun K hK=>?_) AllReadyH.nil;go_simp;refine hK.out _ _ T3.o (fun hS5=>?_);clear hK K;refine wpAnyH_done (by kernel_rfl) ?_ _
         try simp only [ni,mh,kT,kI,fu,fC,eX]
         clear hA hN iY h63 hby hbs m2 n2 t4 t5 nD hS5 hS STEP SA T3;go_wp2
         go_roundw
         case rel=>exact ⟨j+1,_,by omega,by go_num,by rw [TK.o,EX.o]; exact T1.o⟩
         case measure=>simp [intOf]; omega
       ·have d3:decide (ds < 1015808)=false:=by simpa using e3
        have EX:=hid (show Value.bool (Ln.bP ms m r) = .bool false by unfold Ln.bP; rw [Ih.o]; simp [e3]);clear e1 e2 e3;have A7:=yf (aH W6 (.cells #[.bool false] 4) none);have B7:=hid (B6.o.grown A7 (by simp));have iR:=hid (tH.o.kept A7);have hA:=hid iR.o.row;have n2:(W6.alloc (.cells #[.bool false] 4)).drew.cell? ⟨bk,2,none⟩=some (.slice av j cv):=iR.o.blk.cell 2;have hN:Hd (∀ j u,[Value.bool false][j]?=some u->(W6.alloc (.cells #[.bool false] 4)).drew.cell? ((⟨W6.heap.size,0,none⟩:Addr).add j)=some u):=World.news_of_block (heap_alloc_new W6 (.cells #[.bool false] 4));have iY:Hd (∀ u∈[Value.bool false],u.oneCell'=true):=by intro u hu; simp at hu; subst hu; rfl
        have h63:Hd (j+1<=maxLen):=by show _<=_; unfold maxLen; omega
        have hby:Hd ((j+1) * 1<=140737488355328):=by show _<=_; omega
        have hbs:Hd (WB.heap.size<=(W6.alloc (.cells #[.bool false] 4)).drew.heap.size):=iR.o.gr.size;have SA:Hd ((W6.alloc (.cells #[.bool false] 4)).drew.cell? ⟨L,2,none⟩=some (.int .i64 r.kind)):=B7.o.cell 2;have STEP:=hid (fun (v':Value) (w3:World) (hown':w3.ownsRow WB.heap.size 4 1 v' (j+1) (sl ++ [.bool false])) (hg:(W6.alloc (.cells #[.bool false] 4)).drew.grownBy w3 (Value.ownBlock (.slice av j cv)))=>show rA WB bk gk v1 v3 v4 m.data m.bss (sl ++ [.bool false]) (j+1) v' (w3.setCell ⟨bk,2,none⟩ v')/\ye w3 L #[.int .i64 r.ah,.int .i64 r.off,.int .i64 r.kind,.int .i64 r.sym,.int .i64 r.addend] 83/\ye (w3.setCell ⟨bk,2,none⟩ v') L #[.int .i64 r.ah,.int .i64 r.off,.int .i64 r.kind,.int .i64 r.sym,.int .i64 r.addend] 83/\w3.cell? ⟨bk,2,none⟩=some (.slice av j cv)/\w3.frozen? ⟨bk,2,none⟩=false by
         have st:=iR.o.step hown' hg;have b3:=yy iR.o.blk hg (aW.own iR.o.row) (by decide);have l3:=yy B7.o hg (aW.own iR.o.row) (by decide);exact ⟨st,l3,yy l3 (yi w3 bk 2 v') (aW.blk b3) (by decide),b3.cell 2,b3.free 2⟩)
        clear A7 B7 iR tH B6;refine wp_region_held_drew (S:=(fun w'=>w'.cell? ⟨L,2,none⟩=some (.int .i64 r.kind))) (by kernel_rfl) s2 ?_;intro hS
        iterate 4
         refine yU (v:=?_) rfl (by kernel_rfl) (fun _ _ _ h=>h) hS ?_ ?_
         rotate_left
         ·intro w' hw'; have x2:=hw'; go_simp; with_reducible rfl
        refine fD (i:=5) (v:=?_) rfl ?_ hS ?_
        rotate_left
        ·intro w' hw'; have x2:=hw'; go_simp; with_reducible rfl
        refine fD (i:=6) (v:=?_) rfl ?_ hS ?_
        rotate_left
        ·intro w' hw'; have x2:=hw'; go_simp; with_reducible rfl
        refine fD (i:=7) (v:=?_) rfl ?_ hS ?_
        rotate_left
        ·intro w' hw'; have x2:=hw'; go_simp; with_reducible rfl
        refine fD (i:=8) (v:=?_) rfl ?_ hS ?_
        rotate_left
        ·intro w' hw'; have x2:=hw'; go_simp; with_reducible rfl
        refine fD (i:=9) (v:=?_) rfl ?_ hS ?_
        rotate_left
        ·intro w' hw'; have x2:=hw'; go_simp; with_reducible rfl
        refine fD (i:=10) (v:=?_) rfl ?_ hS ?_
        rotate_left
        ·intro w' hw'; have x2:=hw'; go_simp; with_reducible rfl
        refine wpAnyH_take (i:=11) (v:=.bool true) rfl (by kernel_rfl) (by kernel_rfl) (by kernel_rfl) (fun _ _ _ h=>h) (Or.inl ⟨by kernel_rfl,fun _ _=>by kernel_rfl⟩) hS ?_;refine wpAnyH_take (i:=12) (v:=.bool true) rfl (by kernel_rfl) (by kernel_rfl) (by kernel_rfl) (fun _ _ _ h=>h) (Or.inl ⟨by kernel_rfl,fun _ _=>by kernel_rfl⟩) hS ?_;refine fD (i:=13) (v:=?_) rfl ?_ hS ?_
        rotate_left
        ·intro w' hw'; have x2:=hw'; go_simp; with_reducible rfl
        refine fD (i:=14) (v:=?_) rfl ?_ hS ?_
        rotate_left
        ·intro w' hw'; have x2:=hw'; go_simp; with_reducible rfl
        refine wpAnyH_take (i:=15) (v:=.bool false) rfl (by kernel_rfl) (by kernel_rfl) (by kernel_rfl) (fun _ _ _ h=>h) (Or.inl ⟨by kernel_rfl,fun _ _=>by kernel_rfl⟩) hS ?_;refine wpAnyH_ready (rs:=[4,16]) (by kernel_rfl) (by simp) ?_;refine AllReadyH.cons rfl (fun K hK=>?_) (AllReadyH.cons rfl (fun K hK=>?_) AllReadyH.nil);go_simp;refine hK.out _ _ hS (fun hS2=>?_);clear hK K;refine wpAnyH_ready (rs:=[16]) (by kernel_rfl) (by simp) ?_
        rotate_left
        go_simp;refine hK.out _ _ SA.o (fun hS2=>?_);clear hK K;refine wpAnyH_ready (rs:=[4]) (by kernel_rfl) (by simp) ?_
        all_goals
         refine AllReadyH.cons rfl (fun K hK=>?_) AllReadyH.nil;go_simp;refine hK.out _ _ SA.o (fun iZ=>?_);clear hK K hS2 iZ;refine wpAnyH_ready (rs:=[17]) (by kernel_rfl) (by simp) ?_;refine AllReadyH.cons rfl (fun K hK=>?_) AllReadyH.nil;rw [if_pos (by kernel_rfl)];refine EK _ (.tmp 35) (.tmp 47) 85 rfl WB.heap.size 4 i0 (.bool false) 1 1 Tryz.underlying85 hi hz0 hz1 hz2 rfl (by decide) (.slice av j cv) j sl (by kernel_rfl) hA.o ⟨W6.heap.size,0,none⟩ 1 1 [.bool false] (by kernel_rfl) rfl hN.o iY.o h63.o hby.o hbs.o ?_;intro v' w3 hown' hgrow _ _;obtain ⟨jN,cv',rfl⟩:=yj hown';obtain ⟨t1,t2,t3,t4,t5⟩:=STEP.o _ _ hown' hgrow
         have T1:=hid t1;have T3:Hd ((w3.setCell ⟨bk,2,none⟩ (.slice jN (j+1) cv')).cell? ⟨L,2,none⟩=some (.int .i64 r.kind)):=t3.cell 2;refine hK.out _ _ (t2.cell 2) (fun nD=>?_);clear hK K hown' hgrow t1 t2 t3;refine fD (i:=18) (v:=?_) rfl ?_ nD ?_
         rotate_left
         ·intro w' hw'; have x2:=hw'; go_simp; with_reducible rfl
         refine fD (i:=19) (v:=?_) rfl ?_ nD ?_
         rotate_left
         ·intro w' hw'; have x2:=hw'; go_simp; with_reducible rfl
         refine wpAnyH_ready (rs:=[20]) (by kernel_rfl) (by simp) ?_;refine AllReadyH.cons rfl (fun K hK=>?_) AllReadyH.nil;go_simp;refine hK.out _ _ T3.o (fun hS5=>?_);clear hK K;refine wpAnyH_done (by kernel_rfl) ?_ _
         try simp only [ni,mh,kT,kI,fu,fC,eX]
         clear hA hN iY h63 hby hbs m2 n2 t4 t5 nD hS5 hS STEP SA T3;go_wp2
         go_roundw
         case rel=>exact ⟨j+1,_,by omega,by go_num,by rw [TK.o,EX.o]; exact T1.o⟩
         case measure=>simp [intOf]; omega
      ·have d2:decide (-1015808 < ds)=false:=by simpa using e2
       have EX:=hid (show Value.bool (Ln.bP ms m r) = .bool false by unfold Ln.bP; rw [Ih.o]; simp [e2]);clear e1 e2;have A7:=yf (aH W6 (.cells #[.bool false] 4) none);have B7:=hid (B6.o.grown A7 (by simp));have iR:=hid (tH.o.kept A7);have hA:=hid iR.o.row;have n2:(W6.alloc (.cells #[.bool false] 4)).drew.cell? ⟨bk,2,none⟩=some (.slice av j cv):=iR.o.blk.cell 2;have hN:Hd (∀ j u,[Value.bool false][j]?=some u->(W6.alloc (.cells #[.bool false] 4)).drew.cell? ((⟨W6.heap.size,0,none⟩:Addr).add j)=some u):=World.news_of_block (heap_alloc_new W6 (.cells #[.bool false] 4));have iY:Hd (∀ u∈[Value.bool false],u.oneCell'=true):=by intro u hu; simp at hu; subst hu; rfl
       have h63:Hd (j+1<=maxLen):=by show _<=_; unfold maxLen; omega
       have hby:Hd ((j+1) * 1<=140737488355328):=by show _<=_; omega
       have hbs:Hd (WB.heap.size<=(W6.alloc (.cells #[.bool false] 4)).drew.heap.size):=iR.o.gr.size;have SA:Hd ((W6.alloc (.cells #[.bool false] 4)).drew.cell? ⟨L,2,none⟩=some (.int .i64 r.kind)):=B7.o.cell 2;have STEP:=hid (fun (v':Value) (w3:World) (hown':w3.ownsRow WB.heap.size 4 1 v' (j+1) (sl ++ [.bool false])) (hg:(W6.alloc (.cells #[.bool false] 4)).drew.grownBy w3 (Value.ownBlock (.slice av j cv)))=>show rA WB bk gk v1 v3 v4 m.data m.bss (sl ++ [.bool false]) (j+1) v' (w3.setCell ⟨bk,2,none⟩ v')/\ye w3 L #[.int .i64 r.ah,.int .i64 r.off,.int .i64 r.kind,.int .i64 r.sym,.int .i64 r.addend] 83/\ye (w3.setCell ⟨bk,2,none⟩ v') L #[.int .i64 r.ah,.int .i64 r.off,.int .i64 r.kind,.int .i64 r.sym,.int .i64 r.addend] 83/\w3.cell? ⟨bk,2,none⟩=some (.slice av j cv)/\w3.frozen? ⟨bk,2,none⟩=false by
        have st:=iR.o.step hown' hg;have b3:=yy iR.o.blk hg (aW.own iR.o.row) (by decide);have l3:=yy B7.o hg (aW.own iR.o.row) (by decide);exact ⟨st,l3,yy l3 (yi w3 bk 2 v') (aW.blk b3) (by decide),b3.cell 2,b3.free 2⟩)
       clear A7 B7 iR tH B6;refine wp_region_held_drew (S:=(fun w'=>w'.cell? ⟨L,2,none⟩=some (.int .i64 r.kind))) (by kernel_rfl) s2 ?_;intro hS
       iterate 4
        refine yU (v:=?_) rfl (by kernel_rfl) (fun _ _ _ h=>h) hS ?_ ?_
        rotate_left
        ·intro w' hw'; have x2:=hw'; go_simp; with_reducible rfl
       refine fD (i:=5) (v:=?_) rfl ?_ hS ?_
       rotate_left
       ·intro w' hw'; have x2:=hw'; go_simp; with_reducible rfl
       refine fD (i:=6) (v:=?_) rfl ?_ hS ?_
       rotate_left
       ·intro w' hw'; have x2:=hw'; go_simp; with_reducible rfl
       refine fD (i:=7) (v:=?_) rfl ?_ hS ?_
       rotate_left
       ·intro w' hw'; have x2:=hw'; go_simp; with_reducible rfl
       refine fD (i:=8) (v:=?_) rfl ?_ hS ?_
       rotate_left
       ·intro w' hw'; have x2:=hw'; go_simp; with_reducible rfl
       refine fD (i:=9) (v:=?_) rfl ?_ hS ?_
       rotate_left
       ·intro w' hw'; have x2:=hw'; go_simp; with_reducible rfl
       refine fD (i:=10) (v:=?_) rfl ?_ hS ?_
       rotate_left
       ·intro w' hw'; have x2:=hw'; go_simp; with_reducible rfl
       refine wpAnyH_take (i:=11) (v:=.bool false) rfl (by kernel_rfl) (by kernel_rfl) (by kernel_rfl) (fun _ _ _ h=>h) (Or.inl ⟨by kernel_rfl,fun _ _=>by kernel_rfl⟩) hS ?_;refine wpAnyH_take (i:=12) (v:=.bool false) rfl (by kernel_rfl) (by kernel_rfl) (by kernel_rfl) (fun _ _ _ h=>h) (Or.inl ⟨by kernel_rfl,fun _ _=>by kernel_rfl⟩) hS ?_;refine oU (i:=13) rfl hS ?_;refine oU (i:=14) rfl hS ?_;refine wpAnyH_take (i:=15) (v:=.bool false) rfl (by kernel_rfl) (by kernel_rfl) (by kernel_rfl) (fun _ _ _ h=>h) (Or.inl ⟨by kernel_rfl,fun _ _=>by kernel_rfl⟩) hS ?_;refine wpAnyH_ready (rs:=[4,16]) (by kernel_rfl) (by simp) ?_
       refine AllReadyH.cons rfl (fun K hK=>?_) (AllReadyH.cons rfl (fun K hK=>?_) AllReadyH.nil);go_simp;refine hK.out _ _ hS (fun hS2=>?_);clear hK K;refine wpAnyH_ready (rs:=[16]) (by kernel_rfl) (by simp) ?_
       rotate_left
       go_simp;refine hK.out _ _ SA.o (fun hS2=>?_);clear hK K;refine wpAnyH_ready (rs:=[4]) (by kernel_rfl) (by simp) ?_
       all_goals
        refine AllReadyH.cons rfl (fun K hK=>?_) AllReadyH.nil;go_simp;refine hK.out _ _ SA.o (fun iZ=>?_);clear hK K hS2 iZ;refine wpAnyH_ready (rs:=[17]) (by kernel_rfl) (by simp) ?_;refine AllReadyH.cons rfl (fun K hK=>?_) AllReadyH.nil;rw [if_pos (by kernel_rfl)];refine EK _ (.tmp 35) (.tmp 47) 85 rfl WB.heap.size 4 i0 (.bool false) 1 1 Tryz.underlying85 hi hz0 hz1 hz2 rfl (by decide) (.slice av j cv) j sl (by kernel_rfl) hA.o ⟨W6.heap.size,0,none⟩ 1 1 [.bool false] (by kernel_rfl) rfl hN.o iY.o h63.o hby.o hbs.o ?_;intro v' w3 hown' hgrow _ _;obtain ⟨jN,cv',rfl⟩:=yj hown';obtain ⟨t1,t2,t3,t4,t5⟩:=STEP.o _ _ hown' hgrow
        have T1:=hid t1;have T3:Hd ((w3.setCell ⟨bk,2,none⟩ (.slice jN (j+1) cv')).cell? ⟨L,2,none⟩=some (.int .i64 r.kind)):=t3.cell 2;refine hK.out _ _ (t2.cell 2) (fun nD=>?_);clear hK K hown' hgrow t1 t2 t3;refine fD (i:=18) (v:=?_) rfl ?_ nD ?_
        rotate_left
        ·intro w' hw'; have x2:=hw'; go_simp; with_reducible rfl
        refine fD (i:=19) (v:=?_) rfl ?_ nD ?_
        rotate_left
        ·intro w' hw'; have x2:=hw'; go_simp; with_reducible rfl
        refine wpAnyH_ready (rs:=[20]) (by kernel_rfl) (by simp) ?_;refine AllReadyH.cons rfl (fun K hK=>?_) AllReadyH.nil;go_simp;refine hK.out _ _ T3.o (fun hS5=>?_);clear hK K;refine wpAnyH_done (by kernel_rfl) ?_ _
        try simp only [ni,mh,kT,kI,fu,fC,eX]
        clear hA hN iY h63 hby hbs m2 n2 t4 t5 nD hS5 hS STEP SA T3;go_wp2
        go_roundw
        case rel=>exact ⟨j+1,_,by omega,by go_num,by rw [TK.o,EX.o]; exact T1.o⟩
        case measure=>simp [intOf]; omega
     ·have d1:(r.kind == 4)=false:=by simpa using e1
      have EX:=hid (show Value.bool (Ln.bP ms m r) = .bool false by unfold Ln.bP; simp [e1]);clear e1;have A7:=yf (aH W6 (.cells #[.bool false] 4) none);have B7:=hid (B6.o.grown A7 (by simp));have iR:=hid (tH.o.kept A7);have hA:=hid iR.o.row;have n2:(W6.alloc (.cells #[.bool false] 4)).drew.cell? ⟨bk,2,none⟩=some (.slice av j cv):=iR.o.blk.cell 2;have hN:Hd (∀ j u,[Value.bool false][j]?=some u->(W6.alloc (.cells #[.bool false] 4)).drew.cell? ((⟨W6.heap.size,0,none⟩:Addr).add j)=some u):=World.news_of_block (heap_alloc_new W6 (.cells #[.bool false] 4));have iY:Hd (∀ u∈[Value.bool false],u.oneCell'=true):=by intro u hu; simp at hu; subst hu; rfl
      have h63:Hd (j+1<=maxLen):=by show _<=_; unfold maxLen; omega
      have hby:Hd ((j+1) * 1<=140737488355328):=by show _<=_; omega
      have hbs:Hd (WB.heap.size<=(W6.alloc (.cells #[.bool false] 4)).drew.heap.size):=iR.o.gr.size;have SA:Hd ((W6.alloc (.cells #[.bool false] 4)).drew.cell? ⟨L,2,none⟩=some (.int .i64 r.kind)):=B7.o.cell 2;have STEP:=hid (fun (v':Value) (w3:World) (hown':w3.ownsRow WB.heap.size 4 1 v' (j+1) (sl ++ [.bool false])) (hg:(W6.alloc (.cells #[.bool false] 4)).drew.grownBy w3 (Value.ownBlock (.slice av j cv)))=>show rA WB bk gk v1 v3 v4 m.data m.bss (sl ++ [.bool false]) (j+1) v' (w3.setCell ⟨bk,2,none⟩ v')/\ye w3 L #[.int .i64 r.ah,.int .i64 r.off,.int .i64 r.kind,.int .i64 r.sym,.int .i64 r.addend] 83/\ye (w3.setCell ⟨bk,2,none⟩ v') L #[.int .i64 r.ah,.int .i64 r.off,.int .i64 r.kind,.int .i64 r.sym,.int .i64 r.addend] 83/\w3.cell? ⟨bk,2,none⟩=some (.slice av j cv)/\w3.frozen? ⟨bk,2,none⟩=false by
       have st:=iR.o.step hown' hg;have b3:=yy iR.o.blk hg (aW.own iR.o.row) (by decide);have l3:=yy B7.o hg (aW.own iR.o.row) (by decide);exact ⟨st,l3,yy l3 (yi w3 bk 2 v') (aW.blk b3) (by decide),b3.cell 2,b3.free 2⟩)
      clear A7 B7 iR tH B6;refine wp_region_held_drew (S:=(fun w'=>w'.cell? ⟨L,2,none⟩=some (.int .i64 r.kind))) (by kernel_rfl) s2 ?_;intro hS
      iterate 4
       refine yU (v:=?_) rfl (by kernel_rfl) (fun _ _ _ h=>h) hS ?_ ?_
       rotate_left
       ·intro w' hw'; have x2:=hw'; go_simp; with_reducible rfl
      refine fD (i:=5) (v:=?_) rfl ?_ hS ?_
      rotate_left
      ·intro w' hw'; have x2:=hw'; go_simp; with_reducible rfl
      refine fD (i:=6) (v:=?_) rfl ?_ hS ?_
      rotate_left
      ·intro w' hw'; have x2:=hw'; go_simp; with_reducible rfl
      refine fD (i:=7) (v:=?_) rfl ?_ hS ?_
      rotate_left
      ·intro w' hw'; have x2:=hw'; go_simp; with_reducible rfl
      refine fD (i:=8) (v:=?_) rfl ?_ hS ?_
      rotate_left
      ·intro w' hw'; have x2:=hw'; go_simp; with_reducible rfl
      refine oU (i:=9) rfl hS ?_;refine oU (i:=10) rfl hS ?_;refine wpAnyH_take (i:=11) (v:=.bool false) rfl (by kernel_rfl) (by kernel_rfl) (by kernel_rfl) (fun _ _ _ h=>h) (Or.inl ⟨by kernel_rfl,fun _ _=>by kernel_rfl⟩) hS ?_;refine wpAnyH_take (i:=12) (v:=.bool false) rfl (by kernel_rfl) (by kernel_rfl) (by kernel_rfl) (fun _ _ _ h=>h) (Or.inl ⟨by kernel_rfl,fun _ _=>by kernel_rfl⟩) hS ?_;refine oU (i:=13) rfl hS ?_;refine oU (i:=14) rfl hS ?_;refine wpAnyH_take (i:=15) (v:=.bool false) rfl (by kernel_rfl) (by kernel_rfl) (by kernel_rfl) (fun _ _ _ h=>h) (Or.inl ⟨by kernel_rfl,fun _ _=>by kernel_rfl⟩) hS ?_
      refine wpAnyH_ready (rs:=[4,16]) (by kernel_rfl) (by simp) ?_;refine AllReadyH.cons rfl (fun K hK=>?_) (AllReadyH.cons rfl (fun K hK=>?_) AllReadyH.nil);go_simp;refine hK.out _ _ hS (fun hS2=>?_);clear hK K;refine wpAnyH_ready (rs:=[16]) (by kernel_rfl) (by simp) ?_
      rotate_left
      go_simp;refine hK.out _ _ SA.o (fun hS2=>?_);clear hK K;refine wpAnyH_ready (rs:=[4]) (by kernel_rfl) (by simp) ?_
      all_goals
       refine AllReadyH.cons rfl (fun K hK=>?_) AllReadyH.nil;go_simp;refine hK.out _ _ SA.o (fun iZ=>?_);clear hK K hS2 iZ;refine wpAnyH_ready (rs:=[17]) (by kernel_rfl) (by simp) ?_;refine AllReadyH.cons rfl (fun K hK=>?_) AllReadyH.nil;rw [if_pos (by kernel_rfl)];refine EK _ (.tmp 35) (.tmp 47) 85 rfl WB.heap.size 4 i0 (.bool false) 1 1 Tryz.underlying85 hi hz0 hz1 hz2 rfl (by decide) (.slice av j cv) j sl (by kernel_rfl) hA.o ⟨W6.heap.size,0,none⟩ 1 1 [.bool false] (by kernel_rfl) rfl hN.o iY.o h63.o hby.o hbs.o ?_;intro v' w3 hown' hgrow _ _;obtain ⟨jN,cv',rfl⟩:=yj hown';obtain ⟨t1,t2,t3,t4,t5⟩:=STEP.o _ _ hown' hgrow
       have T1:=hid t1;have T3:Hd ((w3.setCell ⟨bk,2,none⟩ (.slice jN (j+1) cv')).cell? ⟨L,2,none⟩=some (.int .i64 r.kind)):=t3.cell 2;refine hK.out _ _ (t2.cell 2) (fun nD=>?_);clear hK K hown' hgrow t1 t2 t3;refine fD (i:=18) (v:=?_) rfl ?_ nD ?_
       rotate_left
       ·intro w' hw'; have x2:=hw'; go_simp; with_reducible rfl
       refine fD (i:=19) (v:=?_) rfl ?_ nD ?_
       rotate_left
       ·intro w' hw'; have x2:=hw'; go_simp; with_reducible rfl
       refine wpAnyH_ready (rs:=[20]) (by kernel_rfl) (by simp) ?_;refine AllReadyH.cons rfl (fun K hK=>?_) AllReadyH.nil;go_simp;refine hK.out _ _ T3.o (fun hS5=>?_);clear hK K;refine wpAnyH_done (by kernel_rfl) ?_ _
       try simp only [ni,mh,kT,kI,fu,fC,eX]
       clear hA hN iY h63 hby hbs m2 n2 t4 t5 nD hS5 hS STEP SA T3;go_wp2
       go_roundw
       case rel=>exact ⟨j+1,_,by omega,by go_num,by rw [TK.o,EX.o]; exact T1.o⟩
       case measure=>simp [intOf]; omega
    ·obtain rfl:j=m.obj.aj.length:=by omega
     have g3:decide ((m.obj.aj.length:Int) < (m.obj.aj.length:Int))=false:=by simp
     have PA:=hid (PK.o ((m.obj.aj.take m.obj.aj.length).map (Ln.bP ms m)) _ wr (by rw [LJ]; exact HM.o));rw [List.take_length,FIN.o] at PA;clear LJ;go_wp2
     go_roundw
     case rel=>exact ⟨k+1,by omega,by go_num,PA.o⟩
     case measure=>simp [intOf]; omega
  ·obtain rfl:k=bl.length:=by omega
   have g3:decide ((bl.length:Int) < (bl.length:Int))=false:=by simp
   have zh:=hid (show jv Wf W0 P bt bf bd (.slice am bl.length cm) bl gl L1 st no wr by
    have:=HP.o
    rwa [List.drop_of_length_le (by rw [LO.o]; exact Nat.le_refl _),List.append_nil,List.take_of_length_le (by rw [LL.o,LO.o]; exact Nat.le_refl _)] at this)
   clear HP;go_wp2
   go_end0
   rw [<- qD.o];exact ⟨rfl,zh.o⟩
end Go.Proofs.YtelehpmjhjljgaaGreatDoor
