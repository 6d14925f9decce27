
import Derived.Test.YtpgklkhgfcjceaaGreatDoorV19
set_option maxHeartbeats 16000000
set_option maxRecDepth 100000
namespace Go.Proofs.YtpgklkhgfcjceaaGreatDoor
open Go.RowKit
theorem yoy (form:Nat) (n:Int):As.place' form n < 2 ^ 32:=by
 have a1:=pQ n 0 20;have a2:=pQ n 20 1;have a3:=pQ n 1 10;have a4:=pQ n 11 1;have a5:=pQ n 12 8;have a6:=pQ n 0 12;have a7:=pQ n 12 1;have a8:=pQ n 5 6;have a9:=pQ n 1 4;have aa:=pQ n 5 7;have ab:=pQ n 0 5;unfold As.place'
 repeat' split
 ·omega
 ·exact Nat.or_lt_two_pow (Nat.or_lt_two_pow (Nat.or_lt_two_pow (by omega) (by omega)) (by omega)) (by omega)
 ·omega
 ·exact Nat.or_lt_two_pow (Nat.or_lt_two_pow (Nat.or_lt_two_pow (by omega) (by omega)) (by omega)) (by omega)
 ·exact Nat.or_lt_two_pow (by omega) (by omega)
 ·omega
theorem ynP (op:Nat):As.jO.getD op 0 < 2 ^ 32:=by
 have h:∀ x∈As.jO,x < 2 ^ 32:=by decide
 rw [lC]
 cases e:As.jO[op]? with
 | none=>simp
 | some x=>exact h x (List.mem_of_getElem? e)
theorem ZF (op rd au aF:Nat) (n:Int):As.enc op rd au aF n < 2 ^ 32:=by
 unfold As.enc As.kM;have p:=yoy (As.forms.getD op 0) n;have f:=ynP op;have b1:=pQ rd 0 5;have b2:=pQ au 0 5;have b3:=pQ aF 0 5;generalize As.forms.getD op 0=form at *;have w0:=Nat.or_lt_two_pow f p;generalize As.jO.getD op 0 ||| As.place' form n=x0 at *;have w1:(if As.kZ form then x0 ||| As.fI rd 0 5 * 128 else x0) < 2 ^ 32:=by
  split
  ·exact Nat.or_lt_two_pow w0 (by omega)
  ·exact w0
 dsimp only;generalize (if As.kZ form then x0 ||| As.fI rd 0 5 * 128 else x0)=x1 at *;have w2:(if As.jy form then x1 ||| As.fI au 0 5 * 32768 else x1) < 2 ^ 32:=by
  split
  ·exact Nat.or_lt_two_pow w1 (by omega)
  ·exact w1
 generalize (if As.jy form then x1 ||| As.fI au 0 5 * 32768 else x1)=x2 at *;split
 ·exact Nat.or_lt_two_pow w2 (by omega)
 ·exact w2
theorem O5 (op rd au aF:Nat) (n:Int):0<=Ln.encZ op rd au aF n/\Ln.encZ op rd au aF n<=4294967295:=by
 unfold Ln.encZ;split
 ·omega
 ·have:=ZF op rd au aF n
  omega
theorem yjV (ms:List Ln.Mod) (m:Ln.Mod) (ah off x:Int) (h0:0<=x) (h1:x<=4294967295):0<=Ln.linked ms m ah off x/\Ln.linked ms m ah off x<=4294967295:=by
 unfold Ln.linked Ln.pW;generalize (Ln.aR ah off 0 m.obj.aj).2=r
 repeat' split
 ·rw [Zd]; omega
 ·exact O5 _ _ _ _ _
 ·exact O5 _ _ _ _ _
 ·exact O5 _ _ _ _ _
 ·exact O5 _ _ _ _ _
 ·exact ⟨h0,h1⟩
def rY (xs:List Int):Prop:=∀ x∈xs,0<=x/\x<=4294967295
theorem rY.qG {xs:List Int} (h:qL xs):rY xs:=by
 intro x hx;obtain ⟨i,hi,rfl⟩:=List.getElem_of_mem hx;exact h i hi
theorem rY.app {xs ys:List Int} (h:rY xs) (k:rY ys):rY (xs ++ ys):=by
 intro x hx;rcases List.mem_append.1 hx with q | q
 ·exact h x q
 ·exact k x q
theorem ykR (ms:List Ln.Mod) (m:Ln.Mod) (ah:Int):∀ (ws:List Int) (k:Nat),rY ws->rY (Ln.bn ms m ah k ws):=by
 intro ws
 induction ws with
 | nil=>intro k _ x hx; simp [Ln.bn] at hx
 | cons w ws ih =>
  intro k hw;have i:=ih (k+1) (fun x hx=>hw x (by simp [hx]));unfold Ln.bn;split
  ·intro x hx;rcases List.mem_cons.1 hx with rfl | hx
   ·have:=hw w (by simp)
    exact yjV ms m ah _ w this.1 this.2
   ·exact i x hx
  ·exact i
theorem Yb {o:Lk.Obj} (hv:yv o) (ah:Int):rY (yx o ah):=by
 unfold yx
 repeat' split
 ·exact rY.qG hv.2.2.1.1
 ·exact rY.qG hv.2.2.1.2.1
 ·exact rY.qG hv.2.2.1.2.2
 ·intro x hx; simp at hx
theorem yrE {base fl b:Int} {ws:List Int} (hf:0<=fl/\fl<=4294967295) (h:rY ws):rY (Ln.jD base fl b ws):=by
 unfold Ln.jD;refine h.app fun x hx=>?_
 have:=List.eq_of_mem_replicate hx
 omega
theorem Tz (ms:List Ln.Mod) (ah base fl:Int) (hf:0<=fl/\fl<=4294967295):∀ (l:List Ln.Mod) (ws:List Int),(∀ m∈l,yv m.obj)->rY ws->rY (Ln.region ms ah base fl l ws):=by
 intro l
 induction l with
 | nil=>intro ws _ h; exact h
 | cons m l ih =>
  intro ws hv h;unfold Ln.region;refine ih _ (fun x hx=>hv x (by simp [hx])) ?_;unfold Ln.lK;exact (yrE hf h).app (ykR ms m ah _ 0 (Yb (hv m (by simp)) ah))
theorem Xe (m:Ln.Mod) (ah:Int) (ws:List Int) (k:Nat) (a:Int):(Ln.bD m ah k ws a)[0]?=some a:=by
 cases ws <;> rfl
theorem yhE (ms:List Ln.Mod) (m:Ln.Mod) (ah:Int):∀ (ws:List Int) (k:Nat) (a:Int),(∀ i,i<=ws.length->some (Ln.address m ah (4 * (k+i:Nat)))=(Ln.bD m ah k ws a)[i]?)->4 * ((Ln.bn ms m ah k ws).length:Int)=Ln.eB m ah k ws a - a:=by
 intro ws
 induction ws with
 | nil=>intro k a _; simp [Ln.bn,Ln.eB]
 | cons w ws ih =>
  intro k a h;have h0:=h 0 (by simp);have h1:=h 1 (by simp);have tl:∀ i,i<=ws.length->some (Ln.address m ah (4 * (k+1+i:Nat)))=(Ln.bD m ah (k+1) ws (if Ln.stays m ah (4 * k) a then a+4 else a))[i]?:=by
   intro i hi
   have:=h (i+1) (by simp; omega)
   rw [show k+(i+1)=k+1+i by omega] at this;exact this
  have e:=ih (k+1) _ tl;have p1:(Ln.bD m ah k (w :: ws) a)[1]?=some (if Ln.stays m ah (4 * k) a then a+4 else a):=Xe m ah ws (k+1) _;have p0:(Ln.bD m ah k (w :: ws) a)[0]?=some a:=rfl;rw [p0] at h0;rw [p1] at h1;simp only [Option.some.injEq,Nat.add_zero] at h0 h1;have e4:(4 * ((k+1:Nat):Int))=4 * (k:Int)+4:=by omega
  rw [e4] at h1;have EF:Ln.eB m ah k (w :: ws) a=Ln.eB m ah (k+1) ws (if Ln.stays m ah (4 * k) a then a+4 else a):=rfl;rw [EF];unfold Ln.bn;rw [h0,h1];clear tl p0 p1 h0 h1 EF h ih;generalize Ln.stays m ah (4 * k) a=b at *
  cases b
  ·simp only [Bool.false_eq_true,if_false] at e ⊢;rw [if_neg (by omega)];exact e
  ·simp only [if_true] at e ⊢;rw [if_pos (by omega),jm];omega
def Ai (ah:Nat) (ps:Ln.Mod->List Int):List Ln.Mod->Int->Int->Prop
 | [],t,e=>e=t
 | m :: r,t,e=>ps m=Ln.aZ m ah t/\Ai ah ps r (Ln.dD m ah t) e
theorem yjk (m:Ln.Mod) (k:Nat):Ln.address m 1 (4 * (k:Int))=m.text.getD k 0:=by
 unfold Ln.address Ln.placeOf;rw [if_pos rfl,Int.tdiv_eq_ediv_of_nonneg (by omega),if_neg (by omega)]
 congr 1
 omega
theorem ykS (m:Ln.Mod) (k:Nat):Ln.address m 2 (4 * (k:Int))=m.far.getD k 0:=by
 unfold Ln.address Ln.placeOf;rw [if_neg (by decide),if_pos rfl,Int.tdiv_eq_ediv_of_nonneg (by omega),if_neg (by omega)]
 congr 1
 omega
theorem ynz (ms:List Ln.Mod) (m:Ln.Mod) (ah:Nat) (base fl t:Int) (ws:List Int) (ps:List Int) (hps:ps=Ln.aZ m ah t) (had:∀ k:Nat,Ln.address m ah (4 * (k:Int))=ps.getD k 0) (h0:0<=t) (h1:t<=562949953421312) (hb:base % 4=0) (hl:base+4 * (ws.length:Int)=t) :
  base+4 * ((Ln.lK ms m ah base fl ws).length:Int)=Ln.dD m ah t:=by
 have R:=Ad t (Ln.aI m.obj ah) h0 (by omega) (yZ _);have hbg:Ln.begin_ m ah t=Ln.rup t (Ln.aI m.obj ah):=rfl;have pr:=Xc m ah (yx m.obj ah) 0 (Ln.begin_ m ah t);have lp:ps=Ln.bD m ah 0 (yx m.obj ah) (Ln.begin_ m ah t):=hps;have A0:Ln.address m ah 0=Ln.begin_ m ah t:=by
  have:=had 0
  rw [Int.ofNat_zero,Int.mul_zero] at this;rw [this,lC,lp,Xe];rfl
 have C:=yhE ms m ah (yx m.obj ah) 0 (Ln.begin_ m ah t) (fun i hi=>by
  rw [Nat.zero_add,had i,lp,lC,j3 (by rw [pr.1]; omega)];rfl)
 unfold Ln.lK;rw [eZ,Uf,A0];unfold Ln.dD;rw [hbg] at C ⊢;omega
theorem Yj (ms:List Ln.Mod) (ah:Nat) (hs:ah=1\/ah=2) (ps:Ln.Mod->List Int) (base fl:Int) (hb:base % 4=0) (had:∀ (m:Ln.Mod) (k:Nat),Ln.address m ah (4 * (k:Int))=(ps m).getD k 0) :
  ∀ (l:List Ln.Mod) (ws:List Int) (t e:Int),(∀ m∈l,yv m.obj)->0<=t->t+5000 * l.length<=1200000000->base+4 * (ws.length:Int)=t->Ai ah ps l t e->base+4 * ((Ln.region ms ah base fl l ws).length:Int)=e:=by
 intro l
 induction l with
 | nil=>intro ws t e _ _ _ hl hc; unfold Ln.region; unfold Ai at hc; omega
 | cons m l ih =>
  intro ws t e hv h0 h1 hl hc;unfold Ai at hc;simp only [jm] at h1;have r:=Hu (hv m (by simp)) ah hs t h0 (by omega);unfold Ln.region;exact ih _ (Ln.dD m ah t) e (fun x hx=>hv x (by simp [hx])) (by omega) (by omega) (ynz ms m ah base fl t ws (ps m) hc.1 (had m) h0 (by omega) hb hl) hc.2
def Ef (ah:Nat):List Ln.Mod->Int->Int
 | [],t=>t
 | m :: r,t=>Ef ah r (Ln.dD m ah t)
theorem Xv (ah:Nat) (hs:ah=1\/ah=2):∀ (l:List Ln.Mod) (t:Int),(∀ m∈l,yv m.obj)->0<=t->t+5000 * l.length<=1200000000->t<=Ef ah l t/\Ef ah l t<=t+4815 * l.length:=by
 intro l
 induction l with
 | nil=>intro t _ _ _; simp [Ef]
 | cons m l ih =>
  intro t hv h0 h1;simp only [jm] at h1 ⊢;have r:=Hu (hv m (by simp)) ah hs t h0 (by omega);have q:=ih (Ln.dD m ah t) (fun x hx=>hv x (by simp [hx])) (by omega) (by omega);unfold Ef;omega
theorem yiL:∀ (ms:List Ln.Mod) (t f d:Int),Ai 1 Ln.Mod.text (Ln.dw ms t f d) t (Ef 1 ms t)/\Ai 2 Ln.Mod.far (Ln.dw ms t f d) f (Ef 2 ms f):=by
 intro ms
 induction ms with
 | nil=>intro t f d; exact ⟨rfl,rfl⟩
 | cons m ms ih =>
  intro t f d;have q:=ih (Ln.dD m 1 t) (Ln.dD m 2 f) (Ln.rup d (Ln.aI m.obj 3)+4 * m.obj.data.length);unfold Ln.dw Ai Ef;have e1:Ln.dD (Ln.bH m t f d) 1 t=Ln.dD m 1 t:=Pp (m:=m) (m':=Ln.bH m t f d) rfl rfl 1 t;have e2:Ln.dD (Ln.bH m t f d) 2 f=Ln.dD m 2 f:=Pp (m:=m) (m':=Ln.bH m t f d) rfl rfl 2 f;rw [e1,e2];exact ⟨⟨(OZ (m:=m) (m':=Ln.bH m t f d) rfl rfl 1 t).symm,q.1⟩,(OZ (m:=m) (m':=Ln.bH m t f d) rfl rfl 2 f).symm,q.2⟩
theorem Xk (ah:Nat) (ps:Ln.Mod->List Int) (hps:∀ (m:Ln.Mod) (b:Int),ps { m with bss:=b }=ps m):∀ (ms:List Ln.Mod) (b t e:Int),Ai ah ps ms t e->Ai ah ps (Ln.eP ms b) t e:=by
 intro ms
 induction ms with
 | nil=>intro b t e h; exact h
 | cons m ms ih =>
  intro b t e h;unfold Ai at h;unfold Ln.eP Ai;have e1:Ln.dD { m with bss:=Ln.rup b (Ln.aI m.obj 4) } ah t=Ln.dD m ah t:=Pp (m:=m) (m':={ m with bss:=Ln.rup b (Ln.aI m.obj 4) }) rfl rfl ah t;have e2:Ln.aZ { m with bss:=Ln.rup b (Ln.aI m.obj 4) } ah t=Ln.aZ m ah t:=OZ (m:=m) (m':={ m with bss:=Ln.rup b (Ln.aI m.obj 4) }) rfl rfl ah t;rw [e1,e2,hps];exact ⟨h.1,ih _ _ _ h.2⟩
def DK:List Ln.Mod->Int->Int->Prop
 | [],d,e=>e=d
 | m :: r,d,e=>m.data=Ln.rup d (Ln.aI m.obj 3)/\DK r (Ln.rup d (Ln.aI m.obj 3)+4 * m.obj.data.length) e
theorem yhQ:∀ (ms:List Ln.Mod) (t f d:Int),DK (Ln.dw ms t f d) d (Ln.dS ms d):=by
 intro ms
 induction ms with
 | nil=>intro t f d; rfl
 | cons m ms ih=>intro t f d; unfold Ln.dw DK Ln.dS; exact ⟨rfl,ih _ _ _⟩
theorem yiK:∀ (ms:List Ln.Mod) (b d e:Int),DK ms d e->DK (Ln.eP ms b) d e:=by
 intro ms
 induction ms with
 | nil=>intro b d e h; exact h
 | cons m ms ih=>intro b d e h; unfold DK at h; unfold Ln.eP DK; exact ⟨h.1,ih _ _ _ h.2⟩
theorem yji (ms:List Ln.Mod) (m:Ln.Mod):∀ (ws:List Int) (k:Nat),(Ln.bn ms m 3 k ws).length=ws.length:=by
 intro ws
 induction ws with
 | nil=>intro k; rfl
 | cons w ws ih =>
  intro k;unfold Ln.bn
  have:Ln.address m 3 (4 * (k:Int)) < Ln.address m 3 (4 * (k:Int)+4):=by
   unfold Ln.address;simp only [if_neg (show ¬ (3:Int)=1 by decide),if_neg (show ¬ (3:Int)=2 by decide),if_pos];omega
  rw [if_pos this,jm,ih,jm]
theorem ylu (ms:List Ln.Mod) (base fl:Int) (hb:base % 4=0):∀ (l:List Ln.Mod) (ws:List Int) (d e:Int),(∀ m∈l,yv m.obj)->0<=d->d+5000 * l.length<=1200000000->base+4 * (ws.length:Int)=d->DK l d e->base+4 * ((Ln.region ms 3 base fl l ws).length:Int)=e:=by
 intro l
 induction l with
 | nil=>intro ws d e _ _ _ hl hc; unfold Ln.region; unfold DK at hc; omega
 | cons m l ih =>
  intro ws d e hv h0 h1 hl hc;unfold DK at hc;simp only [jm] at h1;have R:=Ad d (Ln.aI m.obj 3) h0 (by omega) (yZ _);have hdl:m.obj.data.length<=64:=(hv m (by simp)).1.1.2.2;unfold Ln.region;refine ih _ _ e (fun x hx=>hv x (by simp [hx])) ?_ ?_ ?_ hc.2
  ·omega
  ·omega
  ·have A0:Ln.address m 3 0=m.data:=by unfold Ln.address; simp
   have W3:yx m.obj 3=m.obj.data:=rfl;unfold Ln.lK;rw [eZ,Uf,A0,yji,W3,hc.1];omega
theorem yju:∀ (ms:List Ln.Mod) (b:Int),(∀ m∈ms,yv m.obj)->0<=b->b+5000 * ms.length<=1200000000->b<=Ln.iJ ms b/\Ln.iJ ms b<=b+271 * ms.length:=by
 intro ms
 induction ms with
 | nil=>intro b _ _ _; simp [Ln.iJ]
 | cons m ms ih =>
  intro b hv h0 h1;simp only [jm] at h1 ⊢;have R:=Ad b (Ln.aI m.obj 4) h0 (by omega) (yZ _);have hb:=(hv m (by simp)).1.2.1;have q:=ih (Ln.rup b (Ln.aI m.obj 4)+4 * m.obj.bss) (fun x hx=>hv x (by simp [hx])) (by omega) (by omega);unfold Ln.iJ;omega
theorem Xi:∀ (ms:List Ln.Mod) (d:Int),(∀ m∈ms,yv m.obj)->0<=d->d+5000 * ms.length<=1200000000->d<=Ln.dS ms d/\Ln.dS ms d<=d+271 * ms.length:=by
 intro ms
 induction ms with
 | nil=>intro b _ _ _; simp [Ln.dS]
 | cons m ms ih =>
  intro d hv h0 h1;simp only [jm] at h1 ⊢;have R:=Ad d (Ln.aI m.obj 3) h0 (by omega) (yZ _);have hdl:m.obj.data.length<=64:=(hv m (by simp)).1.1.2.2;have q:=ih (Ln.rup d (Ln.aI m.obj 3)+4 * m.obj.data.length) (fun x hx=>hv x (by simp [hx])) (by omega) (by omega);unfold Ln.dS;omega
theorem oM.put {W0 V w3:World} {R:Nat} {base fl x:Int} {ws:List Int} {v v':Value} (h:oM W0 R base fl ws v V) (hown:w3.ownsRow W0.heap.size 3 1 v' (ws.length+1) (ws.map (Value.int .i64) ++ [.int .i64 x])) (hg:V.grownBy w3 v.ownBlock) (hat:v'.ownBlock=v.ownBlock\/v'.ownBlock=some V.heap.size) :
  (oM W0 R base fl (ws ++ [x]) v' (w3.setCell ⟨R,2,none⟩ v')/\uw V (w3.setCell ⟨R,2,none⟩ v') R v v')/\yc w3 R #[.int .i64 base,.int .i64 fl,v] 134/\w3.cell? ⟨R,2,none⟩=some v/\w3.frozen? ⟨R,2,none⟩=false/\w3.cell? ⟨R,1,none⟩=some (.int .i64 fl):=by
 have b3:=yF h.blk hg (bR.own h.row) (by decide);exact ⟨h.step hown hg hat,b3,b3.cell 2,b3.free 2,b3.cell 1⟩
theorem ymJ (W0:World) (g:Nat) (o:Lk.Obj) (ah:Int) (w:World) (h:yu W0 g o) (hg:W0.grownBy w none) :
  Calls Tryz.prog 109 #[.pointer (some ⟨g,0,none⟩),.int .i64 ah] w fun e w'=>∃ ao cap,e = .returned (.slice ao (yx o ah).length cap)/\(yy W0 ao (yx o ah)/\(yx o ah).length<=cap/\cap<=maxLen)/\w'=w:=by
 obtain ⟨at_,ct,af,cf,ad,cd,aa,ca,gy,cs,ar,cr,hb,h1,h2,h3,-⟩:=h.open;have hb2:=hb.grown hg (by simp);have k0:=hb2.cell 0;have k1:=hb2.cell 1;have k2:=hb2.cell 2;have q1:=hid (yy.aO h1);have q2:=hid (yy.aO h2);have q3:=hid (yy.aO h3);have z1:=hid (qU h1);have z2:=hid (qU h2);have z3:=hid (qU h3);clear h hb hb2 h1 h2 h3 hg;unfold yx;by_cases e1:ah=1
 ·subst e1;go_enter Tryz.func109,Tryz.ntmps109;go_wp2;go_ret;exact ⟨at_,ct,rfl,⟨q1.o,z1.o⟩,rfl⟩
 by_cases e2:ah=2
 ·subst e2;go_enter Tryz.func109,Tryz.ntmps109;go_wp2;go_ret;exact ⟨af,cf,rfl,⟨q2.o,z2.o⟩,rfl⟩
 by_cases e3:ah=3
 ·subst e3;go_enter Tryz.func109,Tryz.ntmps109;go_wp2;go_ret;exact ⟨ad,cd,rfl,⟨q3.o,z3.o⟩,rfl⟩
 ·rw [if_neg e1,if_neg e2,if_neg e3];have d1:(ah == 1)=false:=beq_eq_false_iff_ne.2 e1;have d2:(ah == 2)=false:=beq_eq_false_iff_ne.2 e2;have d3:(ah == 3)=false:=beq_eq_false_iff_ne.2 e3;clear e1 e2 e3;go_enter Tryz.func109,Tryz.ntmps109;go_wp2;go_ret;exact ⟨none,0,rfl,⟨fun h=>by simp at h,by simp,by simp⟩,rfl⟩
theorem yqi (W0:World) (bl:List Nat) (ms:List Ln.Mod) (b g:Nat) (m:Ln.Mod) (ah:Int) (R:Nat) (base fl:Int) (ws:List Int) (v:Value) (w:World) (ht:dQ W0) (h:Ei W0 bl ms) (hm:yD W0 bl b g m) (hn:yI bl.length m) (hv:yv m.obj) (hd:Ua ms m) (hr:oM W0 R base fl ws v w) (hb0:0<=base) (hb1:base<=1200000000) (hl:ws.length<=300090000) (ha:Ln.address m ah 0<=1200100000) :
  Calls Tryz.prog 72 #[aW R,aW b,.int .i64 ah] w fun e w'=>e = .returned (.tuple #[])/\∃ v',oM W0 R base fl (Ln.lK ms m ah base fl ws) v' w'/\uw w w' R v v':=by
 obtain ⟨i0,hi,hz0,hz1,hz2⟩:=info_parts Tryz.kN;have HT:=hid ht;have HH:=hid h;have HM:=hid hm;have HR:=hid hr;have cA:=hid (fun (off:Int) W (hg:W0.grownBy W none) h0 h1=>Tf bl b g bl.length m ah off W (HM.o.kept hg) hn h0 h1);have cL:=hid (fun (off x:Int) W (hg:W0.grownBy W none) h0 h1=>ymR bl ms b g m ah off x W (HT.o.grown hg) (HH.o.kept hg) (HM.o.kept hg) hn hv hd h0 h1);have cW:Hd (∀ W,W0.grownBy W none->Calls Tryz.prog 109 #[.pointer (some ⟨g,0,none⟩),.int .i64 ah] W fun e w'=>∃ ao cap,e = .returned (.slice ao (yx m.obj ah).length cap)/\(yy W0 ao (yx m.obj ah)/\(yx m.obj ah).length<=cap/\cap<=maxLen)/\w'=W):=fun W hg=>by
  obtain ⟨v1,v2,v3,v4,q0,q1,-⟩:=hm;exact ymJ W0 g m.obj ah W q1 hg
 have CB:=hid (fun W (hg:W0.grownBy W none)=>show W.cell? ⟨b,0,none⟩=some (.pointer (some ⟨g,0,none⟩)) from by
  obtain ⟨v1,v2,v3,v4,q0,-⟩:=hm;exact (q0.grown hg (by simp)).cell 0)
 have hwl:=O1 hv ah;have QE:=hid (Yb hv ah);have EA:=hid (show Ln.lK ms m ah base fl ws=Ln.jD base fl (Ln.address m ah 0) ws ++ Ln.bn ms m ah 0 ((yx m.obj ah).drop 0) from rfl);generalize Ln.lK ms m ah base fl ws=AT at *;generalize yx m.obj ah=xs at *;have VW:=hid (cA.o 0 w HR.o.gr (by omega) (by omega));generalize Ln.address m ah 0=bg at *;clear ht h hm hr hn hv hd;unfold aW at *;go_enter Tryz.func72,Tryz.ntmps72;go_wp2_with fail;refine VW.o.mono ?_;rintro e w' ⟨rfl,hw⟩;rw [hw];clear hw w' VW;go_wp2
 go_loopg [] ((bg - base - 4 * (ws.length:Int)).toNat) (fun k wr=>∃ (acc:List Int) (v1:Value),oM W0 R base fl acc v1 wr/\uw w wr R v v1/\Ln.jD base fl bg ws=Ln.jD base fl bg acc/\acc.length<=300090000/\(bg - base - 4 * (acc.length:Int)).toNat<=k)
 case atStart=>exact ⟨ws,v,HR.o,uw.refl _ _ _,rfl,by omega,Nat.le_refl _⟩
 case round =>
  obtain ⟨acc,v1,hra,hrt,WH,hal,WK⟩:=hrel;obtain ⟨av,cv,rfl⟩:=yi hra.row;have HG:=hid hra;have HT1:=hid hrt;have N7:=hid WH;clear hra hrt WH HR;have c0:wr.cell? ⟨R,0,none⟩=some (.int .i64 base):=HG.o.blk.cell 0;have c1:wr.cell? ⟨R,1,none⟩=some (.int .i64 fl):=HG.o.blk.cell 1;have c2:wr.cell? ⟨R,2,none⟩=some (.slice av acc.length cv):=HG.o.blk.cell 2;have w1:IntKind.i64.wrap (4 * (acc.length:Int))=4 * acc.length:=IntWalk.i64_in _ ⟨by omega,by omega⟩;have w2:IntKind.i64.wrap (base+4 * (acc.length:Int))=base+4 * acc.length:=IntWalk.i64_in _ ⟨by omega,by omega⟩;by_cases hlt:base+4 * (acc.length:Int) < bg
  ·have EG:=hid (show Ln.jD base fl bg ws=Ln.jD base fl bg (acc ++ [fl]) from N7.o.trans (yph hlt));have hb2:base+4 * (acc.length:Int) < bg:=hlt;have d1:decide (base+4 * (acc.length:Int) < bg)=true:=by simpa using hlt
   clear hlt N7;go_wp2
   go_quiet (fail)
   have Ii:=hid (HG.o.kept (yf (World.grownBy.refl wr none) nq));have LK:=hid (HT1.o.grown (yf (World.grownBy.refl wr none) nq));go_wp2;clear c0 c1 c2 HG HT1;generalize wr.drewN nq=wr at *;have HG:=Ii;have HT1:=LK;have c0:wr.cell? ⟨R,0,none⟩=some (.int .i64 base):=HG.o.blk.cell 0;have c1:wr.cell? ⟨R,1,none⟩=some (.int .i64 fl):=HG.o.blk.cell 1;have c2:wr.cell? ⟨R,2,none⟩=some (.slice av acc.length cv):=HG.o.blk.cell 2;clear Ii LK;have A7:=yh (aJ wr (.cells #[.int .i64 fl] 3) none);have H7:=hid (HG.o.kept A7);have RT:=hid (HT1.o.grown A7);have hA:=hid H7.o.row;have n2:(wr.alloc (.cells #[.int .i64 fl] 3)).drew.cell? ⟨R,2,none⟩=some (.slice av acc.length cv):=H7.o.blk.cell 2
   have hN:Hd (∀ j u,[Value.int .i64 fl][j]?=some u->(wr.alloc (.cells #[.int .i64 fl] 3)).drew.cell? ((⟨wr.heap.size,0,none⟩:Addr).add j)=some u):=World.news_of_block (heap_alloc_new wr (.cells #[.int .i64 fl] 3));have iC:Hd (∀ u∈[Value.int .i64 fl],u.oneCell'=true):=by intro u hu; simp at hu; subst hu; rfl
   have h63:Hd (acc.length+1<=maxLen):=by show _<=_; unfold maxLen; omega
   have hby:Hd ((acc.length+1) * 8<=140737488355328):=by show _<=_; omega
   have hbs:Hd (W0.heap.size<=(wr.alloc (.cells #[.int .i64 fl] 3)).drew.heap.size):=H7.o.gr.size;have SA:Hd ((wr.alloc (.cells #[.int .i64 fl] 3)).drew.cell? ⟨R,1,none⟩=some (.int .i64 fl)):=H7.o.blk.cell 1;have STEP:=hid (fun (v':Value) (w3:World) (hown':w3.ownsRow W0.heap.size 3 1 v' (acc.length+1) (acc.map (Value.int .i64) ++ [.int .i64 fl])) (hg:(wr.alloc (.cells #[.int .i64 fl] 3)).drew.grownBy w3 (Value.ownBlock (.slice av acc.length cv))) (hat:v'.ownBlock=Value.ownBlock (.slice av acc.length cv)\/v'.ownBlock=some (wr.alloc (.cells #[.int .i64 fl] 3)).drew.heap.size)=>H7.o.put hown' hg hat)
   clear A7 H7 HG HT1 c0;refine wp_region_held_drew (S:=(fun w'=>w'.cell? ⟨R,1,none⟩=some (.int .i64 fl))) (by kernel_rfl) c1 ?_;intro hS;refine aU (i:=0) (v:=?_) rfl ?_ hS ?_
   rotate_left
   ·intro w' hw'; have x2:=hw'; go_simp; with_reducible rfl
   refine aU (i:=1) (v:=?_) rfl ?_ hS ?_
   rotate_left
   ·intro w' hw'; have x2:=hw'; go_simp; with_reducible rfl
   refine aU (i:=2) (v:=?_) rfl ?_ hS ?_
   rotate_left
   ·intro w' hw'; have x2:=hw'; go_simp; with_reducible rfl
   refine aU (i:=3) (v:=?_) rfl ?_ hS ?_
   rotate_left
   ·intro w' hw'; have x2:=hw'; go_simp; with_reducible rfl
   refine aU (i:=5) (v:=?_) rfl ?_ hS ?_
   rotate_left
   ·intro w' hw'; have x2:=hw'; go_simp; with_reducible rfl
   refine aU (i:=6) (v:=?_) rfl ?_ hS ?_
   rotate_left
   ·intro w' hw'; have x2:=hw'; go_simp; with_reducible rfl
   refine aU (i:=7) (v:=?_) rfl ?_ hS ?_
   rotate_left
   ·intro w' hw'; have x2:=hw'; go_simp; with_reducible rfl
   refine aU (i:=8) (v:=?_) rfl ?_ hS ?_
   rotate_left
   ·intro w' hw'; have x2:=hw'; go_simp; with_reducible rfl
   refine wpAnyH_ready (rs:=[4,9]) (by kernel_rfl) (by simp) ?_;refine AllReadyH.cons rfl (fun K hK=>?_) (AllReadyH.cons rfl (fun K hK=>?_) AllReadyH.nil);go_simp;refine hK.out _ _ hS (fun hS2=>?_);clear hK K;refine wpAnyH_ready (rs:=[9]) (by kernel_rfl) (by simp) ?_
   rotate_left
   go_simp;refine hK.out _ _ SA.o (fun hS2=>?_);clear hK K;refine wpAnyH_ready (rs:=[4]) (by kernel_rfl) (by simp) ?_
   all_goals
    refine AllReadyH.cons rfl (fun K hK=>?_) AllReadyH.nil;go_simp;refine hK.out _ _ SA.o (fun je=>?_);clear hK K hS2 je;refine wpAnyH_ready (rs:=[10]) (by kernel_rfl) (by simp) ?_;refine AllReadyH.cons rfl (fun K hK=>?_) AllReadyH.nil;refine Du _ (.tmp 30) (.tmp 35) 35 rfl W0.heap.size 3 i0 (.int .i64 0) 1 8 Tryz.underlying35 hi hz0 hz1 hz2 rfl (by decide) (.slice av acc.length cv) acc.length (acc.map (Value.int .i64)) (by kernel_rfl) hA.o ⟨wr.heap.size,0,none⟩ 1 1 [.int .i64 fl] (by kernel_rfl) rfl hN.o iC.o h63.o hby.o hbs.o ?_;intro v' w3 hown' hgrow _ hat
    obtain ⟨oh,cv',rfl⟩:=yi hown';obtain ⟨⟨t1,t2⟩,t3,t4,t5,t6⟩:=STEP.o _ _ hown' hgrow hat
    have T1:=hid t1;have T2:=hid t2;have T3:Hd ((w3.setCell ⟨R,2,none⟩ (.slice oh (acc.length+1) cv')).cell? ⟨R,1,none⟩=some (.int .i64 fl)):=t1.blk.cell 1;refine hK.out _ _ t6 (fun jh=>?_);clear hK K hown' hgrow t1 t2 t6 hat
    refine aU (i:=11) (v:=?_) rfl ?_ jh ?_
    rotate_left
    ·intro w' hw'; have x2:=hw'; go_simp; with_reducible rfl
    refine aU (i:=12) (v:=?_) rfl ?_ jh ?_
    rotate_left
    ·intro w' hw'; have x2:=hw'; go_simp; with_reducible rfl
    refine wpAnyH_ready (rs:=[13]) (by kernel_rfl) (by simp) ?_;refine AllReadyH.cons rfl (fun K hK=>?_) AllReadyH.nil;go_simp;refine hK.out _ _ T3.o (fun hS5=>?_);clear hK K;refine wpAnyH_done (by kernel_rfl) ?_ _
    try simp only [sN,qc,pz,pU,gu,fZ,gq]
    clear hA hN iC h63 hby hbs c2 n2 t3 t4 t5 jh hS5 hS STEP SA T3;go_wp2
    go_roundg (gk - 1)
    case measure=>omega
    case rel=>exact ⟨acc ++ [fl],_,T1.o,RT.o.trans T2.o,EG.o,by rw [eZ,List.length_singleton]; omega,by rw [eZ,List.length_singleton]; omega⟩
  ·have EG:=hid (show Ln.jD base fl bg ws=acc from N7.o.trans (ypg hlt));have d1:decide (base+4 * (acc.length:Int) < bg)=false:=by simpa using hlt
   clear hlt N7;go_wp2
   go_quiet (fail)
   have Ii:=hid (HG.o.kept (yf (World.grownBy.refl wr none) nq));have LK:=hid (HT1.o.grown (yf (World.grownBy.refl wr none) nq));have kb:=CB.o _ Ii.o.gr;go_wp2_with fail;refine (cW.o _ Ii.o.gr).mono ?_;rintro e w' ⟨aw,cw,rfl,⟨hin,-,-⟩,hw⟩;rw [hw];clear hw w' cW kb c0 c1 c2 HG HT1 w1 w2;have HI:=hid hin;clear hin;generalize wr.drewN nq=U at *;go_wp2
   go_loopw [46] (fun i wr=>∃ (k:Nat) (qX:List Int) (v2:Value),k<=xs.length/\i = .int .i64 k/\oM W0 R base fl qX v2 wr/\uw w wr R v v2/\AT=qX ++ Ln.bn ms m ah k (xs.drop k)/\qX.length<=300090000+k) (fun i _=>xs.length - (intOf i).toNat)
   case atStart=>exact ⟨0,acc,_,Nat.zero_le _,rfl,Ii.o,LK.o,by rw [EA.o,EG.o],by omega⟩
   case round =>
    obtain ⟨k,qX,v2,hk,rfl,hra,hrt,jP,aae⟩:=hrel;obtain ⟨QJ,QO,rfl⟩:=yi hra.row;have HG:=hid hra;have HT1:=hid hrt;have HA2:=hid jP;clear hra hrt jP Ii LK;by_cases hlt:k < xs.length
    ·have g1:(k:Int) < (xs.length:Int):=by omega
     obtain ⟨sg,off,rfl,hc⟩:=HI.o (by omega);have ck:=yd (hc k hlt) HG.o.gr;clear hc;have P2:=hid (HA2.o.trans (by rw [yiD ms m ah xs k hlt]));have xr:=QE.o _ (iq hlt);have w4:IntKind.i64.wrap (4 * (k:Int))=4 * k:=IntWalk.i64_in _ ⟨by omega,by omega⟩;have w5:IntKind.i64.wrap (4 * (k:Int)+4)=4 * k+4:=IntWalk.i64_in _ ⟨by omega,by omega⟩;have VX:=hid (cA.o (4 * k) wr HG.o.gr (by omega) (by omega));have VY:=hid (cA.o (4 * k+4) wr HG.o.gr (by omega) (by omega));have Mf:=hid (cL.o (4 * k) xs[k] wr HG.o.gr xr.1 xr.2);generalize Ln.linked ms m ah (4 * k) xs[k]=y at *;generalize Ln.address m ah (4 * k)=a1 at *
     generalize Ln.address m ah (4 * k+4)=a2 at *;generalize xs[k]=x at *;go_wp2_with fail;refine VX.o.mono ?_;rintro e w' ⟨rfl,hw⟩;rw [hw];clear hw w' VX;go_wp2_with fail;refine VY.o.mono ?_;rintro e w' ⟨rfl,hw⟩;rw [hw];clear hw w' VY;by_cases hy:a1 < a2
     ·have d2:decide (a1 < a2)=true:=by simpa using hy
      have P3:=hid (show AT=(qX ++ [y]) ++ Ln.bn ms m ah (k+1) (xs.drop (k+1)) by rw [P2.o,if_pos hy]; simp);clear hy P2;go_wp2_with fail;refine Mf.o.mono ?_;rintro e W5 ⟨rfl,h5⟩;have A6:=ya h5 (aJ W5 (.cells #[.int .i64 y] 3) none);have Oa:=hid (HG.o.kept h5);have Lu:=hid (HG.o.kept A6);have HT6:=hid (HT1.o.grown A6);have c2:W5.cell? ⟨R,2,none⟩=some (.slice QJ qX.length QO):=Oa.o.blk.cell 2;clear h5 A6 Mf HG HT1 ck;go_wp2_with (at_builtin; refine wpList_append_own_at _ rfl _ _ 35 rfl W0.heap.size 3 i0 (.int .i64 0) 1 8 Tryz.underlying35 hi hz0 hz1 hz2 rfl (by decide) _ _ _ rfl Lu.o.row ⟨W5.heap.size,0,none⟩ 1 1 [.int .i64 y] rfl rfl (cell_one_new _ _ _) (by intro u hu; simp at hu; subst hu; rfl) (by unfold maxLen; omega) (by omega) Lu.o.gr.size ?_; intro v' w3 hown' hgrow _ hat; obtain ⟨oh,cv',rfl⟩:=yi hown'; obtain ⟨⟨t1,t2⟩,t3,t4,t5,t6⟩:=Lu.o.put hown' hgrow hat; have T1:=hid t1; have T2:=hid (HT6.o.trans t2); clear hown' hgrow hat t1 t2 t3 t6)
      go_roundw
      case rel=>exact ⟨k+1,qX ++ [y],_,by omega,by go_num,T1.o,T2.o,P3.o,by rw [eZ,List.length_singleton]; omega⟩
      case measure=>simp [intOf]; omega
     ·have d2:decide (a1 < a2)=false:=by simpa using hy
      have P3:=hid (show AT=qX ++ Ln.bn ms m ah (k+1) (xs.drop (k+1)) by rw [P2.o,if_neg hy]);clear hy P2;go_wp2
      go_roundw
      case rel=>exact ⟨k+1,qX,_,by omega,by go_num,HG.o,HT1.o,P3.o,by omega⟩
      case measure=>simp [intOf]; omega
    ·obtain rfl:k=xs.length:=by omega
     have g3:decide ((xs.length:Int) < (xs.length:Int))=false:=by simp
     have P2:=hid (show AT=qX by rw [HA2.o,List.drop_length]; simp [Ln.bn]);go_wp2
     go_end0
     rw [P2.o];exact ⟨rfl,_,HG.o,HT1.o⟩
namespace Ln
def image (ms:List Mod) (st:gM) (bt bf bd no:Int):Im.dZ:=⟨cZ ms st,bt,bf,bd,region ms 1 bt 19 ms [],region ms 2 bf 19 ms [],region ms 3 bd 0 ms [],no⟩
end Ln
theorem Tn (ms:List Ln.Mod) (ah base fl:Int):∀ (l:List Ln.Mod) (k:Nat) (ws:List Int) (h:k < l.length),Ln.region ms ah base fl (l.take (k+1)) ws=Ln.lK ms l[k] ah base fl (Ln.region ms ah base fl (l.take k) ws):=by
 intro l
 induction l with
 | nil=>intro k ws h; simp at h
 | cons m l ih =>
  intro k ws h
  cases k with
  | zero=>rfl
  | succ k =>
   simp only [jm] at h;rw [List.take_succ_cons,List.take_succ_cons];unfold Ln.region;exact ih k _ (by omega)
theorem yoM {m:Ln.Mod} (ms:List Ln.Mod) (hv:yv m.obj) (ah base fl:Int) (ws:List Int) (hb:0<=base) (ha:Ln.address m ah 0<=1200100000) (k:Nat) (h:ws.length<=300025001+1200 * k):(Ln.lK ms m ah base fl ws).length<=300025001+1200 * (k+1):=by
 have a:=yjj ms m ah (yx m.obj ah) 0;have b:=O1 hv ah;unfold Ln.lK;rw [eZ,Uf];omega
def Gs (u v:Value):Prop:=∀ k,u.ownBlock=some k->v.ownBlock≠some k
theorem Gs.symm {u v:Value} (h:Gs u v):Gs v u:=fun k e c=>h k c e
structure kE (W0:World) (R1 R2 R3:Nat) (b1 f1 b2 f2 b3 f3:Int) (l1 l2 l3:List Int) (v1 v2 v3:Value) (W:World):Prop where
 a:oM W0 R1 b1 f1 l1 v1 W
 b:oM W0 R2 b2 f2 l2 v2 W
 c:oM W0 R3 b3 f3 l3 v3 W
 n12:R1≠R2
 n13:R1≠R3
 n23:R2≠R3
 Ap:Gs v1 v2
 MW:Gs v1 v3
 MX:Gs v2 v3
section
variable {W0 W W':World} {R1 R2 R3:Nat} {b1 f1 b2 f2 b3 f3:Int} {l1 l2 l3 l':List Int} {v1 v2 v3 v':Value}
theorem kE.kept (h:kE W0 R1 R2 R3 b1 f1 b2 f2 b3 f3 l1 l2 l3 v1 v2 v3 W) (hg:W.grownBy W' none):kE W0 R1 R2 R3 b1 f1 b2 f2 b3 f3 l1 l2 l3 v1 v2 v3 W' :=
 ⟨h.a.kept hg,h.b.kept hg,h.c.kept hg,h.n12,h.n13,h.n23,h.Ap,h.MW,h.MX⟩
theorem kE.one (h:kE W0 R1 R2 R3 b1 f1 b2 f2 b3 f3 l1 l2 l3 v1 v2 v3 W) (g:oM W0 R1 b1 f1 l' v' W') (t:uw W W' R1 v1 v'):kE W0 R1 R2 R3 b1 f1 b2 f2 b3 f3 l' l2 l3 v' v2 v3 W':=by
 obtain ⟨x1,x2⟩:=h.b.other h.a t g.gr h.n12.symm h.Ap.symm;obtain ⟨y1,y2⟩:=h.c.other h.a t g.gr h.n13.symm h.MW.symm;exact ⟨g,x1,y1,h.n12,h.n13,h.n23,Gs.symm x2,Gs.symm y2,h.MX⟩
theorem kE.two (h:kE W0 R1 R2 R3 b1 f1 b2 f2 b3 f3 l1 l2 l3 v1 v2 v3 W) (g:oM W0 R2 b2 f2 l' v' W') (t:uw W W' R2 v2 v'):kE W0 R1 R2 R3 b1 f1 b2 f2 b3 f3 l1 l' l3 v1 v' v3 W':=by
 obtain ⟨x1,x2⟩:=h.a.other h.b t g.gr h.n12 h.Ap;obtain ⟨y1,y2⟩:=h.c.other h.b t g.gr h.n23.symm h.MX.symm;exact ⟨x1,g,y1,h.n12,h.n13,h.n23,x2,h.MW,Gs.symm y2⟩
theorem kE.three (h:kE W0 R1 R2 R3 b1 f1 b2 f2 b3 f3 l1 l2 l3 v1 v2 v3 W) (g:oM W0 R3 b3 f3 l' v' W') (t:uw W W' R3 v3 v'):kE W0 R1 R2 R3 b1 f1 b2 f2 b3 f3 l1 l2 l' v1 v2 v' W':=by
 obtain ⟨x1,x2⟩:=h.a.other h.c t g.gr h.n13 h.MW;obtain ⟨y1,y2⟩:=h.b.other h.c t g.gr h.n23 h.MX;exact ⟨x1,y1,g,h.n12,h.n13,h.n23,h.Ap,x2,y2⟩
end
theorem oM.img {W0 W:World} {R I o:Nat} {base fl:Int} {ws:List Int} {v u:Value} {cs:Array Value} (h:oM W0 R base fl ws v W) (hb:yc W I cs 90) (hI:W0.heap.size<=I):oM W0 R base fl ws v (W.setCell ⟨I,o,none⟩ u):=by
 have gs:=ye W I o u;exact ⟨yO h.gr gs (by intro k e; simp at e; omega),h.lo,yF h.blk gs (bR.blk hb) (by decide),yA h.row gs (bR.blk hb) (by decide)⟩
theorem kE.img {W0 W:World} {R1 R2 R3 I o:Nat} {b1 f1 b2 f2 b3 f3:Int} {l1 l2 l3:List Int} {v1 v2 v3 u:Value} {cs:Array Value} (h:kE W0 R1 R2 R3 b1 f1 b2 f2 b3 f3 l1 l2 l3 v1 v2 v3 W) (hb:yc W I cs 90) (hI:W0.heap.size<=I):kE W0 R1 R2 R3 b1 f1 b2 f2 b3 f3 l1 l2 l3 v1 v2 v3 (W.setCell ⟨I,o,none⟩ u) :=
 ⟨h.a.img hb hI,h.b.img hb hI,h.c.img hb hI,h.n12,h.n13,h.n23,h.Ap,h.MW,h.MX⟩
theorem ypL (W:World) (bt bf bd:Int):kE W W.heap.size (W.heap.size+1) (W.heap.size+2) bt 19 bf 19 bd 0 [] [] [] (.slice none 0 0) (.slice none 0 0) (.slice none 0 0) (((W.alloc (.cells #[.int .i64 bt,.int .i64 19,.slice none 0 0] 134)).alloc (.cells #[.int .i64 bf,.int .i64 19,.slice none 0 0] 134)).alloc (.cells #[.int .i64 bd,.int .i64 0,.slice none 0 0] 134)):=by
 have s1:(W.alloc (.cells #[.int .i64 bt,.int .i64 19,.slice none 0 0] 134)).heap.size=W.heap.size+1:=Array.size_push _;have s2:((W.alloc (.cells #[.int .i64 bt,.int .i64 19,.slice none 0 0] 134)).alloc (.cells #[.int .i64 bf,.int .i64 19,.slice none 0 0] 134)).heap.size=W.heap.size+2:=by
  rw [show ((W.alloc (.cells #[.int .i64 bt,.int .i64 19,.slice none 0 0] 134)).alloc (.cells #[.int .i64 bf,.int .i64 19,.slice none 0 0] 134)).heap.size=(W.alloc (.cells #[.int .i64 bt,.int .i64 19,.slice none 0 0] 134)).heap.size+1 from Array.size_push _,s1]
 have g1:=aJ W (.cells #[.int .i64 bt,.int .i64 19,.slice none 0 0] 134) none;have g2:=aJ (W.alloc (.cells #[.int .i64 bt,.int .i64 19,.slice none 0 0] 134)) (.cells #[.int .i64 bf,.int .i64 19,.slice none 0 0] 134) none;have g3:=aJ ((W.alloc (.cells #[.int .i64 bt,.int .i64 19,.slice none 0 0] 134)).alloc (.cells #[.int .i64 bf,.int .i64 19,.slice none 0 0] 134)) (.cells #[.int .i64 bd,.int .i64 0,.slice none 0 0] 134) none;have x1:=yc.new W #[.int .i64 bt,.int .i64 19,.slice none 0 0] 134;have x2:=yc.new (W.alloc (.cells #[.int .i64 bt,.int .i64 19,.slice none 0 0] 134)) #[.int .i64 bf,.int .i64 19,.slice none 0 0] 134
 have x3:=yc.new ((W.alloc (.cells #[.int .i64 bt,.int .i64 19,.slice none 0 0] 134)).alloc (.cells #[.int .i64 bf,.int .i64 19,.slice none 0 0] 134)) #[.int .i64 bd,.int .i64 0,.slice none 0 0] 134;rw [s1] at x2;rw [s2] at x3;have G:=ya (ya g1 g2) g3;refine ⟨⟨G,Nat.le_refl _,(x1.grown g2 (by simp)).grown g3 (by simp),World.ownsRow_nil _ _ _ _⟩,⟨G,by omega,x2.grown g3 (by simp),World.ownsRow_nil _ _ _ _⟩,⟨G,by omega,x3,World.ownsRow_nil _ _ _ _⟩,by omega,by omega,by omega,?_,?_,?_⟩
 all_goals (intro k e; simp [Value.ownBlock] at e)
theorem ynF (W0:World) (P:Nat) (bt bf bd:Int) (vm:Value) (bl gl:List Nat) (ms:List Ln.Mod) (st:Ln.gM) (no:Int) (W:World) (ht:dQ W) (h:ProgAt W0 P bt bf bd vm bl gl ms st no W) (hn:∀ m∈ms,yI bl.length m) (hv:∀ m∈ms,yv m.obj) (hlow:∀ m∈ms,ql m) (G8:∀ m∈ms,∀ s∈m.means,mK s) (hst:Qo bl.length st) (MB:bl.length<=48)
  (hbt:0<=bt/\bt<=1073741824) (hbf:0<=bf/\bf<=1073741824) (hbd:0<=bd/\bd<=1073741824) :
  Calls Tryz.prog 40 #[aW P] W fun e W'=>∃ I,e = .returned (aW I)/\mQ W' I (Ln.image ms st bt bf bd no)/\W.grownBy W' none:=by
 obtain ⟨am,cm,rfl⟩:=yi h.row;have HP:=hid h;have RN:=hid (ypL W bt bf bd);have MA:=hid (h.wZ hn);have LO:=hid h.gK;have cX:=hid (fun (k:Nat) (hk:k < ms.length) (b g:Nat) (hm:yD W bl b g ms[k]) (ah:Int) (R:Nat) (base fl:Int) (ws:List Int) (v:Value) (w:World) (hr:oM W R base fl ws v w) (hb0:0<=base) (hb1:base<=1200000000) (hl:ws.length<=300090000)=>yqi W bl ms b g ms[k] ah R base fl ws v w ht MA.o hm (hn _ (iq hk)) (hv _ (iq hk)) (ykp hlow ms[k] (G8 _ (iq hk)) (hlow _ (iq hk)) (hv _ (iq hk))) hr hb0 hb1 hl (Pj (hlow _ (iq hk)) ah 0 (by omega) (by omega)).2);have LE:=hid (fun (k:Nat) (hk:k < ms.length) (ah base fl:Int) (ws:List Int) (hb:0<=base) (h:ws.length<=300025001+1200 * k)=>yoM ms (hv _ (iq hk)) ah base fl ws hb (Pj (hlow _ (iq hk)) ah 0 (by omega) (by omega)).2 k h)
 have Wo:=hid (fun V (hg:W.grownBy V none)=>Xf bl ms st V (MA.o.kept hg) hst);have c0:W.cell? ⟨P,0,none⟩=some (.int .i64 bt):=h.blk.cell 0;have c1:W.cell? ⟨P,1,none⟩=some (.int .i64 bf):=h.blk.cell 1;have c2:W.cell? ⟨P,2,none⟩=some (.int .i64 bd):=h.blk.cell 2;have c3:W.cell? ⟨P,3,none⟩=some (.slice am bl.length cm):=h.blk.cell 3;have g1:=aJ W (.cells #[.int .i64 bt,.int .i64 19,.slice none 0 0] 134) none;have g2:=aJ (W.alloc (.cells #[.int .i64 bt,.int .i64 19,.slice none 0 0] 134)) (.cells #[.int .i64 bf,.int .i64 19,.slice none 0 0] 134) none;have g3:=aJ ((W.alloc (.cells #[.int .i64 bt,.int .i64 19,.slice none 0 0] 134)).alloc (.cells #[.int .i64 bf,.int .i64 19,.slice none 0 0] 134)) (.cells #[.int .i64 bd,.int .i64 0,.slice none 0 0] 134) none
 have C1:=hid (yd c1 g1);have C2:=hid (yd c2 (ya g1 g2));have C3:=hid (yd c3 (ya (ya g1 g2) g3));have s1:(W.alloc (.cells #[.int .i64 bt,.int .i64 19,.slice none 0 0] 134)).heap.size=W.heap.size+1:=Array.size_push _;have s2:((W.alloc (.cells #[.int .i64 bt,.int .i64 19,.slice none 0 0] 134)).alloc (.cells #[.int .i64 bf,.int .i64 19,.slice none 0 0] 134)).heap.size=W.heap.size+2:=by
  rw [show ((W.alloc (.cells #[.int .i64 bt,.int .i64 19,.slice none 0 0] 134)).alloc (.cells #[.int .i64 bf,.int .i64 19,.slice none 0 0] 134)).heap.size=(W.alloc (.cells #[.int .i64 bt,.int .i64 19,.slice none 0 0] 134)).heap.size+1 from Array.size_push _,s1]
 clear h hn hv hlow G8 hst ht g1 g2 g3 c1 c2 c3;unfold aW at *;go_enter Tryz.func40,Tryz.ntmps40
 go_upto_region 2 with fail
 clear c0;generalize W.alloc (.cells #[.int .i64 bt,.int .i64 19,.slice none 0 0] 134)=W1 at *;have c1:=C1.o;clear C1
 go_upto_region 3 with fail
 clear c1;generalize W1.alloc (.cells #[.int .i64 bf,.int .i64 19,.slice none 0 0] 134)=W2 at *;have c2:=C2.o;clear C2
 go_upto_region 4 with fail
 clear c2;generalize W2.alloc (.cells #[.int .i64 bd,.int .i64 0,.slice none 0 0] 134)=W3 at *;have c3:=C3.o;go_wp2;clear c3 C3 s1 s2;generalize WA:W.heap.size=R1 at *;generalize hR2:R1+1=R2 at *;generalize hR3:R1+2=R3 at *;clear WA hR2 hR3
 go_loopw [32] (fun i wr=>∃ (k:Nat) (l1 l2 l3:List Int) (v1 v2 v3:Value),k<=bl.length/\i = .int .i64 k/\kE W R1 R2 R3 bt 19 bf 19 bd 0 l1 l2 l3 v1 v2 v3 wr/\l1=Ln.region ms 1 bt 19 (ms.take k) []/\l2=Ln.region ms 2 bf 19 (ms.take k) []/\l3=Ln.region ms 3 bd 0 (ms.take k) []/\(l1.length<=300025001+1200 * k/\l2.length<=300025001+1200 * k/\l3.length<=300025001+1200 * k)) (fun i _=>bl.length - (intOf i).toNat)
 case atStart=>exact ⟨0,[],[],[],_,_,_,Nat.zero_le _,rfl,RN.o,rfl,rfl,rfl,by simp,by simp,by simp⟩
 case round =>
  obtain ⟨k,l1,l2,l3,v1,v2,v3,hk,rfl,hrs,e1,e2,e3,hl1,hl2,hl3⟩:=hrel;have HR:=hid hrs;have E1:=hid e1;have E2:=hid e2;have E3:=hid e3;clear hrs e1 e2 e3 RN;by_cases hlt:k < bl.length
  ·have hko:k < ms.length:=by rw [LO.o]; exact hlt
   have hkg:k < gl.length:=by rw [HP.o.iQ]; exact hlt
   obtain ⟨sg,off,hsg,hsc⟩:=HP.o.jk.ptrs (by omega);have ck:=yd (hsc k hlt) HR.o.a.gr;have HM:yD W bl bl[k] (gl[k]'hkg) ms[k]:=HP.o.mods k hlt;have g1:(k:Int) < (bl.length:Int):=by omega
   have T1:=hid (Tn ms 1 bt 19 ms k [] hko);have T2:=hid (Tn ms 2 bf 19 ms k [] hko);have T3:=hid (Tn ms 3 bd 0 ms k [] hko);have L1:=LE.o k hko 1 bt 19 l1 (by omega) hl1;have L2:=LE.o k hko 2 bf 19 l2 (by omega) hl2;have L3:=LE.o k hko 3 bd 0 l3 (by omega) hl3;have cY:=hid (fun ah R base fl ws v w hr hb0 hb1 hl=>cX.o k hko bl[k] (gl[k]'hkg) HM ah R base fl ws v w hr hb0 hb1 hl);rw [<- E1.o] at T1;rw [<- E2.o] at T2;rw [<- E3.o] at T3;subst hsg;clear hsc HM;generalize ms[k]=m at *;generalize hbk:bl[k]=bk at *;clear hbk;unfold aW at *;go_wp2_with fail;refine (cY.o 1 R1 bt 19 l1 v1 wr HR.o.a (by omega) (by omega) (by omega)).mono ?_
   rintro e U1 ⟨rfl,u1,ra,rt⟩;have HR1:=hid (HR.o.one ra rt);clear ra rt HR ck;go_wp2_with fail;refine (cY.o 2 R2 bf 19 l2 v2 U1 HR1.o.b (by omega) (by omega) (by omega)).mono ?_;rintro e U2 ⟨rfl,u2,ra,rt⟩;have HR2:=hid (HR1.o.two ra rt);clear ra rt HR1;go_wp2_with fail;refine (cY.o 3 R3 bd 0 l3 v3 U2 HR2.o.c (by omega) (by omega) (by omega)).mono ?_;rintro e U3 ⟨rfl,u3,ra,rt⟩;have HR3:=hid (HR2.o.three ra rt);clear ra rt HR2;go_wp2
   go_roundw
   case rel=>exact ⟨k+1,_,_,_,_,_,_,by omega,by go_num,HR3.o,T1.o.symm,T2.o.symm,T3.o.symm,L1,L2,L3⟩
   case measure=>simp [intOf]; omega
  ·obtain rfl:k=bl.length:=by omega
   have g3:decide ((bl.length:Int) < (bl.length:Int))=false:=by simp
   rw [List.take_of_length_le (by rw [LO.o]; exact Nat.le_refl _)] at E1 E2 E3;have BP:=hid (HP.o.blk.grown HR.o.a.gr (by simp));have FIN:=hid (show Ln.image ms st bt bf bd no=⟨Ln.cZ ms st,bt,bf,bd,l1,l2,l3,no⟩ by rw [E1.o,E2.o,E3.o]; rfl);obtain ⟨sm,ss,so⟩:=st;unfold oL at Wo;dsimp only at *;generalize Ln.cZ ms ⟨sm,ss,so⟩=sa at *;generalize nH bl sm=q at *;have c0:wr.cell? ⟨P,0,none⟩=some (.int .i64 bt):=BP.o.cell 0;have c1:wr.cell? ⟨P,1,none⟩=some (.int .i64 bf):=BP.o.cell 1;have c2:wr.cell? ⟨P,2,none⟩=some (.int .i64 bd):=BP.o.cell 2;have c4:wr.cell? ⟨P,4,none⟩=some (.pointer q):=BP.o.cell 4
   have c5:wr.cell? ⟨P,5,none⟩=some (.int .i64 ss):=BP.o.cell 5;have c6:wr.cell? ⟨P,6,none⟩=some (.int .i64 so):=BP.o.cell 6;have c7:wr.cell? ⟨P,7,none⟩=some (.int .i64 no):=BP.o.cell 7;have KD:=hid (fun W2 (hq:wr.drew.grownBy W2 none)=>show W2.cell? ⟨P,0,none⟩=some (.int .i64 bt)/\W2.cell? ⟨P,1,none⟩=some (.int .i64 bf)/\W2.cell? ⟨P,2,none⟩=some (.int .i64 bd)/\W2.cell? ⟨P,4,none⟩=some (.pointer q)/\W2.cell? ⟨P,5,none⟩=some (.int .i64 ss)/\W2.cell? ⟨P,6,none⟩=some (.int .i64 so)/\W2.cell? ⟨P,7,none⟩=some (.int .i64 no) from (fun (b:yc W2 P _ 125)=>⟨b.cell 0,b.cell 1,b.cell 2,b.cell 4,b.cell 5,b.cell 6,b.cell 7⟩) ((uo BP.o).grown hq (by simp)))
   go_wp2
   go_region_held3 (fun w'=>w'.cell? ⟨P,0,none⟩=some (.int .i64 bt)/\w'.cell? ⟨P,1,none⟩=some (.int .i64 bf)/\w'.cell? ⟨P,2,none⟩=some (.int .i64 bd)/\w'.cell? ⟨P,4,none⟩=some (.pointer q)/\w'.cell? ⟨P,5,none⟩=some (.int .i64 ss)/\w'.cell? ⟨P,6,none⟩=some (.int .i64 so)/\w'.cell? ⟨P,7,none⟩=some (.int .i64 no))
    (go_keep)
    (first | (go_at_call 73; refine (Wo.o _ (yh HR.o.a.gr)).mono ?_; rintro e w' ⟨rfl,hq⟩; obtain ⟨s0,s1,s2,s4,s5,s6,s7⟩:=KD.o _ hq))
   have GA:=ya (ya (yh (World.grownBy.refl wr none)) hq) (aJ w' (.cells #[.int .i64 sa,.int .i64 bt,.int .i64 bf,.int .i64 bd,.slice none 0 0,.slice none 0 0,.slice none 0 0,.int .i64 no] 90) none);have H6:=hid (HR.o.kept GA);have B6:=hid (yc.new w' #[.int .i64 sa,.int .i64 bt,.int .i64 bf,.int .i64 bd,.slice none 0 0,.slice none 0 0,.slice none 0 0,.int .i64 no] 90);have hI:=hid (show W.heap.size<=w'.heap.size from Nat.le_trans HR.o.a.gr.size (ya (yh (World.grownBy.refl wr none)) hq).size);clear GA hq HR KD BP c0 c1 c2 c4 c5 c6 c7 s0 s1 s2 s4 s5 s6 s7;generalize w'.alloc (.cells #[.int .i64 sa,.int .i64 bt,.int .i64 bf,.int .i64 bd,.slice none 0 0,.slice none 0 0,.slice none 0 0,.int .i64 no] 90)=W6 at *
   generalize w'.heap.size=I at *;obtain ⟨a1,k1,rfl⟩:=yi H6.o.a.row;obtain ⟨a2,k2,rfl⟩:=yi H6.o.b.row;obtain ⟨a3,k3,rfl⟩:=yi H6.o.c.row;have B7:=hid (show yc (W6.setCell ⟨I,4,none⟩ (.slice a1 l1.length k1)) I #[.int .i64 sa,.int .i64 bt,.int .i64 bf,.int .i64 bd,.slice a1 l1.length k1,.slice none 0 0,.slice none 0 0,.int .i64 no] 90 by simpa using B6.o.set 4 (.slice a1 l1.length k1));have H7:=hid (show kE W R1 R2 R3 bt 19 bf 19 bd 0 l1 l2 l3 _ _ _ (W6.setCell ⟨I,4,none⟩ (.slice a1 l1.length k1)) from H6.o.img B6.o hI.o);have B8:=hid (show yc ((W6.setCell ⟨I,4,none⟩ (.slice a1 l1.length k1)).setCell ⟨I,5,none⟩ (.slice a2 l2.length k2)) I #[.int .i64 sa,.int .i64 bt,.int .i64 bf,.int .i64 bd,.slice a1 l1.length k1,.slice a2 l2.length k2,.slice none 0 0,.int .i64 no] 90 by simpa using B7.o.set 5 (.slice a2 l2.length k2))
   have H8:=hid (show kE W R1 R2 R3 bt 19 bf 19 bd 0 l1 l2 l3 _ _ _ ((W6.setCell ⟨I,4,none⟩ (.slice a1 l1.length k1)).setCell ⟨I,5,none⟩ (.slice a2 l2.length k2)) from H7.o.img B7.o hI.o);have r1:W6.cell? ⟨R1,2,none⟩=some (.slice a1 l1.length k1):=H6.o.a.blk.cell 2;have i4:W6.cell? ⟨I,4,none⟩=some (.slice none 0 0):=B6.o.cell 4;have f4:W6.frozen? ⟨I,4,none⟩=false:=B6.o.free 4
   go_upto_region 13 with fail
   clear r1 i4 f4 H6 B6;generalize W6.setCell ⟨I,4,none⟩ (.slice a1 l1.length k1)=W7 at *;have r1:W7.cell? ⟨R2,2,none⟩=some (.slice a2 l2.length k2):=H7.o.b.blk.cell 2;have i4:W7.cell? ⟨I,5,none⟩=some (.slice none 0 0):=B7.o.cell 5;have f4:W7.frozen? ⟨I,5,none⟩=false:=B7.o.free 5
   go_upto_region 14 with fail
   clear r1 i4 f4 H7 B7;generalize W7.setCell ⟨I,5,none⟩ (.slice a2 l2.length k2)=W8 at *;have B9:=hid (show yc (W8.setCell ⟨I,6,none⟩ (.slice a3 l3.length k3)) I #[.int .i64 sa,.int .i64 bt,.int .i64 bf,.int .i64 bd,.slice a1 l1.length k1,.slice a2 l2.length k2,.slice a3 l3.length k3,.int .i64 no] 90 by simpa using B8.o.set 6 (.slice a3 l3.length k3));have H9:=hid (show kE W R1 R2 R3 bt 19 bf 19 bd 0 l1 l2 l3 _ _ _ (W8.setCell ⟨I,6,none⟩ (.slice a3 l3.length k3)) from H8.o.img B8.o hI.o);have r1:W8.cell? ⟨R3,2,none⟩=some (.slice a3 l3.length k3):=H8.o.c.blk.cell 2;have i4:W8.cell? ⟨I,6,none⟩=some (.slice none 0 0):=B8.o.cell 6
   have f4:W8.frozen? ⟨I,6,none⟩=false:=B8.o.free 6;go_wp2;clear r1 i4 f4 H8 B8;generalize W8.setCell ⟨I,6,none⟩ (.slice a3 l3.length k3)=W9 at *;go_ret;refine ⟨I,rfl,?_,H9.o.a.gr⟩;rw [FIN.o];exact ⟨_,_,_,B9.o,JN H9.o.a.row,JN H9.o.b.row,JN H9.o.c.row⟩
namespace Ln
def iG (kind d:Int):Bool:=if kind=2 then decide (-4096<=d) && decide (d<=4095) else if kind=3 then decide (-1048576<=d) && decide (d<=1048575) else true
def jH (o:Lk.Obj) (i:Int):List UInt8:=if i < 0 then [] else match o.syms[i.toNat]? with
 | none=>[]
 | some y=>y.name
def iZ (ms:List Mod) (m:Mod) (i:Nat):List Lk.Rel->Option qN
 | []=>none
 | r :: rs=>if iG r.kind (distance ms m r) then iZ ms m i rs else some ⟨37,i,jH m.obj r.sym⟩
def nN (ms:List Mod):Nat->List Mod->qN
 | _,[]=>ok
 | i,m :: r=>match iZ ms m i m.obj.aj with
  | some f=>f
  | none=>nN ms (i+1) r
def eO (ms:List Mod):qN:=nN ms 0 ms
end Ln
theorem ykk (ms:List Ln.Mod) (m:Ln.Mod) (i:Nat) (rs:List Lk.Rel) (j:Nat) (h:j < rs.length):Ln.iZ ms m i (rs.drop j)=if Ln.iG rs[j].kind (Ln.distance ms m rs[j]) then Ln.iZ ms m i (rs.drop (j+1)) else some ⟨37,i,Ln.jH m.obj rs[j].sym⟩:=by
 rw [lV h];rfl
theorem ykj (ms l:List Ln.Mod) (k:Nat) (h:k < l.length):Ln.nN ms k (l.drop k)=match Ln.iZ ms l[k] k l[k].obj.aj with
  | some f=>f
  | none=>Ln.nN ms (k+1) (l.drop (k+1)):=by
 rw [lV h];rfl
theorem ylt (kind d:Int) (w:World) :
  Calls Tryz.prog 113 #[.int .i64 kind,.int .i64 d] w fun e w'=>e = .returned (.bool (Ln.iG kind d))/\w'=w:=by
 have R:=hid (show Ln.iG kind d=if kind=2 then decide (-4096<=d) && decide (d<=4095) else if kind=3 then decide (-1048576<=d) && decide (d<=1048575) else true from rfl);by_cases e2:kind=2
 ·subst e2;by_cases a:-4096<=d
  ·have d1:decide (-4096<=d)=true:=by simpa using a
   have E:=hid (show Ln.iG 2 d=decide (d<=4095) by rw [R.o]; simp [a]);clear a;go_enter Tryz.func113,Tryz.ntmps113;go_wp2;go_ret;exact ⟨by rw [E.o]; rfl,rfl⟩
  ·have d1:decide (-4096<=d)=false:=by simpa using a
   have E:=hid (show Ln.iG 2 d=false by rw [R.o]; simp [a]);clear a;go_enter Tryz.func113,Tryz.ntmps113;go_wp2;go_ret;exact ⟨by rw [E.o]; rfl,rfl⟩
 ·by_cases e3:kind=3
  ·subst e3;clear e2;by_cases a:-1048576<=d
   ·have d1:decide (-1048576<=d)=true:=by simpa using a
    have E:=hid (show Ln.iG 3 d=decide (d<=1048575) by rw [R.o]; simp [a]);clear a;go_enter Tryz.func113,Tryz.ntmps113;go_wp2;go_ret;exact ⟨by rw [E.o]; rfl,rfl⟩
   ·have d1:decide (-1048576<=d)=false:=by simpa using a
    have E:=hid (show Ln.iG 3 d=false by rw [R.o]; simp [a]);clear a;go_enter Tryz.func113,Tryz.ntmps113;go_wp2;go_ret;exact ⟨by rw [E.o]; rfl,rfl⟩
  ·have E:=hid (show Ln.iG kind d=true by rw [R.o,if_neg e2,if_neg e3]);have d2:(kind == 2)=false:=by simpa using e2
   have d3:(kind == 3)=false:=by simpa using e3
   clear e2 e3;go_enter Tryz.func113,Tryz.ntmps113;go_wp2;go_ret;exact ⟨by rw [E.o]; rfl,rfl⟩
theorem yid (bl:List Nat) (b g:Nat) (m:Ln.Mod) (i:Int) (w:World) (h:yD w bl b g m) (hs:m.obj.syms.length<=65535) :
  Calls Tryz.prog 114 #[aW b,.int .i64 i] w fun e w'=>e = .returned (.string (bs (Ln.jH m.obj i)))/\w'=w:=by
 obtain ⟨v1,v2,v3,v4,q0,q1,-⟩:=h;obtain ⟨at_,ct,af,cf,ad,cd,aa,ca,gy,cs,ar,cr,hb,-,-,-,-,p5,-⟩:=q1.open;have S:=nZ.aO p5;have k5:=hb.cell 5;simp only [bI,bN,bK] at k5;have k0:w.cell? ⟨b,0,none⟩=some (.pointer (some ⟨g,0,none⟩)):=q0.cell 0;clear q0 q1 hb p5;have R:=hid (show Ln.jH m.obj i=if i < 0 then [] else match m.obj.syms[i.toNat]? with
  | none=>[]
  | some y=>y.name from rfl)
 generalize m.obj.syms=ys at *;unfold aW;by_cases h0:i < 0
 ·have d0:decide (i < 0)=true:=by simpa using h0
  have E:=hid (show Ln.jH m.obj i=[] by rw [R.o,if_pos h0]);clear h0;go_enter Tryz.func114,Tryz.ntmps114;go_wp2;go_ret;exact ⟨by rw [E.o]; rfl,rfl⟩
 ·obtain ⟨k,rfl⟩:∃ k:Nat,i=(k:Int):=⟨i.toNat,by omega⟩
  have d0:decide ((k:Int) < 0)=false:=by simp
  clear h0;by_cases hlt:k < ys.length
  ·have d1:decide ((ys.length:Int)<=(k:Int))=false:=by simp; omega
   obtain ⟨sg,hsg,hgs,hcs⟩:=S (by omega);subst hsg;obtain ⟨q0,q1,q2,q3⟩:=hcs k hlt;clear hcs;have E:=hid (show Ln.jH m.obj k=ys[k].name by rw [R.o,if_neg (by omega),Int.toNat_natCast,j3 hlt]);generalize ys[k]=y at *;go_enter Tryz.func114,Tryz.ntmps114;go_wp2;go_ret;exact ⟨by rw [E.o]; rfl,rfl⟩
  ·have d1:decide ((ys.length:Int)<=(k:Int))=true:=by simp; omega
   have E:=hid (show Ln.jH m.obj k=[] by rw [R.o,if_neg (by omega),Int.toNat_natCast,List.getElem?_eq_none (by omega)]);go_enter Tryz.func114,Tryz.ntmps114;go_wp2;go_ret;exact ⟨by rw [E.o]; rfl,rfl⟩
theorem yhK (W0:World) (P:Nat) (bt bf bd:Int) (vm:Value) (bl gl:List Nat) (ms:List Ln.Mod) (st:Ln.gM) (no:Int) (W:World) (h:ProgAt W0 P bt bf bd vm bl gl ms st no W) (hn:∀ m∈ms,yI bl.length m) :
  Calls Tryz.prog 75 #[aW P] W fun e W'=>e = .returned (fQ (Ln.eO ms))/\W.grownBy W' none:=by
 obtain ⟨am,cm,rfl⟩:=yi h.row;have HP:=hid h;have c3:W.cell? ⟨P,3,none⟩=some (.slice am bl.length cm):=h.blk.cell 3;have hbl:=h.few;have LO:=hid h.gK;have HN:=hid hn;have G0:=hid (aJ W (.cells #[.int .i64 0,.int .i64 0,.string ⟨#[]⟩] 45) none);have B0:=hid (yc.new W #[.int .i64 0,.int .i64 0,.string ⟨#[]⟩] 45);have c3':=yd c3 G0.o;clear h hn c3;unfold aW;go_enter Tryz.func75,Tryz.ntmps75;go_wp2;generalize W.alloc (.cells #[.int .i64 0,.int .i64 0,.string ⟨#[]⟩] 45)=W1 at *;clear c3'
 go_loopw [12] (fun i wr=>∃ k:Nat,k<=bl.length/\i = .int .i64 k/\Ln.eO ms=Ln.nN ms k (ms.drop k)/\W1.grownBy wr none) (fun i _=>bl.length - (intOf i).toNat)
 case atStart=>exact ⟨0,Nat.zero_le _,rfl,rfl,World.grownBy.refl _ _⟩
 case round =>
  obtain ⟨k,hk,rfl,hf,hgr⟩:=hrel;have HF:=hid hf;have HG:=hid hgr;clear hf hgr;by_cases hlt:k < bl.length
  ·have hko:k < ms.length:=by rw [LO.o]; exact hlt
   have hkg:k < gl.length:=by rw [HP.o.iQ]; exact hlt
   have PR:=HP.o.kept (ya G0.o HG.o);obtain ⟨sg,off,hsg,hsc⟩:=PR.jk.ptrs (by omega);have ck:=hsc k hlt;have HM:yD wr bl bl[k] (gl[k]'hkg) ms[k]:=PR.mods k hlt;have MN:=HN.o _ (iq hko);have MA:=hid (PR.wZ HN.o);have Vj:=hid HM;obtain ⟨v1,v2,v3,v4,q0,q1,-⟩:=HM;obtain ⟨at_,ct,af,cf,ad,cd,aa,ca,gy,cs,ar,cr,hb,-,-,-,-,-,p6⟩:=q1.open;have S:=hid (DN.aO p6);have k6:=hb.cell 6;simp only [bI,bN,bK] at k6;have k0:wr.cell? ⟨bl[k],0,none⟩=some (.pointer (some ⟨gl[k]'hkg,0,none⟩)):=q0.cell 0;have hrl:=MN.aj.1;have hsy:=HP.o.syms _ (iq hko);have FD:=hid (ykj ms ms k hko);have cD:=hid (fun W2 (hg:wr.grownBy W2 none) r (hr:r∈ms[k].obj.aj)=>OX bl ms bl[k] (gl[k]'hkg) ms[k] r W2 (MA.o.kept hg) (Vj.o.kept hg) MN (MN.aj.2 r hr).2.1 (MN.aj.2 r hr).2.2)
   have cS:=hid (fun W2 (hg:wr.grownBy W2 none) i=>yid bl bl[k] (gl[k]'hkg) ms[k] i W2 (Vj.o.kept hg) hsy);subst hsg;clear hsc q0 q1 hb p6 PR MN hsy;generalize (gl[k]'hkg)=gk at *;generalize bl[k]=bk at *;generalize ms[k]=m at *;have g1:(k:Int) < (bl.length:Int):=by omega
   unfold aW fK at *;go_wp2;generalize wr=U at *;clear ck k0 k6
   go_loopw [25] (fun i wr=>∃ j:Nat,j<=m.obj.aj.length/\i = .int .i64 j/\Ln.iZ ms m k m.obj.aj=Ln.iZ ms m k (m.obj.aj.drop j)/\U.grownBy wr none) (fun i _=>m.obj.aj.length - (intOf i).toNat)
   case atStart=>exact ⟨0,Nat.zero_le _,rfl,rfl,World.grownBy.refl _ _⟩
   case round =>
    obtain ⟨j,hj,rfl,hf2,iD⟩:=hrel;have mW:=hid hf2;have HG2:=hid iD;clear hf2 iD;by_cases hlt2:j < m.obj.aj.length
    ·obtain ⟨sg2,BK,hgs,hcs⟩:=S.o.grown HG2.o (by omega);subst BK;obtain ⟨q0,q1,q2,q3,q4⟩:=hcs j hlt2;clear hcs;have g2:(j:Int) < (m.obj.aj.length:Int):=by omega
     have FI:=hid (show Ln.iZ ms m k m.obj.aj=_ from mW.o.trans (ykk ms m k m.obj.aj j hlt2));have cE:=hid (fun W2 hg=>cD.o W2 hg m.obj.aj[j] (iq hlt2));have hn2:m.obj.aj.length=m.obj.aj.length:=rfl;generalize m.obj.aj[j]=r at *;have BX:=hid (yc.new wr #[.int .i64 r.ah,.int .i64 r.off,.int .i64 r.kind,.int .i64 r.sym,.int .i64 r.addend] 102);have GA:=hid (aJ wr (.cells #[.int .i64 r.ah,.int .i64 r.off,.int .i64 r.kind,.int .i64 r.sym,.int .i64 r.addend] 102) none);have GW:=hid (ya HG2.o GA.o);have Wn:=hid (fun d W2=>ylt r.kind d W2);generalize Ln.distance ms m r=ds at *
     go_upto_region 7 with fail
     clear q0 q1 q2 q3 q4;generalize wr.alloc (.cells #[.int .i64 r.ah,.int .i64 r.off,.int .i64 r.kind,.int .i64 r.sym,.int .i64 r.addend] 102)=W2 at *;generalize wr.heap.size=L at *;have c0:W2.cell? ⟨L,0,none⟩=some (.int .i64 r.ah):=BX.o.cell 0;have c1:W2.cell? ⟨L,1,none⟩=some (.int .i64 r.off):=BX.o.cell 1;have c2:W2.cell? ⟨L,2,none⟩=some (.int .i64 r.kind):=BX.o.cell 2;have c3:W2.cell? ⟨L,3,none⟩=some (.int .i64 r.sym):=BX.o.cell 3;have c4:W2.cell? ⟨L,4,none⟩=some (.int .i64 r.addend):=BX.o.cell 4;have BD:=hid (fun W (hq:W2.drew.grownBy W none)=>show yc W L #[.int .i64 r.ah,.int .i64 r.off,.int .i64 r.kind,.int .i64 r.sym,.int .i64 r.addend] 102 from (uo BX.o).grown hq (by simp))
     go_region_held3 (fun w'=>w'.cell? ⟨L,0,none⟩=some (.int .i64 r.ah)/\w'.cell? ⟨L,1,none⟩=some (.int .i64 r.off)/\w'.cell? ⟨L,2,none⟩=some (.int .i64 r.kind)/\w'.cell? ⟨L,3,none⟩=some (.int .i64 r.sym)/\w'.cell? ⟨L,4,none⟩=some (.int .i64 r.addend))
      (go_keep)
      (first | (go_at_call 107; refine (cE.o _ (yh GW.o)).mono ?_; rintro e w' ⟨rfl,hq⟩; have bq:=BD.o _ hq; have s0:=bq.cell 0; have s1:=bq.cell 1; have s2:=bq.cell 2; have s3:=bq.cell 3; have s4:=bq.cell 4; simp only [bI,bN,bK] at s0 s1 s2 s3 s4) | (go_at_call 113; refine (Wn.o _ _).mono ?_; rintro e w2 ⟨rfl,hw⟩; rw [hw]; clear hw w2))
     have GQ:=hid (ya (yh GW.o) hq);have BQ:=hid bq;clear hq bq c0 c1 c2 c3 c4 s0 s1 s2 s3 s4 cE Wn GA;generalize hrb:Ln.iG r.kind ds=rb at *;have HRB:=hid hrb;clear hrb
     cases rb
     ·have E:=hid (show Ln.eO ms=⟨37,k,Ln.jH m.obj r.sym⟩ by rw [HF.o,FD.o,FI.o]; rfl);have BR:=hid (B0.o.grown (ya HG.o GQ.o) (by simp));have Wp:=hid (cS.o _ GQ.o r.sym);generalize Ln.jH m.obj r.sym=nm at *;have c3:w'.cell? ⟨L,3,none⟩=some (.int .i64 r.sym):=BQ.o.cell 3;have z0:w'.cell? ⟨W.heap.size,0,none⟩=some (.int .i64 0):=BR.o.cell 0;have z1:w'.cell? ⟨W.heap.size,1,none⟩=some (.int .i64 0):=BR.o.cell 1;have z2:w'.cell? ⟨W.heap.size,2,none⟩=some (.string ⟨#[]⟩):=BR.o.cell 2;have f0:=BR.o.free 0;have f1:=BR.o.free 1;have f2:=BR.o.free 2;go_wp2_with fail;refine Wp.o.mono ?_;rintro e w2 ⟨rfl,hw⟩
      rw [hw];clear hw w2 Wp c3;go_wp2;have F:=((BR.o.set 0 (.int .i64 37)).set 1 (.int .i64 k)).set 2 (.string (bs nm));have h0:=F.cell 0;have h1:=F.cell 1;have h2:=F.cell 2;simp only [gu,fZ,gq,bI,bN,bK] at h0 h1 h2;refine bodyPost_ret (v:=fQ ⟨37,k,nm⟩) ?_ rfl ⟨by rw [E.o],yz (ya G0.o (ya HG.o GQ.o)) _ (Nat.le_refl _) _ _ _⟩;clear F z0 z1 z2 f0 f1 f2;generalize World.setCell _ _ _=WF at *;simp [results,Tryz.results75,go_sem,fQ,h0,h1,h2]
     ·have E:=hid (show Ln.iZ ms m k m.obj.aj=Ln.iZ ms m k (m.obj.aj.drop (j+1)) from FI.o);go_wp2
      go_roundw
      case rel=>exact ⟨j+1,by omega,by go_num,E.o,GQ.o⟩
      case measure=>simp [intOf]; omega
    ·obtain rfl:j=m.obj.aj.length:=by omega
     have E:=hid (show Ln.iZ ms m k m.obj.aj=none by rw [mW.o,List.drop_length]; rfl);have g3:decide ((m.obj.aj.length:Int) < (m.obj.aj.length:Int))=false:=by simp
     go_wp2
     go_roundw
     case rel=>exact ⟨k+1,by omega,by go_num,by rw [HF.o,FD.o,E.o],ya HG.o HG2.o⟩
     case measure=>simp [intOf]; omega
  ·obtain rfl:k=bl.length:=by omega
   have E:=hid (show Ln.eO ms=Ln.ok by rw [HF.o,<- LO.o,List.drop_length]; rfl);have g3:decide ((bl.length:Int) < (bl.length:Int))=false:=by simp
   have BR:=hid (B0.o.grown HG.o (by simp));have z0:wr.cell? ⟨W.heap.size,0,none⟩=some (.int .i64 0):=BR.o.cell 0;have z1:wr.cell? ⟨W.heap.size,1,none⟩=some (.int .i64 0):=BR.o.cell 1;have z2:wr.cell? ⟨W.heap.size,2,none⟩=some (.string ⟨#[]⟩):=BR.o.cell 2;have f0:=BR.o.free 0;have f1:=BR.o.free 1;have f2:=BR.o.free 2;go_wp2;have F:=((BR.o.set 0 (.int .i64 0)).set 1 (.int .i64 0)).set 2 (.string ⟨#[]⟩);have h0:=F.cell 0;have h1:=F.cell 1;have h2:=F.cell 2;simp only [gu,fZ,gq,bI,bN,bK] at h0 h1 h2;refine bodyPost_ret (v:=fQ Ln.ok) ?_ rfl ⟨by rw [E.o],yz (ya G0.o HG.o) _ (Nat.le_refl _) _ _ _⟩;clear F z0 z1 z2 f0 f1 f2
   generalize World.setCell _ _ _=WF at *;simp [results,Tryz.results75,go_sem,fQ,Ln.ok,bs,h0,h1,h2]
end Go.Proofs.YtpgklkhgfcjceaaGreatDoor
