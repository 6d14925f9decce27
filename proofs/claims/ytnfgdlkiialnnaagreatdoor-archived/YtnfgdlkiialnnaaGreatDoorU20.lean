/- Linking: how long regions are, what numbers stand in them. -/
/- Linking: a module's section is added to a region. -/
/- Linking: the image of all that is laid. -/
import Derived.Test.YtnfgdlkiialnnaaGreatDoorU19
import Derived.Test.YtnfgdlkiialnnaaGreatDoorU05
set_option maxHeartbeats 16000000
namespace Go.Proofs.YtnfgdlkiialnnaaGreatDoor
open Go.RowKit
theorem yoo (form:Nat) (n:Int):As.place' form n < 2 ^ 32:=by
 have a1:=yap n 0 20
 have a2:=yap n 20 1
 have a3:=yap n 1 10
 have a4:=yap n 11 1
 have a5:=yap n 12 8
 have a6:=yap n 0 12
 have a7:=yap n 12 1
 have a8:=yap n 5 6
 have a9:=yap n 1 4
 have aa:=yap n 5 7
 have ab:=yap n 0 5
 unfold As.place'
 repeat' split
 ·omega
 ·exact Nat.or_lt_two_pow (Nat.or_lt_two_pow (Nat.or_lt_two_pow (by omega) (by omega)) (by omega)) (by omega)
 ·omega
 ·exact Nat.or_lt_two_pow (Nat.or_lt_two_pow (Nat.or_lt_two_pow (by omega) (by omega)) (by omega)) (by omega)
 ·exact Nat.or_lt_two_pow (by omega) (by omega)
 ·omega
theorem ynD (op:Nat):As.fixeds.getD op 0 < 2 ^ 32:=by
 have h:∀ x∈As.fixeds,x < 2 ^ 32:=by decide
 rw [ysQ]
 cases e:As.fixeds[op]? with
 | none=>simp
 | some x=>exact h x (List.mem_of_getElem? e)
theorem yrI (op rd rs1 rs2:Nat) (n:Int):As.enc op rd rs1 rs2 n < 2 ^ 32:=by
 unfold As.enc As.encF
 have p:=yoo (As.forms.getD op 0) n
 have f:=ynD op
 have b1:=yap rd 0 5
 have b2:=yap rs1 0 5
 have b3:=yap rs2 0 5
 generalize As.forms.getD op 0=form at *
 have w0:=Nat.or_lt_two_pow f p
 generalize As.fixeds.getD op 0 ||| As.place' form n=x0 at *
 have w1:(if As.hasRd form then x0 ||| As.fld rd 0 5 * 128 else x0) < 2 ^ 32:=by
  split
  ·exact Nat.or_lt_two_pow w0 (by omega)
  ·exact w0
 dsimp only
 generalize (if As.hasRd form then x0 ||| As.fld rd 0 5 * 128 else x0)=x1 at *
 have w2:(if As.hasRs1 form then x1 ||| As.fld rs1 0 5 * 32768 else x1) < 2 ^ 32:=by
  split
  ·exact Nat.or_lt_two_pow w1 (by omega)
  ·exact w1
 generalize (if As.hasRs1 form then x1 ||| As.fld rs1 0 5 * 32768 else x1)=x2 at *
 split
 ·exact Nat.or_lt_two_pow w2 (by omega)
 ·exact w2
theorem ydO (op rd rs1 rs2:Nat) (n:Int):0<=Ln.encZ op rd rs1 rs2 n/\Ln.encZ op rd rs1 rs2 n<=4294967295:=by
 unfold Ln.encZ
 split
 ·omega
 ·have:=yrI op rd rs1 rs2 n
  omega
theorem yke (ms:List Ln.Mod) (m:Ln.Mod) (sect off x:Int) (h0:0<=x) (h1:x<=4294967295):0<=Ln.linked ms m sect off x/\Ln.linked ms m sect off x<=4294967295:=by
 unfold Ln.linked Ln.linkedR
 generalize (Ln.relocAt sect off 0 m.obj.rels).2=r
 repeat' split
 ·rw [ylP]; omega
 ·exact ydO _ _ _ _ _
 ·exact ydO _ _ _ _ _
 ·exact ydO _ _ _ _ _
 ·exact ydO _ _ _ _ _
 ·exact ⟨h0,h1⟩
def W32 (xs:List Int):Prop:=∀ x∈xs,0<=x/\x<=4294967295
theorem W32.of_words {xs:List Int} (h:ybo xs):W32 xs:=by
 intro x hx
 obtain ⟨i,hi,rfl⟩:=List.getElem_of_mem hx
 exact h i hi
theorem W32.app {xs ys:List Int} (h:W32 xs) (k:W32 ys):W32 (xs ++ ys):=by
 intro x hx
 rcases List.mem_append.1 hx with q | q
 ·exact h x q
 ·exact k x q
theorem ykW (ms:List Ln.Mod) (m:Ln.Mod) (sect:Int):∀ (ws:List Int) (k:Nat),W32 ws->W32 (Ln.addWords ms m sect k ws):=by
 intro ws
 induction ws with
 | nil=>intro k _ x hx; simp [Ln.addWords] at hx
 | cons w ws ih =>
  intro k hw
  have i:=ih (k+1) (fun x hx=>hw x (by simp [hx]))
  unfold Ln.addWords
  split
  ·intro x hx
   rcases List.mem_cons.1 hx with rfl | hx
   ·have:=hw w (by simp)
    exact yke ms m sect _ w this.1 this.2
   ·exact i x hx
  ·exact i
theorem yhS {o:Lk.Obj} (hv:yw o) (sect:Int):W32 (yx o sect):=by
 unfold yx
 repeat' split
 ·exact W32.of_words hv.2.2.1.1
 ·exact W32.of_words hv.2.2.1.2.1
 ·exact W32.of_words hv.2.2.1.2.2
 ·intro x hx; simp at hx
theorem yrJ {base fl b:Int} {ws:List Int} (hf:0<=fl/\fl<=4294967295) (h:W32 ws):W32 (Ln.gapTo base fl b ws):=by
 unfold Ln.gapTo
 refine h.app fun x hx=>?_
 have:=List.eq_of_mem_replicate hx
 omega
theorem yfU (ms:List Ln.Mod) (sect base fl:Int) (hf:0<=fl/\fl<=4294967295):∀ (l:List Ln.Mod) (ws:List Int),(∀ m∈l,yw m.obj)->W32 ws->W32 (Ln.region ms sect base fl l ws):=by
 intro l
 induction l with
 | nil=>intro ws _ h; exact h
 | cons m l ih =>
  intro ws hv h
  unfold Ln.region
  refine ih _ (fun x hx=>hv x (by simp [hx])) ?_
  unfold Ln.addTo
  exact (yrJ hf h).app (ykW ms m sect _ 0 (yhS (hv m (by simp)) sect))
theorem yeq (m:Ln.Mod) (sect:Int) (ws:List Int) (k:Nat) (a:Int):(Ln.placesFrom m sect k ws a)[0]?=some a:=by
 cases ws <;> rfl
theorem yhV (ms:List Ln.Mod) (m:Ln.Mod) (sect:Int):∀ (ws:List Int) (k:Nat) (a:Int),(∀ i,i<=ws.length->some (Ln.address m sect (4 * (k+i:Nat)))=(Ln.placesFrom m sect k ws a)[i]?)->4 * ((Ln.addWords ms m sect k ws).length:Int)=Ln.endFrom m sect k ws a - a:=by
 intro ws
 induction ws with
 | nil=>intro k a _; simp [Ln.addWords,Ln.endFrom]
 | cons w ws ih =>
  intro k a h
  have h0:=h 0 (by simp)
  have h1:=h 1 (by simp)
  have tl:∀ i,i<=ws.length->some (Ln.address m sect (4 * (k+1+i:Nat)))=(Ln.placesFrom m sect (k+1) ws (if Ln.stays m sect (4 * k) a then a+4 else a))[i]?:=by
   intro i hi
   have:=h (i+1) (by simp; omega)
   rw [show k+(i+1)=k+1+i by omega] at this
   exact this
  have e:=ih (k+1) _ tl
  have p1:(Ln.placesFrom m sect k (w :: ws) a)[1]?=some (if Ln.stays m sect (4 * k) a then a+4 else a):=yeq m sect ws (k+1) _
  have p0:(Ln.placesFrom m sect k (w :: ws) a)[0]?=some a:=rfl
  rw [p0] at h0
  rw [p1] at h1
  simp only [Option.some.injEq,Nat.add_zero] at h0 h1
  have e4:(4 * ((k+1:Nat):Int))=4 * (k:Int)+4:=by omega
  rw [e4] at h1
  have EF:Ln.endFrom m sect k (w :: ws) a=Ln.endFrom m sect (k+1) ws (if Ln.stays m sect (4 * k) a then a+4 else a):=rfl
  rw [EF]
  unfold Ln.addWords
  rw [h0,h1]
  clear tl p0 p1 h0 h1 EF h ih
  generalize Ln.stays m sect (4 * k) a=b at *
  cases b
  ·simp only [Bool.false_eq_true,if_false] at e ⊢
   rw [if_neg (by omega)]
   exact e
  ·simp only [if_true] at e ⊢
   rw [if_pos (by omega),ysH]
   omega
def ycu (sect:Nat) (ps:Ln.Mod->List Int):List Ln.Mod->Int->Int->Prop
 | [],t,e=>e=t
 | m :: r,t,e=>ps m=Ln.layPlaces m sect t/\ycu sect ps r (Ln.layEnd m sect t) e
theorem yju (m:Ln.Mod) (k:Nat):Ln.address m 1 (4 * (k:Int))=m.text.getD k 0:=by
 unfold Ln.address Ln.placeOf
 rw [if_pos rfl,Int.tdiv_eq_ediv_of_nonneg (by omega),if_neg (by omega)]
 congr 1
 omega
theorem ykX (m:Ln.Mod) (k:Nat):Ln.address m 2 (4 * (k:Int))=m.far.getD k 0:=by
 unfold Ln.address Ln.placeOf
 rw [if_neg (by decide),if_pos rfl,Int.tdiv_eq_ediv_of_nonneg (by omega),if_neg (by omega)]
 congr 1
 omega
theorem yns (ms:List Ln.Mod) (m:Ln.Mod) (sect:Nat) (base fl t:Int) (ws:List Int) (ps:List Int) (hps:ps=Ln.layPlaces m sect t) (had:∀ k:Nat,Ln.address m sect (4 * (k:Int))=ps.getD k 0) (h0:0<=t) (h1:t<=562949953421312) (hb:base % 4=0) (hl:base+4 * (ws.length:Int)=t) :
  base+4 * ((Ln.addTo ms m sect base fl ws).length:Int)=Ln.layEnd m sect t:=by
 have R:=yaO t (Ln.border m.obj sect) h0 (by omega) (yZ _)
 have hbg:Ln.begin_ m sect t=Ln.rup t (Ln.border m.obj sect):=rfl
 have pr:=yef m sect (yx m.obj sect) 0 (Ln.begin_ m sect t)
 have lp:ps=Ln.placesFrom m sect 0 (yx m.obj sect) (Ln.begin_ m sect t):=hps
 have A0:Ln.address m sect 0=Ln.begin_ m sect t:=by
  have:=had 0
  rw [Int.ofNat_zero,Int.mul_zero] at this
  rw [this,ysQ,lp,yeq]
  rfl
 have C:=yhV ms m sect (yx m.obj sect) 0 (Ln.begin_ m sect t) (fun i hi=>by
  rw [Nat.zero_add,had i,lp,ysQ,ysI (by rw [pr.1]; omega)]
  rfl)
 unfold Ln.addTo
 rw [ysF,yie,A0]
 unfold Ln.layEnd
 rw [hbg] at C ⊢
 omega
theorem yhI (ms:List Ln.Mod) (sect:Nat) (hs:sect=1\/sect=2) (ps:Ln.Mod->List Int) (base fl:Int) (hb:base % 4=0) (had:∀ (m:Ln.Mod) (k:Nat),Ln.address m sect (4 * (k:Int))=(ps m).getD k 0) :
  ∀ (l:List Ln.Mod) (ws:List Int) (t e:Int),(∀ m∈l,yw m.obj)->0<=t->t+5000 * l.length<=1200000000->base+4 * (ws.length:Int)=t->ycu sect ps l t e->base+4 * ((Ln.region ms sect base fl l ws).length:Int)=e:=by
 intro l
 induction l with
 | nil=>intro ws t e _ _ _ hl hc; unfold Ln.region; unfold ycu at hc; omega
 | cons m l ih =>
  intro ws t e hv h0 h1 hl hc
  unfold ycu at hc
  simp only [ysH] at h1
  have r:=ybX (hv m (by simp)) sect hs t h0 (by omega)
  unfold Ln.region
  exact ih _ (Ln.layEnd m sect t) e (fun x hx=>hv x (by simp [hx])) (by omega) (by omega) (yns ms m sect base fl t ws (ps m) hc.1 (had m) h0 (by omega) hb hl) hc.2
def ycf (sect:Nat):List Ln.Mod->Int->Int
 | [],t=>t
 | m :: r,t=>ycf sect r (Ln.layEnd m sect t)
theorem yfw (sect:Nat) (hs:sect=1\/sect=2):∀ (l:List Ln.Mod) (t:Int),(∀ m∈l,yw m.obj)->0<=t->t+5000 * l.length<=1200000000->t<=ycf sect l t/\ycf sect l t<=t+4815 * l.length:=by
 intro l
 induction l with
 | nil=>intro t _ _ _; simp [ycf]
 | cons m l ih =>
  intro t hv h0 h1
  simp only [ysH] at h1 ⊢
  have r:=ybX (hv m (by simp)) sect hs t h0 (by omega)
  have q:=ih (Ln.layEnd m sect t) (fun x hx=>hv x (by simp [hx])) (by omega) (by omega)
  unfold ycf
  omega
theorem yiY:∀ (ms:List Ln.Mod) (t f d:Int),ycu 1 Ln.Mod.text (Ln.layMods ms t f d) t (ycf 1 ms t)/\ycu 2 Ln.Mod.far (Ln.layMods ms t f d) f (ycf 2 ms f):=by
 intro ms
 induction ms with
 | nil=>intro t f d; exact ⟨rfl,rfl⟩
 | cons m ms ih =>
  intro t f d
  have q:=ih (Ln.layEnd m 1 t) (Ln.layEnd m 2 f) (Ln.rup d (Ln.border m.obj 3)+4 * m.obj.data.length)
  unfold Ln.layMods ycu ycf
  have e1:Ln.layEnd (Ln.layOne m t f d) 1 t=Ln.layEnd m 1 t:=ydw (m:=m) (m':=Ln.layOne m t f d) rfl rfl 1 t
  have e2:Ln.layEnd (Ln.layOne m t f d) 2 f=Ln.layEnd m 2 f:=ydw (m:=m) (m':=Ln.layOne m t f d) rfl rfl 2 f
  rw [e1,e2]
  exact ⟨⟨(ycx (m:=m) (m':=Ln.layOne m t f d) rfl rfl 1 t).symm,q.1⟩,(ycx (m:=m) (m':=Ln.layOne m t f d) rfl rfl 2 f).symm,q.2⟩
theorem yfN (sect:Nat) (ps:Ln.Mod->List Int) (hps:∀ (m:Ln.Mod) (b:Int),ps { m with bss:=b }=ps m):∀ (ms:List Ln.Mod) (b t e:Int),ycu sect ps ms t e->ycu sect ps (Ln.layBss ms b) t e:=by
 intro ms
 induction ms with
 | nil=>intro b t e h; exact h
 | cons m ms ih =>
  intro b t e h
  unfold ycu at h
  unfold Ln.layBss ycu
  have e1:Ln.layEnd { m with bss:=Ln.rup b (Ln.border m.obj 4) } sect t=Ln.layEnd m sect t:=ydw (m:=m) (m':={ m with bss:=Ln.rup b (Ln.border m.obj 4) }) rfl rfl sect t
  have e2:Ln.layPlaces { m with bss:=Ln.rup b (Ln.border m.obj 4) } sect t=Ln.layPlaces m sect t:=ycx (m:=m) (m':={ m with bss:=Ln.rup b (Ln.border m.obj 4) }) rfl rfl sect t
  rw [e1,e2,hps]
  exact ⟨h.1,ih _ _ _ h.2⟩
def ycn:List Ln.Mod->Int->Int->Prop
 | [],d,e=>e=d
 | m :: r,d,e=>m.data=Ln.rup d (Ln.border m.obj 3)/\ycn r (Ln.rup d (Ln.border m.obj 3)+4 * m.obj.data.length) e
theorem yig:∀ (ms:List Ln.Mod) (t f d:Int),ycn (Ln.layMods ms t f d) d (Ln.dataEnd ms d):=by
 intro ms
 induction ms with
 | nil=>intro t f d; rfl
 | cons m ms ih=>intro t f d; unfold Ln.layMods ycn Ln.dataEnd; exact ⟨rfl,ih _ _ _⟩
theorem yiX:∀ (ms:List Ln.Mod) (b d e:Int),ycn ms d e->ycn (Ln.layBss ms b) d e:=by
 intro ms
 induction ms with
 | nil=>intro b d e h; exact h
 | cons m ms ih=>intro b d e h; unfold ycn at h; unfold Ln.layBss ycn; exact ⟨h.1,ih _ _ _ h.2⟩
theorem yjs (ms:List Ln.Mod) (m:Ln.Mod):∀ (ws:List Int) (k:Nat),(Ln.addWords ms m 3 k ws).length=ws.length:=by
 intro ws
 induction ws with
 | nil=>intro k; rfl
 | cons w ws ih =>
  intro k
  unfold Ln.addWords
  have:Ln.address m 3 (4 * (k:Int)) < Ln.address m 3 (4 * (k:Int)+4):=by
   unfold Ln.address
   simp only [if_neg (show ¬ (3:Int)=1 by decide),if_neg (show ¬ (3:Int)=2 by decide),if_pos]
   omega
  rw [if_pos this,ysH,ih,ysH]
theorem ylx (ms:List Ln.Mod) (base fl:Int) (hb:base % 4=0):∀ (l:List Ln.Mod) (ws:List Int) (d e:Int),(∀ m∈l,yw m.obj)->0<=d->d+5000 * l.length<=1200000000->base+4 * (ws.length:Int)=d->ycn l d e->base+4 * ((Ln.region ms 3 base fl l ws).length:Int)=e:=by
 intro l
 induction l with
 | nil=>intro ws d e _ _ _ hl hc; unfold Ln.region; unfold ycn at hc; omega
 | cons m l ih =>
  intro ws d e hv h0 h1 hl hc
  unfold ycn at hc
  simp only [ysH] at h1
  have R:=yaO d (Ln.border m.obj 3) h0 (by omega) (yZ _)
  have hdl:m.obj.data.length<=64:=(hv m (by simp)).1.1.2.2
  unfold Ln.region
  refine ih _ _ e (fun x hx=>hv x (by simp [hx])) ?_ ?_ ?_ hc.2
  ·omega
  ·omega
  ·have A0:Ln.address m 3 0=m.data:=by unfold Ln.address; simp
   have W3:yx m.obj 3=m.obj.data:=rfl
   unfold Ln.addTo
   rw [ysF,yie,A0,yjs,W3,hc.1]
   omega
theorem yjE:∀ (ms:List Ln.Mod) (b:Int),(∀ m∈ms,yw m.obj)->0<=b->b+5000 * ms.length<=1200000000->b<=Ln.bssEnd ms b/\Ln.bssEnd ms b<=b+271 * ms.length:=by
 intro ms
 induction ms with
 | nil=>intro b _ _ _; simp [Ln.bssEnd]
 | cons m ms ih =>
  intro b hv h0 h1
  simp only [ysH] at h1 ⊢
  have R:=yaO b (Ln.border m.obj 4) h0 (by omega) (yZ _)
  have hb:=(hv m (by simp)).1.2.1
  have q:=ih (Ln.rup b (Ln.border m.obj 4)+4 * m.obj.bss) (fun x hx=>hv x (by simp [hx])) (by omega) (by omega)
  unfold Ln.bssEnd
  omega
theorem yfK:∀ (ms:List Ln.Mod) (d:Int),(∀ m∈ms,yw m.obj)->0<=d->d+5000 * ms.length<=1200000000->d<=Ln.dataEnd ms d/\Ln.dataEnd ms d<=d+271 * ms.length:=by
 intro ms
 induction ms with
 | nil=>intro b _ _ _; simp [Ln.dataEnd]
 | cons m ms ih =>
  intro d hv h0 h1
  simp only [ysH] at h1 ⊢
  have R:=yaO d (Ln.border m.obj 3) h0 (by omega) (yZ _)
  have hdl:m.obj.data.length<=64:=(hv m (by simp)).1.1.2.2
  have q:=ih (Ln.rup d (Ln.border m.obj 3)+4 * m.obj.data.length) (fun x hx=>hv x (by simp [hx])) (by omega) (by omega)
  unfold Ln.dataEnd
  omega
theorem yay.put {W0 V w3:World} {R:Nat} {base fl x:Int} {ws:List Int} {v v':Value} (h:yay W0 R base fl ws v V) (hown:w3.ownsRow W0.heap.size 3 1 v' (ws.length+1) (ws.map (Value.int .i64) ++ [.int .i64 x])) (hg:V.grownBy w3 v.ownBlock) (hat:v'.ownBlock=v.ownBlock\/v'.ownBlock=some V.heap.size) :
  (yay W0 R base fl (ws ++ [x]) v' (w3.setCell ⟨R,2,none⟩ v')/\ybn V (w3.setCell ⟨R,2,none⟩ v') R v v')/\yc w3 R #[.int .i64 base,.int .i64 fl,v] 128/\w3.cell? ⟨R,2,none⟩=some v/\w3.frozen? ⟨R,2,none⟩=false/\w3.cell? ⟨R,1,none⟩=some (.int .i64 fl):=by
 have b3:=yK h.blk hg (RowT.own h.row) (by decide)
 exact ⟨h.step hown hg hat,b3,b3.cell 2,b3.free 2,b3.cell 1⟩
theorem ymF (W0:World) (g:Nat) (o:Lk.Obj) (sect:Int) (w:World) (h:yr W0 g o) (hg:W0.grownBy w none) :
  Calls Tryz.prog 99 #[.pointer (some ⟨g,0,none⟩),.int .i64 sect] w fun e w'=>∃ ao cap,e = .returned (.slice ao (yx o sect).length cap)/\(yy W0 ao (yx o sect)/\(yx o sect).length<=cap/\cap<=maxLen)/\w'=w:=by
 obtain ⟨at_,ct,af,cf,ad,cd,aa,ca,as_,cs,ar,cr,hb,h1,h2,h3,-⟩:=h.open
 have hb2:=hb.grown hg (by simp)
 have k0:=hb2.cell 0
 have k1:=hb2.cell 1
 have k2:=hb2.cell 2
 have q1:=hid (yy.of_own h1)
 have q2:=hid (yy.of_own h2)
 have q3:=hid (yy.of_own h3)
 have z1:=hid (yal h1)
 have z2:=hid (yal h2)
 have z3:=hid (yal h3)
 clear h hb hb2 h1 h2 h3 hg
 unfold yx
 by_cases e1:sect=1
 ·subst e1
  go_enter Tryz.func99,Tryz.ntmps99
  go_wp2
  go_ret
  exact ⟨at_,ct,rfl,⟨q1.o,z1.o⟩,rfl⟩
 by_cases e2:sect=2
 ·subst e2
  go_enter Tryz.func99,Tryz.ntmps99
  go_wp2
  go_ret
  exact ⟨af,cf,rfl,⟨q2.o,z2.o⟩,rfl⟩
 by_cases e3:sect=3
 ·subst e3
  go_enter Tryz.func99,Tryz.ntmps99
  go_wp2
  go_ret
  exact ⟨ad,cd,rfl,⟨q3.o,z3.o⟩,rfl⟩
 ·rw [if_neg e1,if_neg e2,if_neg e3]
  have d1:(sect == 1)=false:=beq_eq_false_iff_ne.2 e1
  have d2:(sect == 2)=false:=beq_eq_false_iff_ne.2 e2
  have d3:(sect == 3)=false:=beq_eq_false_iff_ne.2 e3
  clear e1 e2 e3
  go_enter Tryz.func99,Tryz.ntmps99
  go_wp2
  go_ret
  exact ⟨none,0,rfl,⟨fun h=>by simp at h,by simp,by simp⟩,rfl⟩
set_option maxRecDepth 100000 in
theorem yqf (W0:World) (bl:List Nat) (ms:List Ln.Mod) (b g:Nat) (m:Ln.Mod) (sect:Int) (R:Nat) (base fl:Int) (ws:List Int) (v:Value) (w:World) (ht:Tabs W0) (h:ycC W0 bl ms) (hm:yE W0 bl b g m) (hn:yH bl.length m) (hv:yw m.obj) (hd:ygK ms m) (hr:yay W0 R base fl ws v w) (hb0:0<=base) (hb1:base<=1200000000) (hl:ws.length<=300090000) (ha:Ln.address m sect 0<=1200100000) :
  Calls Tryz.prog 67 #[ptrV R,ptrV b,.int .i64 sect] w fun e w'=>e = .returned (.tuple #[])/\∃ v',yay W0 R base fl (Ln.addTo ms m sect base fl ws) v' w'/\ybn w w' R v v':=by
 obtain ⟨i0,hi,hz0,hz1,hz2⟩:=info_parts Tryz.infoInt
 have HT:=hid ht
 have HH:=hid h
 have HM:=hid hm
 have HR:=hid hr
 have cA:=hid (fun (off:Int) W (hg:W0.grownBy W none) h0 h1=>yez bl b g bl.length m sect off W (HM.o.kept hg) hn h0 h1)
 have cL:=hid (fun (off x:Int) W (hg:W0.grownBy W none) h0 h1=>ymM bl ms b g m sect off x W (HT.o.grown hg) (HH.o.kept hg) (HM.o.kept hg) hn hv hd h0 h1)
 have cW:Hd (∀ W,W0.grownBy W none->Calls Tryz.prog 99 #[.pointer (some ⟨g,0,none⟩),.int .i64 sect] W fun e w'=>∃ ao cap,e = .returned (.slice ao (yx m.obj sect).length cap)/\(yy W0 ao (yx m.obj sect)/\(yx m.obj sect).length<=cap/\cap<=maxLen)/\w'=W):=fun W hg=>by
  obtain ⟨v1,v2,v3,v4,q0,q1,-⟩:=hm
  exact ymF W0 g m.obj sect W q1 hg
 have CB:=hid (fun W (hg:W0.grownBy W none)=>show W.cell? ⟨b,0,none⟩=some (.pointer (some ⟨g,0,none⟩)) from by
  obtain ⟨v1,v2,v3,v4,q0,-⟩:=hm
  exact (q0.grown hg (by simp)).cell 0)
 have hwl:=ydB hv sect
 have HW32:=hid (yhS hv sect)
 have EA:=hid (show Ln.addTo ms m sect base fl ws=Ln.gapTo base fl (Ln.address m sect 0) ws ++ Ln.addWords ms m sect 0 ((yx m.obj sect).drop 0) from rfl)
 generalize Ln.addTo ms m sect base fl ws=AT at *
 generalize yx m.obj sect=xs at *
 have cA0:=hid (cA.o 0 w HR.o.gr (by omega) (by omega))
 generalize Ln.address m sect 0=bg at *
 clear ht h hm hr hn hv hd
 unfold ptrV at *
 go_enter Tryz.func67,Tryz.ntmps67
 go_wp2_with fail
 refine cA0.o.mono ?_
 rintro e w' ⟨rfl,hw⟩
 rw [hw]
 clear hw w' cA0
 go_wp2
 go_loopg [] ((bg - base - 4 * (ws.length:Int)).toNat) (fun k wr=>∃ (acc:List Int) (v1:Value),yay W0 R base fl acc v1 wr/\ybn w wr R v v1/\Ln.gapTo base fl bg ws=Ln.gapTo base fl bg acc/\acc.length<=300090000/\(bg - base - 4 * (acc.length:Int)).toNat<=k)
 case atStart=>exact ⟨ws,v,HR.o,ybn.refl _ _ _,rfl,by omega,Nat.le_refl _⟩
 case round =>
  obtain ⟨acc,v1,hra,hrt,heg,hal,hgk⟩:=hrel
  obtain ⟨av,cv,rfl⟩:=yg hra.row
  have HG:=hid hra
  have HT1:=hid hrt
  have HEG:=hid heg
  clear hra hrt heg HR
  have c0:wr.cell? ⟨R,0,none⟩=some (.int .i64 base):=HG.o.blk.cell 0
  have c1:wr.cell? ⟨R,1,none⟩=some (.int .i64 fl):=HG.o.blk.cell 1
  have c2:wr.cell? ⟨R,2,none⟩=some (.slice av acc.length cv):=HG.o.blk.cell 2
  have w1:IntKind.i64.wrap (4 * (acc.length:Int))=4 * acc.length:=IntWalk.i64_in _ ⟨by omega,by omega⟩
  have w2:IntKind.i64.wrap (base+4 * (acc.length:Int))=base+4 * acc.length:=IntWalk.i64_in _ ⟨by omega,by omega⟩
  by_cases hlt:base+4 * (acc.length:Int) < bg
  ·have EG:=hid (show Ln.gapTo base fl bg ws=Ln.gapTo base fl bg (acc ++ [fl]) from HEG.o.trans (yoX hlt))
   have hb2:base+4 * (acc.length:Int) < bg:=hlt
   have d1:decide (base+4 * (acc.length:Int) < bg)=true:=by simpa using hlt
   clear hlt HEG
   go_wp2
   go_quiet (fail)
   have HGq:=hid (HG.o.kept (ye (World.grownBy.refl wr none) nq))
   have HTq:=hid (HT1.o.grown (ye (World.grownBy.refl wr none) nq))
   go_wp2
   clear c0 c1 c2 HG HT1
   generalize wr.drewN nq=wr at *
   have HG:=HGq
   have HT1:=HTq
   have c0:wr.cell? ⟨R,0,none⟩=some (.int .i64 base):=HG.o.blk.cell 0
   have c1:wr.cell? ⟨R,1,none⟩=some (.int .i64 fl):=HG.o.blk.cell 1
   have c2:wr.cell? ⟨R,2,none⟩=some (.slice av acc.length cv):=HG.o.blk.cell 2
   clear HGq HTq
   have A7:=yh (ysE wr (.cells #[.int .i64 fl] 3) none)
   have H7:=hid (HG.o.kept A7)
   have RT:=hid (HT1.o.grown A7)
   have hA:=hid H7.o.row
   have n2:(wr.alloc (.cells #[.int .i64 fl] 3)).drew.cell? ⟨R,2,none⟩=some (.slice av acc.length cv):=H7.o.blk.cell 2
   have hN:Hd (∀ j u,[Value.int .i64 fl][j]?=some u->(wr.alloc (.cells #[.int .i64 fl] 3)).drew.cell? ((⟨wr.heap.size,0,none⟩:Addr).add j)=some u):=World.news_of_block (heap_alloc_new wr (.cells #[.int .i64 fl] 3))
   have hOne:Hd (∀ u∈[Value.int .i64 fl],u.oneCell'=true):=by intro u hu; simp at hu; subst hu; rfl
   have h63:Hd (acc.length+1<=maxLen):=by show _<=_; unfold maxLen; omega
   have hby:Hd ((acc.length+1) * 8<=140737488355328):=by show _<=_; omega
   have hbs:Hd (W0.heap.size<=(wr.alloc (.cells #[.int .i64 fl] 3)).drew.heap.size):=H7.o.gr.size
   have SA:Hd ((wr.alloc (.cells #[.int .i64 fl] 3)).drew.cell? ⟨R,1,none⟩=some (.int .i64 fl)):=H7.o.blk.cell 1
   have STEP:=hid (fun (v':Value) (w3:World) (hown':w3.ownsRow W0.heap.size 3 1 v' (acc.length+1) (acc.map (Value.int .i64) ++ [.int .i64 fl])) (hg:(wr.alloc (.cells #[.int .i64 fl] 3)).drew.grownBy w3 (Value.ownBlock (.slice av acc.length cv))) (hat:v'.ownBlock=Value.ownBlock (.slice av acc.length cv)\/v'.ownBlock=some (wr.alloc (.cells #[.int .i64 fl] 3)).drew.heap.size)=>H7.o.put hown' hg hat)
   clear A7 H7 HG HT1 c0
   refine wp_region_held_drew (S:=(fun w'=>w'.cell? ⟨R,1,none⟩=some (.int .i64 fl))) (by kernel_rfl) c1 ?_
   intro hS
   refine wpAnyH_take (i:=0) (v:=?_) rfl (by kernel_rfl) (by kernel_rfl) (by kernel_rfl) (fun _ _ _ h=>h) (Or.inl ⟨by kernel_rfl,?_⟩) hS ?_
   rotate_left
   ·intro w' hw'; have x2:=hw'; go_simp; with_reducible rfl
   refine wpAnyH_take (i:=1) (v:=?_) rfl (by kernel_rfl) (by kernel_rfl) (by kernel_rfl) (fun _ _ _ h=>h) (Or.inl ⟨by kernel_rfl,?_⟩) hS ?_
   rotate_left
   ·intro w' hw'; have x2:=hw'; go_simp; with_reducible rfl
   refine wpAnyH_take (i:=2) (v:=?_) rfl (by kernel_rfl) (by kernel_rfl) (by kernel_rfl) (fun _ _ _ h=>h) (Or.inl ⟨by kernel_rfl,?_⟩) hS ?_
   rotate_left
   ·intro w' hw'; have x2:=hw'; go_simp; with_reducible rfl
   refine wpAnyH_take (i:=3) (v:=?_) rfl (by kernel_rfl) (by kernel_rfl) (by kernel_rfl) (fun _ _ _ h=>h) (Or.inl ⟨by kernel_rfl,?_⟩) hS ?_
   rotate_left
   ·intro w' hw'; have x2:=hw'; go_simp; with_reducible rfl
   refine wpAnyH_take (i:=5) (v:=?_) rfl (by kernel_rfl) (by kernel_rfl) (by kernel_rfl) (fun _ _ _ h=>h) (Or.inl ⟨by kernel_rfl,?_⟩) hS ?_
   rotate_left
   ·intro w' hw'; have x2:=hw'; go_simp; with_reducible rfl
   refine wpAnyH_take (i:=6) (v:=?_) rfl (by kernel_rfl) (by kernel_rfl) (by kernel_rfl) (fun _ _ _ h=>h) (Or.inl ⟨by kernel_rfl,?_⟩) hS ?_
   rotate_left
   ·intro w' hw'; have x2:=hw'; go_simp; with_reducible rfl
   refine wpAnyH_take (i:=7) (v:=?_) rfl (by kernel_rfl) (by kernel_rfl) (by kernel_rfl) (fun _ _ _ h=>h) (Or.inl ⟨by kernel_rfl,?_⟩) hS ?_
   rotate_left
   ·intro w' hw'; have x2:=hw'; go_simp; with_reducible rfl
   refine wpAnyH_take (i:=8) (v:=?_) rfl (by kernel_rfl) (by kernel_rfl) (by kernel_rfl) (fun _ _ _ h=>h) (Or.inl ⟨by kernel_rfl,?_⟩) hS ?_
   rotate_left
   ·intro w' hw'; have x2:=hw'; go_simp; with_reducible rfl
   refine wpAnyH_ready (rs:=[4,9]) (by kernel_rfl) (by simp) ?_
   refine AllReadyH.cons rfl (fun K hK=>?_) (AllReadyH.cons rfl (fun K hK=>?_) AllReadyH.nil)
   go_simp
   refine hK.out _ _ hS (fun hS2=>?_)
   clear hK K
   refine wpAnyH_ready (rs:=[9]) (by kernel_rfl) (by simp) ?_
   rotate_left
   go_simp
   refine hK.out _ _ SA.o (fun hS2=>?_)
   clear hK K
   refine wpAnyH_ready (rs:=[4]) (by kernel_rfl) (by simp) ?_
   all_goals
    refine AllReadyH.cons rfl (fun K hK=>?_) AllReadyH.nil
    go_simp
    refine hK.out _ _ SA.o (fun hS3=>?_)
    clear hK K hS2 hS3
    refine wpAnyH_ready (rs:=[10]) (by kernel_rfl) (by simp) ?_
    refine AllReadyH.cons rfl (fun K hK=>?_) AllReadyH.nil
    refine yaa _ (.tmp 30) (.tmp 35) 37 rfl W0.heap.size 3 i0 (.int .i64 0) 1 8 Tryz.underlying37 hi hz0 hz1 hz2 rfl (by decide) (.slice av acc.length cv) acc.length (acc.map (Value.int .i64)) (by kernel_rfl) hA.o ⟨wr.heap.size,0,none⟩ 1 1 [.int .i64 fl] (by kernel_rfl) rfl hN.o hOne.o h63.o hby.o hbs.o ?_
    intro v' w3 hown' hgrow _ hat
    obtain ⟨av',cv',rfl⟩:=yg hown'
    obtain ⟨⟨t1,t2⟩,t3,t4,t5,t6⟩:=STEP.o _ _ hown' hgrow hat
    have T1:=hid t1
    have T2:=hid t2
    have T3:Hd ((w3.setCell ⟨R,2,none⟩ (.slice av' (acc.length+1) cv')).cell? ⟨R,1,none⟩=some (.int .i64 fl)):=t1.blk.cell 1
    refine hK.out _ _ t6 (fun hS4=>?_)
    clear hK K hown' hgrow t1 t2 t6 hat
    refine wpAnyH_take (i:=11) (v:=?_) rfl (by kernel_rfl) (by kernel_rfl) (by kernel_rfl) (fun _ _ _ h=>h) (Or.inl ⟨by kernel_rfl,?_⟩) hS4 ?_
    rotate_left
    ·intro w' hw'; have x2:=hw'; go_simp; with_reducible rfl
    refine wpAnyH_take (i:=12) (v:=?_) rfl (by kernel_rfl) (by kernel_rfl) (by kernel_rfl) (fun _ _ _ h=>h) (Or.inl ⟨by kernel_rfl,?_⟩) hS4 ?_
    rotate_left
    ·intro w' hw'; have x2:=hw'; go_simp; with_reducible rfl
    refine wpAnyH_ready (rs:=[13]) (by kernel_rfl) (by simp) ?_
    refine AllReadyH.cons rfl (fun K hK=>?_) AllReadyH.nil
    go_simp
    refine hK.out _ _ T3.o (fun hS5=>?_)
    clear hK K
    refine wpAnyH_done (by kernel_rfl) ?_ _
    try simp only [yaN,ysN,ysL,ysM,ysD,ysB,ysC]
    clear hA hN hOne h63 hby hbs c2 n2 t3 t4 t5 hS4 hS5 hS STEP SA T3
    go_wp2
    go_roundg (gk - 1)
    case measure=>omega
    case rel=>exact ⟨acc ++ [fl],_,T1.o,RT.o.trans T2.o,EG.o,by rw [ysF,List.length_singleton]; omega,by rw [ysF,List.length_singleton]; omega⟩
  ·have EG:=hid (show Ln.gapTo base fl bg ws=acc from HEG.o.trans (yoW hlt))
   have d1:decide (base+4 * (acc.length:Int) < bg)=false:=by simpa using hlt
   clear hlt HEG
   go_wp2
   go_quiet (fail)
   have HGq:=hid (HG.o.kept (ye (World.grownBy.refl wr none) nq))
   have HTq:=hid (HT1.o.grown (ye (World.grownBy.refl wr none) nq))
   have kb:=CB.o _ HGq.o.gr
   go_wp2_with fail
   refine (cW.o _ HGq.o.gr).mono ?_
   rintro e w' ⟨aw,cw,rfl,⟨hin,-,-⟩,hw⟩
   rw [hw]
   clear hw w' cW kb c0 c1 c2 HG HT1 w1 w2
   have HI:=hid hin
   clear hin
   generalize wr.drewN nq=U at *
   go_wp2
   go_loopw [46] (fun i wr=>∃ (k:Nat) (acc2:List Int) (v2:Value),k<=xs.length/\i = .int .i64 k/\yay W0 R base fl acc2 v2 wr/\ybn w wr R v v2/\AT=acc2 ++ Ln.addWords ms m sect k (xs.drop k)/\acc2.length<=300090000+k) (fun i _=>xs.length - (intOf i).toNat)
   case atStart=>exact ⟨0,acc,_,Nat.zero_le _,rfl,HGq.o,HTq.o,by rw [EA.o,EG.o],by omega⟩
   case round =>
    obtain ⟨k,acc2,v2,hk,rfl,hra,hrt,hat2,hal2⟩:=hrel
    obtain ⟨av2,cv2,rfl⟩:=yg hra.row
    have HG:=hid hra
    have HT1:=hid hrt
    have HA2:=hid hat2
    clear hra hrt hat2 HGq HTq
    by_cases hlt:k < xs.length
    ·have g1:(k:Int) < (xs.length:Int):=by omega
     obtain ⟨sg,off,rfl,hc⟩:=HI.o (by omega)
     have ck:=yd (hc k hlt) HG.o.gr
     clear hc
     have P2:=hid (HA2.o.trans (by rw [yiP ms m sect xs k hlt]))
     have xr:=HW32.o _ (ysG hlt)
     have w4:IntKind.i64.wrap (4 * (k:Int))=4 * k:=IntWalk.i64_in _ ⟨by omega,by omega⟩
     have w5:IntKind.i64.wrap (4 * (k:Int)+4)=4 * k+4:=IntWalk.i64_in _ ⟨by omega,by omega⟩
     have cA1:=hid (cA.o (4 * k) wr HG.o.gr (by omega) (by omega))
     have cA2:=hid (cA.o (4 * k+4) wr HG.o.gr (by omega) (by omega))
     have cL1:=hid (cL.o (4 * k) xs[k] wr HG.o.gr xr.1 xr.2)
     generalize Ln.linked ms m sect (4 * k) xs[k]=y at *
     generalize Ln.address m sect (4 * k)=a1 at *
     generalize Ln.address m sect (4 * k+4)=a2 at *
     generalize xs[k]=x at *
     go_wp2_with fail
     refine cA1.o.mono ?_
     rintro e w' ⟨rfl,hw⟩
     rw [hw]
     clear hw w' cA1
     go_wp2_with fail
     refine cA2.o.mono ?_
     rintro e w' ⟨rfl,hw⟩
     rw [hw]
     clear hw w' cA2
     by_cases hy:a1 < a2
     ·have d2:decide (a1 < a2)=true:=by simpa using hy
      have P3:=hid (show AT=(acc2 ++ [y]) ++ Ln.addWords ms m sect (k+1) (xs.drop (k+1)) by rw [P2.o,if_pos hy]; simp)
      clear hy P2
      go_wp2_with fail
      refine cL1.o.mono ?_
      rintro e W5 ⟨rfl,h5⟩
      have A6:=ya h5 (ysE W5 (.cells #[.int .i64 y] 3) none)
      have HG5:=hid (HG.o.kept h5)
      have HG6:=hid (HG.o.kept A6)
      have HT6:=hid (HT1.o.grown A6)
      have c2:W5.cell? ⟨R,2,none⟩=some (.slice av2 acc2.length cv2):=HG5.o.blk.cell 2
      clear h5 A6 cL1 HG HT1 ck
      go_wp2_with (at_builtin; refine wpList_append_own_at _ rfl _ _ 37 rfl W0.heap.size 3 i0 (.int .i64 0) 1 8 Tryz.underlying37 hi hz0 hz1 hz2 rfl (by decide) _ _ _ rfl HG6.o.row ⟨W5.heap.size,0,none⟩ 1 1 [.int .i64 y] rfl rfl (cell_one_new _ _ _) (by intro u hu; simp at hu; subst hu; rfl) (by unfold maxLen; omega) (by omega) HG6.o.gr.size ?_; intro v' w3 hown' hgrow _ hat; obtain ⟨av',cv',rfl⟩:=yg hown'; obtain ⟨⟨t1,t2⟩,t3,t4,t5,t6⟩:=HG6.o.put hown' hgrow hat; have T1:=hid t1; have T2:=hid (HT6.o.trans t2); clear hown' hgrow hat t1 t2 t3 t6)
      go_roundw
      case rel=>exact ⟨k+1,acc2 ++ [y],_,by omega,by go_num,T1.o,T2.o,P3.o,by rw [ysF,List.length_singleton]; omega⟩
      case measure=>simp [intOf]; omega
     ·have d2:decide (a1 < a2)=false:=by simpa using hy
      have P3:=hid (show AT=acc2 ++ Ln.addWords ms m sect (k+1) (xs.drop (k+1)) by rw [P2.o,if_neg hy])
      clear hy P2
      go_wp2
      go_roundw
      case rel=>exact ⟨k+1,acc2,_,by omega,by go_num,HG.o,HT1.o,P3.o,by omega⟩
      case measure=>simp [intOf]; omega
    ·obtain rfl:k=xs.length:=by omega
     have g3:decide ((xs.length:Int) < (xs.length:Int))=false:=by simp
     have P2:=hid (show AT=acc2 by rw [HA2.o,List.drop_length]; simp [Ln.addWords])
     go_wp2
     go_end0
     rw [P2.o]
     exact ⟨rfl,_,HG.o,HT1.o⟩
namespace Ln
def image (ms:List Mod) (st:Spot) (bt bf bd no:Int):Im.Img:=⟨spotAddr ms st,bt,bf,bd,region ms 1 bt 19 ms [],region ms 2 bf 19 ms [],region ms 3 bd 0 ms [],no⟩
end Ln
theorem yeD (ms:List Ln.Mod) (sect base fl:Int):∀ (l:List Ln.Mod) (k:Nat) (ws:List Int) (h:k < l.length),Ln.region ms sect base fl (l.take (k+1)) ws=Ln.addTo ms l[k] sect base fl (Ln.region ms sect base fl (l.take k) ws):=by
 intro l
 induction l with
 | nil=>intro k ws h; simp at h
 | cons m l ih =>
  intro k ws h
  cases k with
  | zero=>rfl
  | succ k =>
   simp only [ysH] at h
   rw [List.take_succ_cons,List.take_succ_cons]
   unfold Ln.region
   exact ih k _ (by omega)
theorem yoB {m:Ln.Mod} (ms:List Ln.Mod) (hv:yw m.obj) (sect base fl:Int) (ws:List Int) (hb:0<=base) (ha:Ln.address m sect 0<=1200100000) (k:Nat) (h:ws.length<=300025001+1200 * k):(Ln.addTo ms m sect base fl ws).length<=300025001+1200 * (k+1):=by
 have a:=yjt ms m sect (yx m.obj sect) 0
 have b:=ydB hv sect
 unfold Ln.addTo
 rw [ysF,yie]
 omega
def ycZ (u v:Value):Prop:=∀ k,u.ownBlock=some k->v.ownBlock≠some k
theorem ycZ.symm {u v:Value} (h:ycZ u v):ycZ v u:=fun k e c=>h k c e
structure Regs (W0:World) (R1 R2 R3:Nat) (b1 f1 b2 f2 b3 f3:Int) (l1 l2 l3:List Int) (v1 v2 v3:Value) (W:World):Prop where
 a:yay W0 R1 b1 f1 l1 v1 W
 b:yay W0 R2 b2 f2 l2 v2 W
 c:yay W0 R3 b3 f3 l3 v3 W
 n12:R1≠R2
 n13:R1≠R3
 n23:R2≠R3
 p12:ycZ v1 v2
 p13:ycZ v1 v3
 p23:ycZ v2 v3
section
variable {W0 W W':World} {R1 R2 R3:Nat} {b1 f1 b2 f2 b3 f3:Int} {l1 l2 l3 l':List Int} {v1 v2 v3 v':Value}
theorem Regs.kept (h:Regs W0 R1 R2 R3 b1 f1 b2 f2 b3 f3 l1 l2 l3 v1 v2 v3 W) (hg:W.grownBy W' none):Regs W0 R1 R2 R3 b1 f1 b2 f2 b3 f3 l1 l2 l3 v1 v2 v3 W' :=
 ⟨h.a.kept hg,h.b.kept hg,h.c.kept hg,h.n12,h.n13,h.n23,h.p12,h.p13,h.p23⟩
theorem Regs.one (h:Regs W0 R1 R2 R3 b1 f1 b2 f2 b3 f3 l1 l2 l3 v1 v2 v3 W) (g:yay W0 R1 b1 f1 l' v' W') (t:ybn W W' R1 v1 v'):Regs W0 R1 R2 R3 b1 f1 b2 f2 b3 f3 l' l2 l3 v' v2 v3 W':=by
 obtain ⟨x1,x2⟩:=h.b.other h.a t g.gr h.n12.symm h.p12.symm
 obtain ⟨y1,y2⟩:=h.c.other h.a t g.gr h.n13.symm h.p13.symm
 exact ⟨g,x1,y1,h.n12,h.n13,h.n23,ycZ.symm x2,ycZ.symm y2,h.p23⟩
theorem Regs.two (h:Regs W0 R1 R2 R3 b1 f1 b2 f2 b3 f3 l1 l2 l3 v1 v2 v3 W) (g:yay W0 R2 b2 f2 l' v' W') (t:ybn W W' R2 v2 v'):Regs W0 R1 R2 R3 b1 f1 b2 f2 b3 f3 l1 l' l3 v1 v' v3 W':=by
 obtain ⟨x1,x2⟩:=h.a.other h.b t g.gr h.n12 h.p12
 obtain ⟨y1,y2⟩:=h.c.other h.b t g.gr h.n23.symm h.p23.symm
 exact ⟨x1,g,y1,h.n12,h.n13,h.n23,x2,h.p13,ycZ.symm y2⟩
theorem Regs.three (h:Regs W0 R1 R2 R3 b1 f1 b2 f2 b3 f3 l1 l2 l3 v1 v2 v3 W) (g:yay W0 R3 b3 f3 l' v' W') (t:ybn W W' R3 v3 v'):Regs W0 R1 R2 R3 b1 f1 b2 f2 b3 f3 l1 l2 l' v1 v2 v' W':=by
 obtain ⟨x1,x2⟩:=h.a.other h.c t g.gr h.n13 h.p13
 obtain ⟨y1,y2⟩:=h.b.other h.c t g.gr h.n23 h.p23
 exact ⟨x1,y1,g,h.n12,h.n13,h.n23,h.p12,x2,y2⟩
end
theorem yay.img {W0 W:World} {R I o:Nat} {base fl:Int} {ws:List Int} {v u:Value} {cs:Array Value} (h:yay W0 R base fl ws v W) (hb:yc W I cs 101) (hI:W0.heap.size<=I):yay W0 R base fl ws v (W.setCell ⟨I,o,none⟩ u):=by
 have gs:=yf W I o u
 exact ⟨yM h.gr gs (by intro k e; simp at e; omega),h.lo,yK h.blk gs (RowT.blk hb) (by decide),yz h.row gs (RowT.blk hb) (by decide)⟩
theorem Regs.img {W0 W:World} {R1 R2 R3 I o:Nat} {b1 f1 b2 f2 b3 f3:Int} {l1 l2 l3:List Int} {v1 v2 v3 u:Value} {cs:Array Value} (h:Regs W0 R1 R2 R3 b1 f1 b2 f2 b3 f3 l1 l2 l3 v1 v2 v3 W) (hb:yc W I cs 101) (hI:W0.heap.size<=I):Regs W0 R1 R2 R3 b1 f1 b2 f2 b3 f3 l1 l2 l3 v1 v2 v3 (W.setCell ⟨I,o,none⟩ u) :=
 ⟨h.a.img hb hI,h.b.img hb hI,h.c.img hb hI,h.n12,h.n13,h.n23,h.p12,h.p13,h.p23⟩
theorem ypE (W:World) (bt bf bd:Int):Regs W W.heap.size (W.heap.size+1) (W.heap.size+2) bt 19 bf 19 bd 0 [] [] [] (.slice none 0 0) (.slice none 0 0) (.slice none 0 0) (((W.alloc (.cells #[.int .i64 bt,.int .i64 19,.slice none 0 0] 128)).alloc (.cells #[.int .i64 bf,.int .i64 19,.slice none 0 0] 128)).alloc (.cells #[.int .i64 bd,.int .i64 0,.slice none 0 0] 128)):=by
 have s1:(W.alloc (.cells #[.int .i64 bt,.int .i64 19,.slice none 0 0] 128)).heap.size=W.heap.size+1:=Array.size_push _
 have s2:((W.alloc (.cells #[.int .i64 bt,.int .i64 19,.slice none 0 0] 128)).alloc (.cells #[.int .i64 bf,.int .i64 19,.slice none 0 0] 128)).heap.size=W.heap.size+2:=by
  rw [show ((W.alloc (.cells #[.int .i64 bt,.int .i64 19,.slice none 0 0] 128)).alloc (.cells #[.int .i64 bf,.int .i64 19,.slice none 0 0] 128)).heap.size=(W.alloc (.cells #[.int .i64 bt,.int .i64 19,.slice none 0 0] 128)).heap.size+1 from Array.size_push _,s1]
 have g1:=ysE W (.cells #[.int .i64 bt,.int .i64 19,.slice none 0 0] 128) none
 have g2:=ysE (W.alloc (.cells #[.int .i64 bt,.int .i64 19,.slice none 0 0] 128)) (.cells #[.int .i64 bf,.int .i64 19,.slice none 0 0] 128) none
 have g3:=ysE ((W.alloc (.cells #[.int .i64 bt,.int .i64 19,.slice none 0 0] 128)).alloc (.cells #[.int .i64 bf,.int .i64 19,.slice none 0 0] 128)) (.cells #[.int .i64 bd,.int .i64 0,.slice none 0 0] 128) none
 have x1:=yc.new W #[.int .i64 bt,.int .i64 19,.slice none 0 0] 128
 have x2:=yc.new (W.alloc (.cells #[.int .i64 bt,.int .i64 19,.slice none 0 0] 128)) #[.int .i64 bf,.int .i64 19,.slice none 0 0] 128
 have x3:=yc.new ((W.alloc (.cells #[.int .i64 bt,.int .i64 19,.slice none 0 0] 128)).alloc (.cells #[.int .i64 bf,.int .i64 19,.slice none 0 0] 128)) #[.int .i64 bd,.int .i64 0,.slice none 0 0] 128
 rw [s1] at x2
 rw [s2] at x3
 have G:=ya (ya g1 g2) g3
 refine ⟨⟨G,Nat.le_refl _,(x1.grown g2 (by simp)).grown g3 (by simp),World.ownsRow_nil _ _ _ _⟩,⟨G,by omega,x2.grown g3 (by simp),World.ownsRow_nil _ _ _ _⟩,⟨G,by omega,x3,World.ownsRow_nil _ _ _ _⟩,by omega,by omega,by omega,?_,?_,?_⟩
 all_goals (intro k e; simp [Value.ownBlock] at e)
set_option maxRecDepth 100000 in
theorem ynv (W0:World) (P:Nat) (bt bf bd:Int) (vm:Value) (bl gl:List Nat) (ms:List Ln.Mod) (st:Ln.Spot) (no:Int) (W:World) (ht:Tabs W) (h:ProgAt W0 P bt bf bd vm bl gl ms st no W) (hn:∀ m∈ms,yH bl.length m) (hv:∀ m∈ms,yw m.obj) (hlow:∀ m∈ms,MLow m) (hmean:∀ m∈ms,∀ s∈m.means,SLow s) (hst:yjr bl.length st) (hfew:bl.length<=48)
  (hbt:0<=bt/\bt<=1073741824) (hbf:0<=bf/\bf<=1073741824) (hbd:0<=bd/\bd<=1073741824) :
  Calls Tryz.prog 44 #[ptrV P] W fun e W'=>∃ I,e = .returned (ptrV I)/\yai W' I (Ln.image ms st bt bf bd no)/\W.grownBy W' none:=by
 obtain ⟨am,cm,rfl⟩:=yg h.row
 have HP:=hid h
 have RN:=hid (ypE W bt bf bd)
 have MA:=hid (h.modsAt hn)
 have LO:=hid h.lenO
 have cX:=hid (fun (k:Nat) (hk:k < ms.length) (b g:Nat) (hm:yE W bl b g ms[k]) (sect:Int) (R:Nat) (base fl:Int) (ws:List Int) (v:Value) (w:World) (hr:yay W R base fl ws v w) (hb0:0<=base) (hb1:base<=1200000000) (hl:ws.length<=300090000)=>yqf W bl ms b g ms[k] sect R base fl ws v w ht MA.o hm (hn _ (ysG hk)) (hv _ (ysG hk)) (ykx hlow ms[k] (hmean _ (ysG hk)) (hlow _ (ysG hk)) (hv _ (ysG hk))) hr hb0 hb1 hl (yds (hlow _ (ysG hk)) sect 0 (by omega) (by omega)).2)
 have LE:=hid (fun (k:Nat) (hk:k < ms.length) (sect base fl:Int) (ws:List Int) (hb:0<=base) (h:ws.length<=300025001+1200 * k)=>yoB ms (hv _ (ysG hk)) sect base fl ws hb (yds (hlow _ (ysG hk)) sect 0 (by omega) (by omega)).2 k h)
 have cSp:=hid (fun V (hg:W.grownBy V none)=>yeu bl ms st V (MA.o.kept hg) hst)
 have c0:W.cell? ⟨P,0,none⟩=some (.int .i64 bt):=h.blk.cell 0
 have c1:W.cell? ⟨P,1,none⟩=some (.int .i64 bf):=h.blk.cell 1
 have c2:W.cell? ⟨P,2,none⟩=some (.int .i64 bd):=h.blk.cell 2
 have c3:W.cell? ⟨P,3,none⟩=some (.slice am bl.length cm):=h.blk.cell 3
 have g1:=ysE W (.cells #[.int .i64 bt,.int .i64 19,.slice none 0 0] 128) none
 have g2:=ysE (W.alloc (.cells #[.int .i64 bt,.int .i64 19,.slice none 0 0] 128)) (.cells #[.int .i64 bf,.int .i64 19,.slice none 0 0] 128) none
 have g3:=ysE ((W.alloc (.cells #[.int .i64 bt,.int .i64 19,.slice none 0 0] 128)).alloc (.cells #[.int .i64 bf,.int .i64 19,.slice none 0 0] 128)) (.cells #[.int .i64 bd,.int .i64 0,.slice none 0 0] 128) none
 have C1:=hid (yd c1 g1)
 have C2:=hid (yd c2 (ya g1 g2))
 have C3:=hid (yd c3 (ya (ya g1 g2) g3))
 have s1:(W.alloc (.cells #[.int .i64 bt,.int .i64 19,.slice none 0 0] 128)).heap.size=W.heap.size+1:=Array.size_push _
 have s2:((W.alloc (.cells #[.int .i64 bt,.int .i64 19,.slice none 0 0] 128)).alloc (.cells #[.int .i64 bf,.int .i64 19,.slice none 0 0] 128)).heap.size=W.heap.size+2:=by
  rw [show ((W.alloc (.cells #[.int .i64 bt,.int .i64 19,.slice none 0 0] 128)).alloc (.cells #[.int .i64 bf,.int .i64 19,.slice none 0 0] 128)).heap.size=(W.alloc (.cells #[.int .i64 bt,.int .i64 19,.slice none 0 0] 128)).heap.size+1 from Array.size_push _,s1]
 clear h hn hv hlow hmean hst ht g1 g2 g3 c1 c2 c3
 unfold ptrV at *
 go_enter Tryz.func44,Tryz.ntmps44
 go_upto_region 2 with fail
 clear c0
 generalize W.alloc (.cells #[.int .i64 bt,.int .i64 19,.slice none 0 0] 128)=W1 at *
 have c1:=C1.o
 clear C1
 go_upto_region 3 with fail
 clear c1
 generalize W1.alloc (.cells #[.int .i64 bf,.int .i64 19,.slice none 0 0] 128)=W2 at *
 have c2:=C2.o
 clear C2
 go_upto_region 4 with fail
 clear c2
 generalize W2.alloc (.cells #[.int .i64 bd,.int .i64 0,.slice none 0 0] 128)=W3 at *
 have c3:=C3.o
 go_wp2
 clear c3 C3 s1 s2
 generalize hR1:W.heap.size=R1 at *
 generalize hR2:R1+1=R2 at *
 generalize hR3:R1+2=R3 at *
 clear hR1 hR2 hR3
 go_loopw [32] (fun i wr=>∃ (k:Nat) (l1 l2 l3:List Int) (v1 v2 v3:Value),k<=bl.length/\i = .int .i64 k/\Regs W R1 R2 R3 bt 19 bf 19 bd 0 l1 l2 l3 v1 v2 v3 wr/\l1=Ln.region ms 1 bt 19 (ms.take k) []/\l2=Ln.region ms 2 bf 19 (ms.take k) []/\l3=Ln.region ms 3 bd 0 (ms.take k) []/\(l1.length<=300025001+1200 * k/\l2.length<=300025001+1200 * k/\l3.length<=300025001+1200 * k)) (fun i _=>bl.length - (intOf i).toNat)
 case atStart=>exact ⟨0,[],[],[],_,_,_,Nat.zero_le _,rfl,RN.o,rfl,rfl,rfl,by simp,by simp,by simp⟩
 case round =>
  obtain ⟨k,l1,l2,l3,v1,v2,v3,hk,rfl,hrs,e1,e2,e3,hl1,hl2,hl3⟩:=hrel
  have HR:=hid hrs
  have E1:=hid e1
  have E2:=hid e2
  have E3:=hid e3
  clear hrs e1 e2 e3 RN
  by_cases hlt:k < bl.length
  ·have hko:k < ms.length:=by rw [LO.o]; exact hlt
   have hkg:k < gl.length:=by rw [HP.o.lenG]; exact hlt
   obtain ⟨sg,off,hsg,hsc⟩:=HP.o.modsIn.ptrs (by omega)
   have ck:=yd (hsc k hlt) HR.o.a.gr
   have HM:yE W bl bl[k] (gl[k]'hkg) ms[k]:=HP.o.mods k hlt
   have g1:(k:Int) < (bl.length:Int):=by omega
   have T1:=hid (yeD ms 1 bt 19 ms k [] hko)
   have T2:=hid (yeD ms 2 bf 19 ms k [] hko)
   have T3:=hid (yeD ms 3 bd 0 ms k [] hko)
   have L1:=LE.o k hko 1 bt 19 l1 (by omega) hl1
   have L2:=LE.o k hko 2 bf 19 l2 (by omega) hl2
   have L3:=LE.o k hko 3 bd 0 l3 (by omega) hl3
   have cY:=hid (fun sect R base fl ws v w hr hb0 hb1 hl=>cX.o k hko bl[k] (gl[k]'hkg) HM sect R base fl ws v w hr hb0 hb1 hl)
   rw [<- E1.o] at T1
   rw [<- E2.o] at T2
   rw [<- E3.o] at T3
   subst hsg
   clear hsc HM
   generalize ms[k]=m at *
   generalize hbk:bl[k]=bk at *
   clear hbk
   unfold ptrV at *
   go_wp2_with fail
   refine (cY.o 1 R1 bt 19 l1 v1 wr HR.o.a (by omega) (by omega) (by omega)).mono ?_
   rintro e U1 ⟨rfl,u1,ra,rt⟩
   have HR1:=hid (HR.o.one ra rt)
   clear ra rt HR ck
   go_wp2_with fail
   refine (cY.o 2 R2 bf 19 l2 v2 U1 HR1.o.b (by omega) (by omega) (by omega)).mono ?_
   rintro e U2 ⟨rfl,u2,ra,rt⟩
   have HR2:=hid (HR1.o.two ra rt)
   clear ra rt HR1
   go_wp2_with fail
   refine (cY.o 3 R3 bd 0 l3 v3 U2 HR2.o.c (by omega) (by omega) (by omega)).mono ?_
   rintro e U3 ⟨rfl,u3,ra,rt⟩
   have HR3:=hid (HR2.o.three ra rt)
   clear ra rt HR2
   go_wp2
   go_roundw
   case rel=>exact ⟨k+1,_,_,_,_,_,_,by omega,by go_num,HR3.o,T1.o.symm,T2.o.symm,T3.o.symm,L1,L2,L3⟩
   case measure=>simp [intOf]; omega
  ·obtain rfl:k=bl.length:=by omega
   have g3:decide ((bl.length:Int) < (bl.length:Int))=false:=by simp
   rw [List.take_of_length_le (by rw [LO.o]; exact Nat.le_refl _)] at E1 E2 E3
   have BP:=hid (HP.o.blk.grown HR.o.a.gr (by simp))
   have FIN:=hid (show Ln.image ms st bt bf bd no=⟨Ln.spotAddr ms st,bt,bf,bd,l1,l2,l3,no⟩ by rw [E1.o,E2.o,E3.o]; rfl)
   obtain ⟨sm,ss,so⟩:=st
   unfold yaz at cSp
   dsimp only at *
   generalize Ln.spotAddr ms ⟨sm,ss,so⟩=sa at *
   generalize yaq bl sm=q at *
   have c0:wr.cell? ⟨P,0,none⟩=some (.int .i64 bt):=BP.o.cell 0
   have c1:wr.cell? ⟨P,1,none⟩=some (.int .i64 bf):=BP.o.cell 1
   have c2:wr.cell? ⟨P,2,none⟩=some (.int .i64 bd):=BP.o.cell 2
   have c4:wr.cell? ⟨P,4,none⟩=some (.pointer q):=BP.o.cell 4
   have c5:wr.cell? ⟨P,5,none⟩=some (.int .i64 ss):=BP.o.cell 5
   have c6:wr.cell? ⟨P,6,none⟩=some (.int .i64 so):=BP.o.cell 6
   have c7:wr.cell? ⟨P,7,none⟩=some (.int .i64 no):=BP.o.cell 7
   have KD:=hid (fun W2 (hq:wr.drew.grownBy W2 none)=>show W2.cell? ⟨P,0,none⟩=some (.int .i64 bt)/\W2.cell? ⟨P,1,none⟩=some (.int .i64 bf)/\W2.cell? ⟨P,2,none⟩=some (.int .i64 bd)/\W2.cell? ⟨P,4,none⟩=some (.pointer q)/\W2.cell? ⟨P,5,none⟩=some (.int .i64 ss)/\W2.cell? ⟨P,6,none⟩=some (.int .i64 so)/\W2.cell? ⟨P,7,none⟩=some (.int .i64 no) from (fun (b:yc W2 P _ 117)=>⟨b.cell 0,b.cell 1,b.cell 2,b.cell 4,b.cell 5,b.cell 6,b.cell 7⟩) ((yW BP.o).grown hq (by simp)))
   go_wp2
   go_region_held3 (fun w'=>w'.cell? ⟨P,0,none⟩=some (.int .i64 bt)/\w'.cell? ⟨P,1,none⟩=some (.int .i64 bf)/\w'.cell? ⟨P,2,none⟩=some (.int .i64 bd)/\w'.cell? ⟨P,4,none⟩=some (.pointer q)/\w'.cell? ⟨P,5,none⟩=some (.int .i64 ss)/\w'.cell? ⟨P,6,none⟩=some (.int .i64 so)/\w'.cell? ⟨P,7,none⟩=some (.int .i64 no))
    (go_keep)
    (first | (go_at_call 68; refine (cSp.o _ (yh HR.o.a.gr)).mono ?_; rintro e w' ⟨rfl,hq⟩; obtain ⟨s0,s1,s2,s4,s5,s6,s7⟩:=KD.o _ hq))
   have GA:=ya (ya (yh (World.grownBy.refl wr none)) hq) (ysE w' (.cells #[.int .i64 sa,.int .i64 bt,.int .i64 bf,.int .i64 bd,.slice none 0 0,.slice none 0 0,.slice none 0 0,.int .i64 no] 101) none)
   have H6:=hid (HR.o.kept GA)
   have B6:=hid (yc.new w' #[.int .i64 sa,.int .i64 bt,.int .i64 bf,.int .i64 bd,.slice none 0 0,.slice none 0 0,.slice none 0 0,.int .i64 no] 101)
   have hI:=hid (show W.heap.size<=w'.heap.size from Nat.le_trans HR.o.a.gr.size (ya (yh (World.grownBy.refl wr none)) hq).size)
   clear GA hq HR KD BP c0 c1 c2 c4 c5 c6 c7 s0 s1 s2 s4 s5 s6 s7
   generalize w'.alloc (.cells #[.int .i64 sa,.int .i64 bt,.int .i64 bf,.int .i64 bd,.slice none 0 0,.slice none 0 0,.slice none 0 0,.int .i64 no] 101)=W6 at *
   generalize w'.heap.size=I at *
   obtain ⟨a1,k1,rfl⟩:=yg H6.o.a.row
   obtain ⟨a2,k2,rfl⟩:=yg H6.o.b.row
   obtain ⟨a3,k3,rfl⟩:=yg H6.o.c.row
   have B7:=hid (show yc (W6.setCell ⟨I,4,none⟩ (.slice a1 l1.length k1)) I #[.int .i64 sa,.int .i64 bt,.int .i64 bf,.int .i64 bd,.slice a1 l1.length k1,.slice none 0 0,.slice none 0 0,.int .i64 no] 101 by simpa using B6.o.set 4 (.slice a1 l1.length k1))
   have H7:=hid (show Regs W R1 R2 R3 bt 19 bf 19 bd 0 l1 l2 l3 _ _ _ (W6.setCell ⟨I,4,none⟩ (.slice a1 l1.length k1)) from H6.o.img B6.o hI.o)
   have B8:=hid (show yc ((W6.setCell ⟨I,4,none⟩ (.slice a1 l1.length k1)).setCell ⟨I,5,none⟩ (.slice a2 l2.length k2)) I #[.int .i64 sa,.int .i64 bt,.int .i64 bf,.int .i64 bd,.slice a1 l1.length k1,.slice a2 l2.length k2,.slice none 0 0,.int .i64 no] 101 by simpa using B7.o.set 5 (.slice a2 l2.length k2))
   have H8:=hid (show Regs W R1 R2 R3 bt 19 bf 19 bd 0 l1 l2 l3 _ _ _ ((W6.setCell ⟨I,4,none⟩ (.slice a1 l1.length k1)).setCell ⟨I,5,none⟩ (.slice a2 l2.length k2)) from H7.o.img B7.o hI.o)
   have r1:W6.cell? ⟨R1,2,none⟩=some (.slice a1 l1.length k1):=H6.o.a.blk.cell 2
   have i4:W6.cell? ⟨I,4,none⟩=some (.slice none 0 0):=B6.o.cell 4
   have f4:W6.frozen? ⟨I,4,none⟩=false:=B6.o.free 4
   go_upto_region 13 with fail
   clear r1 i4 f4 H6 B6
   generalize W6.setCell ⟨I,4,none⟩ (.slice a1 l1.length k1)=W7 at *
   have r1:W7.cell? ⟨R2,2,none⟩=some (.slice a2 l2.length k2):=H7.o.b.blk.cell 2
   have i4:W7.cell? ⟨I,5,none⟩=some (.slice none 0 0):=B7.o.cell 5
   have f4:W7.frozen? ⟨I,5,none⟩=false:=B7.o.free 5
   go_upto_region 14 with fail
   clear r1 i4 f4 H7 B7
   generalize W7.setCell ⟨I,5,none⟩ (.slice a2 l2.length k2)=W8 at *
   have B9:=hid (show yc (W8.setCell ⟨I,6,none⟩ (.slice a3 l3.length k3)) I #[.int .i64 sa,.int .i64 bt,.int .i64 bf,.int .i64 bd,.slice a1 l1.length k1,.slice a2 l2.length k2,.slice a3 l3.length k3,.int .i64 no] 101 by simpa using B8.o.set 6 (.slice a3 l3.length k3))
   have H9:=hid (show Regs W R1 R2 R3 bt 19 bf 19 bd 0 l1 l2 l3 _ _ _ (W8.setCell ⟨I,6,none⟩ (.slice a3 l3.length k3)) from H8.o.img B8.o hI.o)
   have r1:W8.cell? ⟨R3,2,none⟩=some (.slice a3 l3.length k3):=H8.o.c.blk.cell 2
   have i4:W8.cell? ⟨I,6,none⟩=some (.slice none 0 0):=B8.o.cell 6
   have f4:W8.frozen? ⟨I,6,none⟩=false:=B8.o.free 6
   go_wp2
   clear r1 i4 f4 H8 B8
   generalize W8.setCell ⟨I,6,none⟩ (.slice a3 l3.length k3)=W9 at *
   go_ret
   refine ⟨I,rfl,?_,H9.o.a.gr⟩
   rw [FIN.o]
   exact ⟨_,_,_,B9.o,yca H9.o.a.row,yca H9.o.b.row,yca H9.o.c.row⟩
end Go.Proofs.YtnfgdlkiialnnaaGreatDoor
