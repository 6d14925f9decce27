/- An image's bytes. -/
/- Linking. -/
/- Operations by their names, lines, texts, as functions. -/
/- The assembler: borders. -/
/- The assembler: align. -/
/- Walks: operations by their names. -/
/- Walks: operations by their names. -/
import Derived.Test.YtpgklkhgfcjceaaGreatDoorG05
import Derived.Test.YtpgklkhgfcjceaaGreatDoorG21
import Derived.Test.YtpgklkhgfcjceaaGreatDoorG14
import Derived.Test.YtpgklkhgfcjceaaGreatDoorG19
set_option maxHeartbeats 16000000
namespace Go.Proofs.YtpgklkhgfcjceaaGreatDoor
open Go.RowKit
namespace Im
def bytes (m:Img):List UInt8:=[73,77] ++ Lk.le m.start 4 ++ Lk.le m.text 4 ++ Lk.le m.far 4 ++ Lk.le m.data 4 ++ Lk.le (m.T.length:Int) 2 ++ Lk.le (m.F.length:Int) 2 ++ Lk.le (m.D.length:Int) 2 ++ Lk.le m.noughts 2 ++ Lk.nums m.T 4 ++ Lk.nums m.F 4 ++ Lk.nums m.D 4
end Im
structure ImgB (W:World) (b g:Nat) (m:Im.Img) (at_:Option Addr) (ct:Nat) (af:Option Addr) (cf:Nat) (ad:Option Addr) (cd:Nat):Prop where
 blk:yc W g #[.int .i64 m.start,.int .i64 m.text,.int .i64 m.far,.int .i64 m.data,.slice at_ m.T.length ct,.slice af m.F.length cf,.slice ad m.D.length cd,.int .i64 m.noughts] 90
 ne:g≠b
 text:ybc W b at_ m.T
 far:ybc W b af m.F
 data:ybc W b ad m.D
structure StI (w:World) (b g:Nat) (m:Im.Img) (at_:Option Addr) (ct:Nat) (af:Option Addr) (cf:Nat) (ad:Option Addr) (cd:Nat) (l:List UInt8) (W:World):Prop where
 wr:WrAt W b l
 ob:ImgB W b g m at_ ct af cf ad cd
 be:Below b w W
section
variable {w W W':World} {b g:Nat} {m:Im.Img} {at_ af ad:Option Addr} {ct cf cd:Nat} {l l':List UInt8}
theorem ImgB.kept (h:ImgB W b g m at_ ct af cf ad cd) (hk:Wk b W W'):ImgB W' b g m at_ ct af cf ad cd :=
 ⟨hk.2 g _ _ h.ne (by decide) h.blk,h.ne,h.text.kept hk,h.far.kept hk,h.data.kept hk⟩
theorem StI.step (h:StI w b g m at_ ct af cf ad cd l W) (hw:WrAt W' b l') (hk:Wk b W W'):StI w b g m at_ ct af cf ad cd l' W' :=
 ⟨hw,h.ob.kept hk,h.be.trans hk.1⟩
end
theorem yah.toB {W:World} {g:Nat} {m:Im.Img} (h:yah W g m) (ob:Obj):∃ at_ ct af cf ad cd,ImgB (W.alloc ob) W.heap.size g m at_ ct af cf ad cd:=by
 obtain ⟨at_,ct,af,cf,ad,cd,hb,h1,h2,h3⟩:=h.open
 have ne:∀ {e:TypeId} {size:Nat} {ao:Option Addr} {n cap:Nat} {xs:List Value},W.ownsRow 0 e size (.slice ao n cap) n xs->∀ k,Value.ownBlock (.slice ao n cap)=some k->k≠W.heap.size:=fun h k hk=>by have:=(h.lt k hk).2; omega
 refine ⟨at_,ct,af,cf,ad,cd,hb.grown (ysp _ _ none) (by simp),by have:=hb.lt; omega,?_,?_,?_⟩
 ·exact ybc.of_own (h1.alloc _) (ne h1)
 ·exact ybc.of_own (h2.alloc _) (ne h2)
 ·exact ybc.of_own (h3.alloc _) (ne h3)
def yfO (xs:List Int):Prop:=∀ i (h:i < xs.length),-1099511627776<=xs[i]/\xs[i]<=1099511627776
set_option maxRecDepth 100000 in
theorem yjA (g:Nat) (m:Im.Img) (w:World) (h:yah w g m) (ht:Im.Tame m) (hT:yfO m.T) (hF:yfO m.F) (hD:yfO m.D) :
  Calls Tryz.prog 42 #[.pointer (some ⟨g,0,none⟩)] w fun e w'=>e = .returned (.string (bs (Im.bytes m)))/\w.grownBy w' none:=by
 obtain ⟨a1,a2,a3,a4,a5,a6⟩:=ht
 have HT:=hid hT
 have HF:=hid hF
 have HD:=hid hD
 obtain ⟨at_,ct,af,cf,ad,cd,hob⟩:=h.toB (.cells #[.slice none 0 0] 105)
 have S0:Hd (StI w w.heap.size g m at_ ct af cf ad cd [] (w.alloc (.cells #[.slice none 0 0] 105))):=⟨yky w,hob,(Below.refl _ _).alloc (Nat.le_refl _) _⟩
 clear hob h hT hF hD
 go_enter Tryz.func42,Tryz.ntmps42
 go_wp2_with fail
 generalize hbb:w.heap.size=b at *
 have HBB:=hid hbb
 clear hbb
 refine Calls.at_world (StI w b g m at_ ct af cf ad cd []) S0.o ?_
 clear S0
 intro V0 h0
 have S0:=hid h0
 clear h0
 refine (yfK b ⟨#[73,77]⟩ [] V0 S0.o.wr (by simp) (by decide)).mono ?_
 rintro e V1 ⟨rfl,hw,hk⟩
 have S1:=hid (S0.o.step hw hk)
 clear S0
 generalize hE1:[] ++ sl ⟨#[73,77]⟩=l1 at *
 have n1:l1.length<=2:=by rw [<- hE1]; decide
 have E1:=hid hE1
 clear hE1 hw hk
 have k0:=S1.o.ob.blk.cell 0
 go_wp2_with fail
 refine (yG b m.start 4 4 rfl l1 V1 S1.o.wr (by omega) (by omega) (by omega) (by omega)).mono ?_
 rintro e V2 ⟨rfl,hw,hk⟩
 have S2:=hid (S1.o.step hw hk)
 clear S1 k0
 generalize hE2:l1 ++ Lk.le m.start 4=l2 at *
 have n2:l2.length<=6:=by rw [<- hE2,ysq,Lk.le_length]; omega
 have E2:=hid hE2
 clear hE2 hw hk
 have k0:=S2.o.ob.blk.cell 1
 go_wp2_with fail
 refine (yG b m.text 4 4 rfl l2 V2 S2.o.wr (by omega) (by omega) (by omega) (by omega)).mono ?_
 rintro e V3 ⟨rfl,hw,hk⟩
 have S3:=hid (S2.o.step hw hk)
 clear S2 k0
 generalize hE3:l2 ++ Lk.le m.text 4=l3 at *
 have n3:l3.length<=10:=by rw [<- hE3,ysq,Lk.le_length]; omega
 have E3:=hid hE3
 clear hE3 hw hk
 have k0:=S3.o.ob.blk.cell 2
 go_wp2_with fail
 refine (yG b m.far 4 4 rfl l3 V3 S3.o.wr (by omega) (by omega) (by omega) (by omega)).mono ?_
 rintro e V4 ⟨rfl,hw,hk⟩
 have S4:=hid (S3.o.step hw hk)
 clear S3 k0
 generalize hE4:l3 ++ Lk.le m.far 4=l4 at *
 have n4:l4.length<=14:=by rw [<- hE4,ysq,Lk.le_length]; omega
 have E4:=hid hE4
 clear hE4 hw hk
 have k0:=S4.o.ob.blk.cell 3
 go_wp2_with fail
 refine (yG b m.data 4 4 rfl l4 V4 S4.o.wr (by omega) (by omega) (by omega) (by omega)).mono ?_
 rintro e V5 ⟨rfl,hw,hk⟩
 have S5:=hid (S4.o.step hw hk)
 clear S4 k0
 generalize hE5:l4 ++ Lk.le m.data 4=l5 at *
 have n5:l5.length<=18:=by rw [<- hE5,ysq,Lk.le_length]; omega
 have E5:=hid hE5
 clear hE5 hw hk
 have k0:=S5.o.ob.blk.cell 4
 go_wp2_with fail
 refine (yG b (m.T.length:Int) 2 2 rfl l5 V5 S5.o.wr (by omega) (by omega) (by omega) (by omega)).mono ?_
 rintro e V6 ⟨rfl,hw,hk⟩
 have S6:=hid (S5.o.step hw hk)
 clear S5 k0
 generalize hE6:l5 ++ Lk.le (m.T.length:Int) 2=l6 at *
 have n6:l6.length<=20:=by rw [<- hE6,ysq,Lk.le_length]; omega
 have E6:=hid hE6
 clear hE6 hw hk
 have k0:=S6.o.ob.blk.cell 5
 go_wp2_with fail
 refine (yG b (m.F.length:Int) 2 2 rfl l6 V6 S6.o.wr (by omega) (by omega) (by omega) (by omega)).mono ?_
 rintro e V7 ⟨rfl,hw,hk⟩
 have S7:=hid (S6.o.step hw hk)
 clear S6 k0
 generalize hE7:l6 ++ Lk.le (m.F.length:Int) 2=l7 at *
 have n7:l7.length<=22:=by rw [<- hE7,ysq,Lk.le_length]; omega
 have E7:=hid hE7
 clear hE7 hw hk
 have k0:=S7.o.ob.blk.cell 6
 go_wp2_with fail
 refine (yG b (m.D.length:Int) 2 2 rfl l7 V7 S7.o.wr (by omega) (by omega) (by omega) (by omega)).mono ?_
 rintro e V8 ⟨rfl,hw,hk⟩
 have S8:=hid (S7.o.step hw hk)
 clear S7 k0
 generalize hE8:l7 ++ Lk.le (m.D.length:Int) 2=l8 at *
 have n8:l8.length<=24:=by rw [<- hE8,ysq,Lk.le_length]; omega
 have E8:=hid hE8
 clear hE8 hw hk
 have k0:=S8.o.ob.blk.cell 7
 go_wp2_with fail
 refine (yG b m.noughts 2 2 rfl l8 V8 S8.o.wr (by omega) (by omega) (by omega) (by omega)).mono ?_
 rintro e V9 ⟨rfl,hw,hk⟩
 have S9:=hid (S8.o.step hw hk)
 clear S8 k0
 generalize hE9:l8 ++ Lk.le m.noughts 2=l9 at *
 have n9:l9.length<=26:=by rw [<- hE9,ysq,Lk.le_length]; omega
 have E9:=hid hE9
 clear hE9 hw hk
 have k0:=S9.o.ob.blk.cell 4
 go_wp2_with fail
 refine (yaK b at_ ct 4 4 rfl m.T l9 V9 S9.o.wr S9.o.ob.text (by omega) (by omega) (by omega) HT.o).mono ?_
 rintro e V10 ⟨rfl,hw,hk⟩
 have S10:=hid (S9.o.step hw hk)
 clear S9 k0
 generalize hE10:l9 ++ Lk.nums m.T 4=l10 at *
 have n10:l10.length<=262166:=by rw [<- hE10,ysq,ybn]; omega
 have E10:=hid hE10
 clear hE10 hw hk
 have k0:=S10.o.ob.blk.cell 5
 go_wp2_with fail
 refine (yaK b af cf 4 4 rfl m.F l10 V10 S10.o.wr S10.o.ob.far (by omega) (by omega) (by omega) HF.o).mono ?_
 rintro e V11 ⟨rfl,hw,hk⟩
 have S11:=hid (S10.o.step hw hk)
 clear S10 k0
 generalize hE11:l10 ++ Lk.nums m.F 4=l11 at *
 have n11:l11.length<=524306:=by rw [<- hE11,ysq,ybn]; omega
 have E11:=hid hE11
 clear hE11 hw hk
 have k0:=S11.o.ob.blk.cell 6
 go_wp2_with fail
 refine (yaK b ad cd 4 4 rfl m.D l11 V11 S11.o.wr S11.o.ob.data (by omega) (by omega) (by omega) HD.o).mono ?_
 rintro e V12 ⟨rfl,hw,hk⟩
 have S12:=hid (S11.o.step hw hk)
 clear S11 k0
 generalize hE12:l11 ++ Lk.nums m.D 4=l12 at *
 have n12:l12.length<=786446:=by rw [<- hE12,ysq,ybn]; omega
 have E12:=hid hE12
 clear hE12 hw hk
 go_wp2_with fail
 refine (yhr b l12 V12 S12.o.wr).mono ?_
 rintro e w2 ⟨rfl,rfl⟩
 have FIN:=hid (show l12=Im.bytes m by rw [<- E12.o,<- E11.o,<- E10.o,<- E9.o,<- E8.o,<- E7.o,<- E6.o,<- E5.o,<- E4.o,<- E3.o,<- E2.o,<- E1.o]; simp [Im.bytes,sl])
 have GR:=hid S12.o.be
 clear S12
 go_wp2
 go_ret
 refine ⟨by rw [FIN.o]; rfl,?_⟩
 have hb:=GR.o
 exact ⟨hb.os,hb.tape,hb.output,hb.size,fun i hi _=>hb.block i (by have:=HBB.o; omega)⟩
namespace Ln
def linkO (os:List Lk.Obj) (bt bf bd:Int):List UInt8×Flt :=
 if (resolveFlt os).e≠0 then ([],resolveFlt os)
 else if (placesFlt (linkImg os bt bf bd) (linkMods os bt bf bd)).e≠0 then ([],placesFlt (linkImg os bt bf bd) (linkMods os bt bf bd))
 else (Im.bytes (linkImg os bt bf bd),ok)
end Ln
def ydc (bt bf bd:Int) (fs:List (List UInt8)) (e:Ending):Prop :=
 (∃ f:Ln.Flt,f.e≠0/\e = .returned (.tuple #[.string (bs []),lfA f]) /\
  (f=yab bt bf bd \/
  (yab bt bf bd=Ln.ok/\(fs.length < 1\/8 < fs.length)/\f=⟨31,0,[]⟩) \/
  (yab bt bf bd=Ln.ok/\1<=fs.length/\fs.length<=8/\∃ i,∃ h:i < fs.length,f=⟨32,i,[]⟩/\yfn fs[i]/\∀ j (hj:j < i),∃ a os,yaU (fs[j]'(by omega)) a os))) \/
 (yab bt bf bd=Ln.ok/\1<=fs.length/\fs.length<=8/\∃ (xs:List (Bool×List Lk.Obj)) (hx:xs.length=fs.length),(∀ i (h:i < fs.length),yaU fs[i] (xs[i]'(by omega)).1 (xs[i]'(by omega)).2)/\e = .returned (.tuple #[.string (bs (Ln.linkO (Ln.takeAll xs) bt bf bd).1),lfA (Ln.linkO (Ln.takeAll xs) bt bf bd).2]))
theorem ymf {bt bf bd:Int} (h:yab bt bf bd=Ln.ok):Im.Base bt/\Im.Base bf/\Im.Base bd:=by
 have e:(yab bt bf bd).e=0:=by rw [h]; rfl
 unfold yab at e
 by_cases h1:¬ Im.Base bt
 ·rw [if_pos h1] at e; cases e
 rw [if_neg h1] at e
 by_cases h2:¬ Im.Base bf
 ·rw [if_pos h2] at e; cases e
 rw [if_neg h2] at e
 by_cases h3:¬ Im.Base bd
 ·rw [if_pos h3] at e; cases e
 exact ⟨Classical.not_not.1 h1,Classical.not_not.1 h2,Classical.not_not.1 h3⟩
theorem ykJ {fs:List (List UInt8)} {xs:List (Bool×List Lk.Obj)} (hx:xs.length=fs.length) (h8:fs.length<=8) (h:∀ i (h:i < fs.length),yaU fs[i] (xs[i]'(by omega)).1 (xs[i]'(by omega)).2):(∀ o∈Ln.takeAll xs,yv o)/\(Ln.takeAll xs).length<=48:=by
 have q:∀ x∈xs,(∀ o∈x.2,yv o)/\x.2.length<=6:=by
  intro x hm
  obtain ⟨i,hi,rfl⟩:=List.getElem_of_mem hm
  exact yjs (h i (by omega))
 refine ⟨ylw yv xs [] (fun x hm=>(q x hm).1) (by simp),?_⟩
 have:=ylx xs [] (fun x hm=>(q x hm).2)
 unfold Ln.takeAll
 simp only [List.length_nil] at this
 omega
theorem yah.flt {W:World} {I R:Nat} {img:Im.Img} {cs:Array Value} (h:yah W I img) (hb:yc W R cs 45) (a b c:Value):yah (((W.setCell ⟨R,0,none⟩ a).setCell ⟨R,1,none⟩ b).setCell ⟨R,2,none⟩ c) I img:=by
 have G:=World.grownBy.trans (World.grownBy.trans (yf W R 0 a) (yf _ R 1 b)) (yf _ R 2 c)
 obtain ⟨vt,vf,vd,q0,q1,q2,q3⟩:=h
 have RT:=RowT.blk hb
 exact ⟨vt,vf,vd,yF q0 G RT (by decide),yy q1 G RT (by decide),yy q2 G RT (by decide),yy q3 G RT (by decide)⟩
theorem ylE {W:World} {R:Nat} {x y z:Value} (h:yc W R #[x,y,z] 45) (a b c:Value):yc (((W.setCell ⟨R,0,none⟩ a).setCell ⟨R,1,none⟩ b).setCell ⟨R,2,none⟩ c) R #[a,b,c] 45:=by
 simpa using ((h.set 0 a).set 1 b).set 2 c
theorem ykw {xs:List Int} (h:W32 xs):yfO xs:=fun i hi=>by
 have:=h _ (ysr hi)
 omega
set_option maxRecDepth 100000 in
theorem yoX (bt bf bd:Int) (af:Option Addr) (cf:Nat) (fs:List (List UInt8)) (w:World) (hin:ycR w af fs) (hsz:∀ f∈fs,f.length<=1048576) (ht:Tabs w) (hn:fs.length<=1048576) :
  Calls Tryz.prog 28 #[.slice af fs.length cf,.agg #[.int .i64 bt,.int .i64 bf,.int .i64 bd]] w fun e w'=>ydc bt bf bd fs e/\w.grownBy w' none:=by
 have HT:=hid ht
 have HI:=hid hin
 have cG:=hid (fun W (hg:w.grownBy W none)=>ymo bt bf bd af cf fs W (HI.o.kept hg) hsz (HT.o.grown hg) hn)
 have hs1:(w.alloc (.cells #[.int .i64 bt,.int .i64 bf,.int .i64 bd] 33)).heap.size=w.heap.size+1:=Array.size_push _
 have A1:=ysp (w.alloc (.cells #[.int .i64 bt,.int .i64 bf,.int .i64 bd] 33)) (.cells #[.int .i64 0,.int .i64 0,.string ⟨#[]⟩] 45) none
 have G1:=hid (ya (ysp w (.cells #[.int .i64 bt,.int .i64 bf,.int .i64 bd] 33) none) A1)
 have BR:=hid (yc.new (w.alloc (.cells #[.int .i64 bt,.int .i64 bf,.int .i64 bd] 33)) #[.int .i64 0,.int .i64 0,.string ⟨#[]⟩] 45)
 rw [hs1] at BR
 clear hin ht A1 hs1
 go_enter Tryz.func28,Tryz.ntmps28
 go_wp2_with fail
 generalize (w.alloc (.cells #[.int .i64 bt,.int .i64 bf,.int .i64 bd] 33)).alloc (.cells #[.int .i64 0,.int .i64 0,.string ⟨#[]⟩] 45)=W1 at *
 have hRw:w.heap.size<=w.heap.size+1:=by omega
 generalize w.heap.size+1=R at *
 refine (cG.o _ G1.o).mono ?_
 rintro e W2 ⟨hg,h2⟩
 have G2:=hid (ya G1.o h2)
 have BR2:=hid (BR.o.grown h2 (by simp))
 have hR1:=BR.o.lt
 have hR2:=BR2.o.lt
 have H12:=hid h2
 clear h2 cG BR
 rcases hg with ⟨f,hf,rfl,hc⟩ | ⟨hb,hl1,hl2,xs,hx,P,vm,bl,gl,hfi,rfl,hga⟩
 ·have RET:=hid (show ydc bt bf bd fs (.returned (.tuple #[.string (bs []),lfA f])) from .inl ⟨f,hf,rfl,hc⟩)
  obtain ⟨fe,fa,fn⟩:=f
  unfold lfA
  dsimp only at *
  have d1:(fe == 0)=false:=by simpa using hf
  have d2:(fe != 0)=true:=by simpa using hf
  have BX:=hid (yc.new W2 #[.int .i64 fe,.int .i64 fa,.string (bs fn)] 45)
  have AX:=hid (ysp W2 (.cells #[.int .i64 fe,.int .i64 fa,.string (bs fn)] 45) none)
  have BF:=hid (BR2.o.grown AX.o (by simp))
  have G3:=hid (ya G2.o AX.o)
  clear hf hc
  go_wp2
  generalize W2.alloc (.cells #[.int .i64 fe,.int .i64 fa,.string (bs fn)] 45)=V at *
  have hXR:R≠W2.heap.size:=by omega
  generalize W2.heap.size=X at *
  have x0:V.cell? ⟨X,0,none⟩=some (.int .i64 fe):=BX.o.cell 0
  have x1:V.cell? ⟨X,1,none⟩=some (.int .i64 fa):=BX.o.cell 1
  have x2:V.cell? ⟨X,2,none⟩=some (.string (bs fn)):=BX.o.cell 2
  have z0:V.cell? ⟨R,0,none⟩=some (.int .i64 0):=BF.o.cell 0
  have z1:V.cell? ⟨R,1,none⟩=some (.int .i64 0):=BF.o.cell 1
  have z2:V.cell? ⟨R,2,none⟩=some (.string ⟨#[]⟩):=BF.o.cell 2
  have f0:=BF.o.free 0
  have f1:=BF.o.free 1
  have f2:=BF.o.free 2
  go_region_held3 (fun w'=>w'.cell? ⟨X,0,none⟩=some (.int .i64 fe)/\w'.cell? ⟨X,1,none⟩=some (.int .i64 fa)/\w'.cell? ⟨X,2,none⟩=some (.string (bs fn)))
   (go_keep)
   (fail)
  go_wp2
  have F:=yaO (((BF.o.set 0 (.int .i64 fe)).set 1 (.int .i64 fa)).set 2 (.string (bs fn)))
  have h0:=F.cell 0
  have h1:=F.cell 1
  have h2:=F.cell 2
  simp only [yso,ysm,ysn,ysk,ysl,ysj] at h0 h1 h2
  refine bodyPost_ret (v:=.tuple #[.string (bs []),lfA ⟨fe,fa,fn⟩]) ?_ rfl ⟨RET.o,yi (yx G3.o _ hRw _ _ _)⟩
  clear F z0 z1 z2 f0 f1 f2
  generalize World.drew _=WF at *
  simp [results,Tryz.results28,go_sem,lfA,bs,h0,h1,h2]
 ·have LV:=ykJ hx hl2 hfi
  have FIN:=hid (fun (b:List UInt8) (f:Ln.Flt) (h:Ln.linkO (Ln.takeAll xs) bt bf bd=(b,f))=>show ydc bt bf bd fs (.returned (.tuple #[.string (bs b),lfA f])) from .inr ⟨hb,hl1,hl2,xs,hx,hfi,by rw [h]⟩)
  have hbs:=ymf hb
  clear hb hl1 hl2 hfi
  generalize Ln.takeAll xs=os at *
  have OK:=hid (yqy LV.1 LV.2 hbs.1 hbs.2.1 hbs.2.2)
  have RA:=hid (yip os LV.1)
  have t:=ycJ hbs.1
  have f:=ycJ hbs.2.1
  have d:=ycJ hbs.2.2
  have LO:=hga.lenO
  have AX:=ysp W2 (.cells #[.int .i64 0,.int .i64 0,.string (bs [])] 45) none
  have HP:=hid ((hga.prog.kept AX).f)
  have BX:=hid (yc.new W2 #[.int .i64 0,.int .i64 0,.string (bs [])] 45)
  have BF:=hid (BR2.o.grown AX (by simp))
  have hXR:R≠W2.heap.size:=by omega
  have hX1:=hid H12.o.size
  have RS:=hid (show Ln.linkO os bt bf bd=if (Ln.resolveFlt os).e≠0 then ([],Ln.resolveFlt os) else if (Ln.placesFlt (Ln.linkImg os bt bf bd) (Ln.linkMods os bt bf bd)).e≠0 then ([],Ln.placesFlt (Ln.linkImg os bt bf bd) (Ln.linkMods os bt bf bd)) else (Im.bytes (Ln.linkImg os bt bf bd),Ln.ok) from rfl)
  have HL48:=hid LV.2
  clear hga AX hx LV hbs
  unfold lfA Ln.ok
  dsimp only
  go_upto_region 4 with fail
  generalize W2.alloc (.cells #[.int .i64 0,.int .i64 0,.string (bs [])] 45)=V at *
  generalize W2.heap.size=X at *
  have cRes:=hid (yli V W1 P bt bf bd vm bl gl os V HP.o)
  generalize Ln.resolveFlt os=tf at *
  obtain ⟨te,ta,tn⟩:=tf
  unfold lfA ptrV at cRes
  unfold ptrV
  dsimp only at *
  go_wp2_with fail
  refine cRes.o.mono ?_
  rintro e V3 ⟨rfl,h3⟩
  have P3:=hid h3.toProgAt
  have BX3:=hid (h3.kf _ _ BX.o)
  have BR3:=hid (h3.kf _ _ BF.o)
  clear h3 cRes HP BX BF BR2
  have P4:=hid (P3.o.flt BX3.o hX1.o (.int .i64 te) (.int .i64 ta) (.string (bs tn)))
  have BX4:=hid (ylE BX3.o (.int .i64 te) (.int .i64 ta) (.string (bs tn)))
  have BF:=hid (yec BR3.o hXR (.int .i64 te) (.int .i64 ta) (.string (bs tn)))
  have x0:V3.cell? ⟨X,0,none⟩=some (.int .i64 0):=BX3.o.cell 0
  have x1:V3.cell? ⟨X,1,none⟩=some (.int .i64 0):=BX3.o.cell 1
  have x2:V3.cell? ⟨X,2,none⟩=some (.string (bs [])):=BX3.o.cell 2
  have y0:V3.frozen? ⟨X,0,none⟩=false:=BX3.o.free 0
  have y1:V3.frozen? ⟨X,1,none⟩=false:=BX3.o.free 1
  have y2:V3.frozen? ⟨X,2,none⟩=false:=BX3.o.free 2
  go_upto_region 5 with fail
  clear x0 x1 x2 y0 y1 y2 P3 BX3 BR3
  generalize (((V3.setCell ⟨X,0,none⟩ (.int .i64 te)).setCell ⟨X,1,none⟩ (.int .i64 ta)).setCell ⟨X,2,none⟩ (.string (bs tn)))=V4 at *
  have x0:V4.cell? ⟨X,0,none⟩=some (.int .i64 te):=BX4.o.cell 0
  have x1:V4.cell? ⟨X,1,none⟩=some (.int .i64 ta):=BX4.o.cell 1
  have x2:V4.cell? ⟨X,2,none⟩=some (.string (bs tn)):=BX4.o.cell 2
  have G3:=hid (ya G1.o P4.o.gr)
  by_cases he:te=0
  case neg =>
   have d1:(te == 0)=false:=by simpa using he
   have d2:(te != 0)=true:=by simpa using he
   have RET:=hid (FIN.o [] ⟨te,ta,tn⟩ (by rw [RS.o,if_pos he]))
   clear he
   go_wp2
   have z0:V4.cell? ⟨R,0,none⟩=some (.int .i64 0):=BF.o.cell 0
   have z1:V4.cell? ⟨R,1,none⟩=some (.int .i64 0):=BF.o.cell 1
   have z2:V4.cell? ⟨R,2,none⟩=some (.string ⟨#[]⟩):=BF.o.cell 2
   have f0:=BF.o.free 0
   have f1:=BF.o.free 1
   have f2:=BF.o.free 2
   go_region_held3 (fun w'=>w'.cell? ⟨X,0,none⟩=some (.int .i64 te)/\w'.cell? ⟨X,1,none⟩=some (.int .i64 ta)/\w'.cell? ⟨X,2,none⟩=some (.string (bs tn)))
    (go_keep)
    (fail)
   go_wp2
   have F:=yaO (((BF.o.set 0 (.int .i64 te)).set 1 (.int .i64 ta)).set 2 (.string (bs tn)))
   have h0:=F.cell 0
   have h1:=F.cell 1
   have h2:=F.cell 2
   simp only [yso,ysm,ysn,ysk,ysl,ysj] at h0 h1 h2
   refine bodyPost_ret (v:=.tuple #[.string (bs []),lfA ⟨te,ta,tn⟩]) ?_ rfl ⟨RET.o,yi (yx G3.o _ hRw _ _ _)⟩
   clear F z0 z1 z2 f0 f1 f2
   generalize World.drew _=WF at *
   simp [results,Tryz.results28,go_sem,lfA,bs,h0,h1,h2]
  case pos =>
   subst he
   have RS2:=hid (show Ln.linkO os bt bf bd=if (Ln.placesFlt (Ln.linkImg os bt bf bd) (Ln.linkMods os bt bf bd)).e≠0 then ([],Ln.placesFlt (Ln.linkImg os bt bf bd) (Ln.linkMods os bt bf bd)) else (Im.bytes (Ln.linkImg os bt bf bd),Ln.ok) by rw [RS.o,if_neg (by simp)])
   have cLay:=hid (ymx V4 W1 P bt bf bd vm bl gl _ _ 0 V4 P4.o.f (fun m hm=>by rw [<- LO]; exact (RA.o m hm).nice) (fun m hm=>(RA.o m hm).obj) (fun m hm=>(RA.o m hm).short) (by omega) (by omega) (by omega))
   clear RS RA
   unfold ptrV at cLay
   go_wp2_with fail
   refine cLay.o.mono ?_
   rintro e V5 ⟨rfl,h5⟩
   have P5:=hid (show ProgAt W1 P bt bf bd vm bl gl (Ln.linkMods os bt bf bd) (Ln.named os Ln.startN) (Ln.noughts bd (Ln.shorten (Ln.lay bt bf bd (Ln.resAll os (os.map Ln.bare))))) V5 from h5.toProgAt)
   have BX5:=hid (h5.kf _ _ BX4.o)
   have BR5:=hid (h5.kf _ _ BF.o)
   clear h5 cLay x0 x1 x2 P4 BX4 BF G3
   have cB:=hid (ynp W1 P bt bf bd vm bl gl _ _ _ V5 (HT.o.grown (ya G1.o P5.o.gr)) P5.o (by rw [<- LO]; exact OK.o.nice) OK.o.valid OK.o.low OK.o.mean (by rw [<- LO]; exact OK.o.start) (by rw [<- LO]; exact HL48.o) (by omega) (by omega) (by omega))
   unfold ptrV at cB
   go_wp2_with fail
   refine cB.o.mono ?_
   rintro e V6 ⟨I,rfl,hI,h6⟩
   have I6:=hid (show yah V6 I (Ln.linkImg os bt bf bd) from hI)
   have P6:=hid (P5.o.kept h6)
   have BX6:=hid (BX5.o.grown h6 (by simp))
   have BR6:=hid (BR5.o.grown h6 (by simp))
   clear hI h6 cB P5 BX5 BR5
   have cC:=hid (ygL W1 P bt bf bd vm bl gl _ _ _ I _ V6 P6.o (by rw [<- LO]; exact OK.o.nice) I6.o OK.o.tame)
   generalize Ln.placesFlt (Ln.linkImg os bt bf bd) (Ln.linkMods os bt bf bd)=pf at *
   obtain ⟨pe,pa,pn⟩:=pf
   unfold ptrV lfA at cC
   dsimp only at *
   go_wp2_with fail
   refine cC.o.mono ?_
   rintro e V7 ⟨rfl,h7⟩
   have I7:=hid (I6.o.kept h7)
   have P7:=hid (P6.o.kept h7)
   have BX7:=hid (BX6.o.grown h7 (by simp))
   have BR7:=hid (BR6.o.grown h7 (by simp))
   clear h7 cC I6 P6 BX6 BR6
   have I8:=hid (I7.o.flt BX7.o (.int .i64 pe) (.int .i64 pa) (.string (bs pn)))
   have P8:=hid (P7.o.flt BX7.o hX1.o (.int .i64 pe) (.int .i64 pa) (.string (bs pn)))
   have BX8:=hid (ylE BX7.o (.int .i64 pe) (.int .i64 pa) (.string (bs pn)))
   have BF:=hid (yec BR7.o hXR (.int .i64 pe) (.int .i64 pa) (.string (bs pn)))
   have x0:V7.cell? ⟨X,0,none⟩=some (.int .i64 0):=BX7.o.cell 0
   have x1:V7.cell? ⟨X,1,none⟩=some (.int .i64 ta):=BX7.o.cell 1
   have x2:V7.cell? ⟨X,2,none⟩=some (.string (bs tn)):=BX7.o.cell 2
   have y0:V7.frozen? ⟨X,0,none⟩=false:=BX7.o.free 0
   have y1:V7.frozen? ⟨X,1,none⟩=false:=BX7.o.free 1
   have y2:V7.frozen? ⟨X,2,none⟩=false:=BX7.o.free 2
   go_upto_region 10 with fail
   clear x0 x1 x2 y0 y1 y2 P7 BX7 BR7 I7
   generalize (((V7.setCell ⟨X,0,none⟩ (.int .i64 pe)).setCell ⟨X,1,none⟩ (.int .i64 pa)).setCell ⟨X,2,none⟩ (.string (bs pn)))=V8 at *
   have x0:V8.cell? ⟨X,0,none⟩=some (.int .i64 pe):=BX8.o.cell 0
   have x1:V8.cell? ⟨X,1,none⟩=some (.int .i64 pa):=BX8.o.cell 1
   have x2:V8.cell? ⟨X,2,none⟩=some (.string (bs pn)):=BX8.o.cell 2
   have G3:=hid (ya G1.o P8.o.gr)
   by_cases he:pe=0
   case neg =>
    have d1:(pe == 0)=false:=by simpa using he
    have d2:(pe != 0)=true:=by simpa using he
    have RET:=hid (FIN.o [] ⟨pe,pa,pn⟩ (by rw [RS2.o,if_pos he]))
    clear he
    go_wp2
    have z0:V8.cell? ⟨R,0,none⟩=some (.int .i64 0):=BF.o.cell 0
    have z1:V8.cell? ⟨R,1,none⟩=some (.int .i64 0):=BF.o.cell 1
    have z2:V8.cell? ⟨R,2,none⟩=some (.string ⟨#[]⟩):=BF.o.cell 2
    have f0:=BF.o.free 0
    have f1:=BF.o.free 1
    have f2:=BF.o.free 2
    go_region_held3 (fun w'=>w'.cell? ⟨X,0,none⟩=some (.int .i64 pe)/\w'.cell? ⟨X,1,none⟩=some (.int .i64 pa)/\w'.cell? ⟨X,2,none⟩=some (.string (bs pn)))
     (go_keep)
     (fail)
    go_wp2
    have F:=yaO (((BF.o.set 0 (.int .i64 pe)).set 1 (.int .i64 pa)).set 2 (.string (bs pn)))
    have h0:=F.cell 0
    have h1:=F.cell 1
    have h2:=F.cell 2
    simp only [yso,ysm,ysn,ysk,ysl,ysj] at h0 h1 h2
    refine bodyPost_ret (v:=.tuple #[.string (bs []),lfA ⟨pe,pa,pn⟩]) ?_ rfl ⟨RET.o,yi (yx G3.o _ hRw _ _ _)⟩
    clear F z0 z1 z2 f0 f1 f2
    generalize World.drew _=WF at *
    simp [results,Tryz.results28,go_sem,lfA,bs,h0,h1,h2]
   case pos =>
    subst he
    have RET:=hid (FIN.o (Im.bytes (Ln.linkImg os bt bf bd)) Ln.ok (by rw [RS2.o,if_neg (by simp)]))
    have iw:=ykO (Ln.named os Ln.startN) bt bf bd (Ln.noughts bd (Ln.shorten (Ln.lay bt bf bd (Ln.resAll os (os.map Ln.bare))))) OK.o.valid
    have cW:=hid (yjA I (Ln.linkImg os bt bf bd) V8 I8.o OK.o.tame (ykw iw.1) (ykw iw.2.1) (ykw iw.2.2))
    clear iw
    go_wp2_with fail
    refine cW.o.mono ?_
    rintro e V9 ⟨rfl,h9⟩
    have G9:=hid (ya G3.o h9)
    have BR:=hid (BF.o.grown h9 (by simp))
    clear h9 cW x0 x1 x2 P8 BX8 I8 BF
    have z0:V9.cell? ⟨R,0,none⟩=some (.int .i64 0):=BR.o.cell 0
    have z1:V9.cell? ⟨R,1,none⟩=some (.int .i64 0):=BR.o.cell 1
    have z2:V9.cell? ⟨R,2,none⟩=some (.string ⟨#[]⟩):=BR.o.cell 2
    have f0:=BR.o.free 0
    have f1:=BR.o.free 1
    have f2:=BR.o.free 2
    go_wp2
    have F:=((BR.o.set 0 (.int .i64 0)).set 1 (.int .i64 0)).set 2 (.string ⟨#[]⟩)
    have h0:=F.cell 0
    have h1:=F.cell 1
    have h2:=F.cell 2
    simp only [yso,ysm,ysn,ysk,ysl,ysj] at h0 h1 h2
    refine bodyPost_ret (v:=.tuple #[.string (bs (Im.bytes (Ln.linkImg os bt bf bd))),lfA Ln.ok]) ?_ rfl ⟨RET.o,yx G9.o _ hRw _ _ _⟩
    clear F z0 z1 z2 f0 f1 f2
    generalize World.setCell _ _ _=WF at *
    simp [results,Tryz.results28,go_sem,lfA,Ln.ok,bs,h0,h1,h2]
end Go.Proofs.YtpgklkhgfcjceaaGreatDoor

namespace Go.Proofs.YtpgklkhgfcjceaaGreatDoor
namespace As
def dirShape (t:List UInt8):Nat :=
 if t=[46,116,101,120,116] then 15 else
 if t=[46,102,97,114] then 15 else
 if t=[46,100,97,116,97] then 15 else
 if t=[46,98,115,115] then 15 else
 if t=[46,119,111,114,100] then 16 else
 if t=[46,115,112,97,99,101] then 17 else
 if t=[46,97,108,105,103,110] then 18 else
 if t=[46,103,108,111,98,108] then 19 else
 if t=[46,119,101,97,107] then 19 else
 0
def shapeOf (t:List UInt8):Nat :=
 if t=[97,100,100] then 1 else
 if t=[115,117,98] then 1 else
 if t=[115,108,116] then 1 else
 if t=[115,108,116,117] then 1 else
 if t=[120,111,114] then 1 else
 if t=[111,114] then 1 else
 if t=[97,110,100] then 1 else
 if t=[97,100,100,105] then 2 else
 if t=[115,108,116,105] then 2 else
 if t=[120,111,114,105] then 2 else
 if t=[111,114,105] then 2 else
 if t=[97,110,100,105] then 2 else
 if t=[108,117,105] then 3 else
 if t=[108,119] then 4 else
 if t=[115,119] then 5 else
 if t=[106,97,108,114] then 6 else
 if t=[101,99,97,108,108] then 7 else
 if t=[114,101,116] then 7 else
 if t=[110,111,112] then 7 else
 if t=[98,101,113] then 8 else
 if t=[98,110,101] then 8 else
 if t=[98,108,116] then 8 else
 if t=[98,103,101] then 8 else
 if t=[98,108,116,117] then 8 else
 if t=[98,103,101,117] then 8 else
 if t=[106,97,108] then 9 else
 if t=[106] then 10 else
 if t=[109,118] then 11 else
 if t=[108,105] then 12 else
 if t=[99,97,108,108] then 13 else
 if t=[116,97,105,108] then 13 else
 if t=[108,97] then 14 else
 dirShape t
def names:List (List UInt8):=[[],[108,117,105],[97,117,105,112,99],[106,97,108],[106,97,108,114],[98,101,113],[98,110,101],[98,108,116],[98,103,101],[98,108,116,117],[98,103,101,117],[108,119],[115,119],[97,100,100,105],[115,108,116,105],[120,111,114,105],[111,114,105],[97,110,100,105],[97,100,100],[115,117,98],[115,108,116],[115,108,116,117],[120,111,114],[111,114],[97,110,100],[101,99,97,108,108]]
def named (t:List UInt8):Nat:=((List.range 26).find? fun k=>decide (1<=k) && names.getD k [] == t).getD 0
def instruction (s:List UInt8) (shape op:Nat) (st:St):St :=
 if shape=1 then threeRegs s op st else if shape=2 then twoRegsNum s op st else if shape=3 then upper s st else if shape=4 then load s st
 else if shape=5 then store s st else if shape=6 then jumpRegister s st else if shape=7 then bare st else if shape=8 then branch s op st
 else if shape=9 then jumpLink s st else if shape=10 then layJump s 0 st else if shape=11 then move s st else if shape=12 then loadNumber s st
 else if shape=13 then call s st else if shape=14 then loadAddress s st else st
def directive (s:List UInt8) (shape:Nat) (st:St):St :=
 if shape=15 then section' st else if shape=16 then word s st else if shape=17 then space s st else if shape=18 then align s st
 else if shape=19 then binding s st else st
def mayStand (shape sect:Nat):Bool:=if shape<=14 then inCode sect else !(shape == 16) || !(sect == 4)
def operation (s:List UInt8) (t:Tok) (st:St):St :=
 if shapeOf t.text=0 then refuse 6 t.pos st
 else if !mayStand (shapeOf t.text) st.sect then refuse 9 t.pos st
 else if shapeOf t.text<=14 then instruction s (shapeOf t.text) (named t.text) { st with op:=t }
 else directive s (shapeOf t.text) { st with op:=t }
def lineOp (s:List UInt8) (t:Tok) (st:St):St :=
 let st1:=if t.kind == 1 then operation s t st else st
 if st1.tok.kind == 4 then st1 else refuse 3 st1.tok.pos st1
def line (s:List UInt8) (st:St):St :=
 let w:=takeWord s (advance s st)
 if w.1.kind == 1 && w.2.tok.is [58] then
  let v:=takeWord s (advance s (label w.1 w.2))
  lineOp s v.1 v.2
 else lineOp s w.1 w.2
def lines (s:List UInt8):Nat->St->St
 | 0,st=>st
 | n+1,st =>
  let r:=nextLine s (line s st)
  if r.1 then lines s n r.2 else r.2
def bindRest (ys:List Lk.Sym):List Lk.Sym:=ys.map fun y=>if y.sect=0/\y.bind=0 then ⟨y.name,1,y.sect,y.off⟩ else y
def orderRels (rs:List Lk.Rel):List Lk.Rel:=(rs.filter fun r=>r.sect=1) ++ (rs.filter fun r=>r.sect=2) ++ (rs.filter fun r=>r.sect=3)
def start:St:=⟨0,Tok.nil,0,0,Tok.nil,1,⟨[],[],[],0,[2,2,2,2],[],[]⟩⟩
def finish (o:Lk.Obj):Lk.Obj:={ o with syms:=bindRest o.syms,rels:=orderRels o.rels }
def assemble (s:List UInt8):(Nat×Nat)×Lk.Obj :=
 if 1000 < s.length then ((1,0),start.obj)
 else ((( lines s (s.length+1) start).fe,(lines s (s.length+1) start).fa),finish (lines s (s.length+1) start).obj)
end As
end Go.Proofs.YtpgklkhgfcjceaaGreatDoor

namespace Go.Proofs.YtpgklkhgfcjceaaGreatDoor
open Go.RowKit
theorem ygR (B:Nat) (s:ByteArray) (b g:Nat) (st:As.St) (W:World) (h:yl B s b g st W) :
  Calls Tryz.prog 138 #[.pointer (some ⟨b,0,none⟩)] W fun e W'=>e = .returned (.bool (As.inCode st.sect))/\W'=W:=by
 have c:=yai h
 have hs:=h.ok.sect
 clear h
 generalize st.sect=sect at *
 rcases (show sect=1\/sect=2\/sect=3\/sect=4 by omega) with rfl | rfl | rfl | rfl
 all_goals
  go_enter Tryz.func138,Tryz.ntmps138
  go_wp2
  go_ret
  exact ⟨rfl,rfl⟩
theorem ykD {B:Nat} {s:ByteArray} {b g:Nat} {V:World} {st:As.St} (h:yl B s b g st V) (i:Nat) (hi:i < 4):∃ vt vf vd ag cs vs vr x,yaD B V b g st.obj vt vf vd (.slice (some ⟨ag,0,none⟩) 4 cs) vs vr/\V.cell? ⟨g,4,none⟩=some (.slice (some ⟨ag,0,none⟩) 4 cs) /\
  st.obj.align[i]?=some x/\V.cell? ⟨ag,i,none⟩=some (.int .i64 x)/\(∀ o,V.frozen? ⟨ag,o,none⟩=false)/\4<=cs:=by
 have h4:=h.ok.align
 obtain ⟨vt,vf,vd,va,vs,vr,ho⟩:=h.own
 obtain ⟨as_,cs,rfl⟩:=yh ho.align
 obtain ⟨ag,cur,rfl,hb,-,-,hcs⟩:=ylM ho.align (by omega)
 obtain ⟨ag',off,hag,hc⟩:=yz.of_own ho.align (by omega)
 simp only [Option.some.injEq,Addr.mk.injEq] at hag
 obtain ⟨rfl,rfl,-⟩:=hag
 have k:=hc i (by omega)
 rw [Nat.zero_add] at k
 have g4:=ho.blk.cell 4
 simp only [ysk,ysl,ysj] at g4
 rw [h4] at ho g4 hcs
 exact ⟨vt,vf,vd,ag,cs,vs,vr,st.obj.align[i]'(by omega),ho,g4,yst (by omega),k,fun o=>hb.free o,hcs⟩
set_option maxRecDepth 100000 in
theorem ybe (B:Nat) (s:ByteArray) (b g:Nat) (st:As.St) (k:Int) (W:World) (h:yl B s b g st W) :
  Calls Tryz.prog 200 #[.pointer (some ⟨b,0,none⟩),.int .i64 k] W fun en W'=>en = .returned (.tuple #[])/\Does B s b g W (As.raiseBorder k st) W':=by
 have HW:=hid h
 have c13:=yai h
 have c14:=yam h
 have hs:=h.ok.sect
 obtain ⟨i,hi⟩:∃ i,i+1=st.sect:=⟨st.sect - 1,by omega⟩
 have hi4:i < 4:=by omega
 obtain ⟨vt,vf,vd,ag,cs,vs,vr,x,ho,g4,hx,kx,hfz,hcs⟩:=ykD h i hi4
 have fz:=hfz i
 have HO:=hid ho
 clear h ho hfz
 have RS:=hid (show As.raiseBorder k st=if x < k then { st with obj:={ st.obj with align:=st.obj.align.set i k } } else st from by
  unfold As.raiseBorder
  rw [show st.sect - 1=i by omega,hx]
  rfl)
 generalize As.raiseBorder k st=X at *
 have e1:(st.sect:Int)=(i:Int)+1:=by omega
 rw [e1] at c13
 have d1:decide ((i:Int) < 0)=false:=by simp
 have d2:decide ((4:Int)<=(i:Int))=false:=by simp; omega
 have d3:decide (4<=i)=false:=by simp; omega
 have g1:(0:Int)<=(i:Int):=by omega
 have g2:(i:Int) < 4:=by omega
 clear hs hi hx e1
 by_cases c:x < k
 ·have d:decide (x < k)=true:=by simp [c]
  rw [if_pos c] at RS
  have P:=hid (HW.o.does.after (HW.o.putAlign HO.o i hi4 k))
  clear c
  go_enter Tryz.func200,Tryz.ntmps200
  go_wp2
  go_end0
  rw [RS.o]
  exact ⟨rfl,P.o⟩
 ·have d:decide (x < k)=false:=by simp; omega
  rw [if_neg c] at RS
  clear c
  go_enter Tryz.func200,Tryz.ntmps200
  go_wp2
  go_end0
  rw [RS.o]
  exact ⟨rfl,HW.o.does⟩
theorem yod (s:List UInt8) (lo hi:Int) (st:As.St) (h:As.failed (As.number s lo hi st).2=false):lo<=(As.number s lo hi st).1/\(As.number s lo hi st).1<=hi:=by
 have key:∀ neg pos st,As.failed (As.numberFrom s neg pos lo hi st).2=false->lo<=(As.numberFrom s neg pos lo hi st).1/\(As.numberFrom s neg pos lo hi st).1<=hi:=by
  intro neg pos st hf
  unfold As.numberFrom at hf ⊢
  generalize (if neg then -(st.tok.n:Int) else (st.tok.n:Int))=x at *
  split at hf
  ·rename_i hk
   rw [if_pos hk]
   by_cases h:x < lo\/hi < x
   ·rw [if_pos h] at hf
    rw [ycC _ _ _ (by omega)] at hf
    cases hf
   ·rw [if_neg h]; simp only; omega
  ·rw [ycC _ _ _ (by omega)] at hf
   cases hf
 unfold As.number at h ⊢
 split at h
 ·rename_i hm; rw [if_pos hm]; exact key _ _ _ h
 ·rename_i hm; rw [if_neg hm]; exact key _ _ _ h
set_option maxRecDepth 100000 in
theorem ynk (B:Nat) (s:ByteArray) (b g:Nat) (st0:As.St) (W:World) (h:yl B s b g st0 W) :
  Calls Tryz.prog 156 #[.pointer (some ⟨b,0,none⟩)] W fun en W'=>en = .returned (.tuple #[])/\Does B s b g W (As.align (sl s) st0) W':=by
 have D0:=hid h.does
 clear h
 obtain ⟨X,hX⟩:∃ X,X=As.align (sl s) st0:=⟨_,rfl⟩
 rw [<- hX]
 unfold As.align at hX
 dsimp only at hX
 have RS:=hid hX
 clear hX
 have NO:=hid (yod (sl s) 2 4 st0)
 go_enter Tryz.func156,Tryz.ntmps156
 go_wp2_with fail
 refine (yaX B s b g st0 2 4 _ D0.o.1).mono ?_
 rintro e V1 ⟨rfl,hh⟩
 have D1:=hid (D0.o.afterB hh)
 clear hh D0
 generalize As.number (sl s) 2 4 st0=R1 at *
 obtain ⟨n,st1⟩:=R1
 dsimp only at RS D1 NO ⊢
 go_wp2_with fail
 refine (yaY B s b g st1 V1 D1.o.1).mono ?_
 rintro e w1 ⟨rfl,rfl⟩
 cases hf:As.failed st1
 ·rw [hf,if_neg (by simp)] at RS
  have hn:=NO.o hf
  clear hf NO
  have cI:=hid (fun V hV=>ygR B s b g st1 V hV)
  have hsb:=yeX D1.o.1.ok
  rcases (show n=2\/n=3\/n=4 by omega) with rfl | rfl | rfl
  ·clear hn
   have RS2:=hid (show X=As.raiseBorder 2 (As.alignTo 4 st1) from RS.o)
   clear RS
   go_wp2_with fail
   refine (cI.o w1 D1.o.1).mono ?_
   rintro e w2 ⟨rfl,rfl⟩
   cases hc:As.inCode st1.sect
   ·have RT:=hid (show As.alignTo 4 st1=As.lay (List.replicate (((4:Int) - 4 * As.secLen st1.obj st1.sect % 4) % 4 / 4).toNat 0) st1 from by unfold As.alignTo; rw [hc]; rfl)
    clear hc
    have cL:=hid (fun V hV=>ycs B s b g st1 V hV)
    have HD0:=hid (fun n=>D1.o.drewN n)
    have c13:=yai D1.o.1
    have c14:=yam D1.o.1
    generalize As.secLen st1.obj st1.sect=q at *
    obtain ⟨qn,rfl⟩:=Int.eq_ofNat_of_zero_le hsb.1
    have hq2:(qn:Int)<=1200:=hsb.2
    have hq3:(0:Int)<=4 * (qn:Int):=by omega
    have EC:=hid (show (((4:Int) - 4 * (qn:Int) % 4) % 4 / 4)=(((((4:Int) - 4 * (qn:Int) % 4) % 4 / 4).toNat:Nat):Int) by omega)
    have HC:=hid (show (((4:Int) - 4 * (qn:Int) % 4) % 4 / 4).toNat<=4096 by omega)
    have r0:(0:Int)<=4 * (qn:Int) % 4:=by omega
    have r1:4 * (qn:Int) % 4 < 4:=by omega
    generalize (((4:Int) - 4 * (qn:Int) % 4) % 4 / 4).toNat=cnt at *
    go_wp2
    go_quiet ((go_at_call 87; exact Calls.quiet_of_same (cL.o _ (HD0.o _).1)))
    have D2:=hid (HD0.o nq)
    clear HD0 c13 c14 cL
    generalize w2.drewN nq=V2 at *
    go_wp2_with fail
    refine (ybM 0 cnt _ (by have e:=EC.o; omega) _ HC.o).mono ?_
    rintro e V3 ⟨⟨ao,cap,rfl,hw⟩,hg⟩
    have D3:=hid (D2.o.grown hg)
    have HWD:=hid hw
    clear hg hw D2
    go_wp2_with fail
    refine (yfV B s b g st1 0 cnt ao cap V3 D3.o.1 HWD.o HC.o).mono ?_
    rintro e V4 ⟨rfl,h4⟩
    have D4:=hid (D3.o.after h4)
    clear h4
    rw [<- RT.o] at D4
    go_wp2_with fail
    refine (ybe B s b g _ 2 V4 D4.o.1).mono ?_
    rintro e V5 ⟨rfl,h5⟩
    have D5:=hid (D4.o.after h5)
    clear h5
    go_wp2
    go_end0
    rw [RS2.o]
    exact ⟨rfl,D5.o⟩
   ·have RT:=hid (show As.alignTo 4 st1=st1 from by unfold As.alignTo; rw [hc]; rfl)
    clear hc
    rw [RT.o] at RS2
    go_wp2_with fail
    refine (ybe B s b g _ 2 w2 D1.o.1).mono ?_
    rintro e V5 ⟨rfl,h5⟩
    have D5:=hid (D1.o.after h5)
    clear h5
    go_wp2
    go_end0
    rw [RS2.o]
    exact ⟨rfl,D5.o⟩
  ·clear hn
   have RS2:=hid (show X=As.raiseBorder 3 (As.alignTo 8 st1) from RS.o)
   clear RS
   go_wp2_with fail
   refine (cI.o w1 D1.o.1).mono ?_
   rintro e w2 ⟨rfl,rfl⟩
   cases hc:As.inCode st1.sect
   ·have RT:=hid (show As.alignTo 8 st1=As.lay (List.replicate (((8:Int) - 4 * As.secLen st1.obj st1.sect % 8) % 8 / 4).toNat 0) st1 from by unfold As.alignTo; rw [hc]; rfl)
    clear hc
    have cL:=hid (fun V hV=>ycs B s b g st1 V hV)
    have HD0:=hid (fun n=>D1.o.drewN n)
    have c13:=yai D1.o.1
    have c14:=yam D1.o.1
    generalize As.secLen st1.obj st1.sect=q at *
    obtain ⟨qn,rfl⟩:=Int.eq_ofNat_of_zero_le hsb.1
    have hq2:(qn:Int)<=1200:=hsb.2
    have hq3:(0:Int)<=4 * (qn:Int):=by omega
    have EC:=hid (show (((8:Int) - 4 * (qn:Int) % 8) % 8 / 4)=(((((8:Int) - 4 * (qn:Int) % 8) % 8 / 4).toNat:Nat):Int) by omega)
    have HC:=hid (show (((8:Int) - 4 * (qn:Int) % 8) % 8 / 4).toNat<=4096 by omega)
    have r0:(0:Int)<=4 * (qn:Int) % 8:=by omega
    have r1:4 * (qn:Int) % 8 < 8:=by omega
    generalize (((8:Int) - 4 * (qn:Int) % 8) % 8 / 4).toNat=cnt at *
    go_wp2
    go_quiet ((go_at_call 87; exact Calls.quiet_of_same (cL.o _ (HD0.o _).1)))
    have D2:=hid (HD0.o nq)
    clear HD0 c13 c14 cL
    generalize w2.drewN nq=V2 at *
    go_wp2_with fail
    refine (ybM 0 cnt _ (by have e:=EC.o; omega) _ HC.o).mono ?_
    rintro e V3 ⟨⟨ao,cap,rfl,hw⟩,hg⟩
    have D3:=hid (D2.o.grown hg)
    have HWD:=hid hw
    clear hg hw D2
    go_wp2_with fail
    refine (yfV B s b g st1 0 cnt ao cap V3 D3.o.1 HWD.o HC.o).mono ?_
    rintro e V4 ⟨rfl,h4⟩
    have D4:=hid (D3.o.after h4)
    clear h4
    rw [<- RT.o] at D4
    go_wp2_with fail
    refine (ybe B s b g _ 3 V4 D4.o.1).mono ?_
    rintro e V5 ⟨rfl,h5⟩
    have D5:=hid (D4.o.after h5)
    clear h5
    go_wp2
    go_end0
    rw [RS2.o]
    exact ⟨rfl,D5.o⟩
   ·have RT:=hid (show As.alignTo 8 st1=As.layWith 6 0 4 (List.replicate 1 19) st1 from by unfold As.alignTo; rw [hc]; rfl)
    clear hc
    go_wp2_with fail
    refine (ybM 19 1 _ rfl _ (by omega)).mono ?_
    rintro e V3 ⟨⟨ao,cap,rfl,hw⟩,hg⟩
    have D3:=hid (D1.o.grown hg)
    have HWD:=hid hw
    clear hg hw
    go_wp2_with fail
    refine (ygd B s b g st1 6 0 4 19 1 ao cap V3 D3.o.1 HWD.o (by omega)).mono ?_
    rintro e V4 ⟨rfl,h4⟩
    have D4:=hid (D3.o.after h4)
    clear h4
    rw [<- RT.o] at D4
    go_wp2_with fail
    refine (ybe B s b g _ 3 V4 D4.o.1).mono ?_
    rintro e V5 ⟨rfl,h5⟩
    have D5:=hid (D4.o.after h5)
    clear h5
    go_wp2
    go_end0
    rw [RS2.o]
    exact ⟨rfl,D5.o⟩
  ·clear hn
   have RS2:=hid (show X=As.raiseBorder 4 (As.alignTo 16 st1) from RS.o)
   clear RS
   go_wp2_with fail
   refine (cI.o w1 D1.o.1).mono ?_
   rintro e w2 ⟨rfl,rfl⟩
   cases hc:As.inCode st1.sect
   ·have RT:=hid (show As.alignTo 16 st1=As.lay (List.replicate (((16:Int) - 4 * As.secLen st1.obj st1.sect % 16) % 16 / 4).toNat 0) st1 from by unfold As.alignTo; rw [hc]; rfl)
    clear hc
    have cL:=hid (fun V hV=>ycs B s b g st1 V hV)
    have HD0:=hid (fun n=>D1.o.drewN n)
    have c13:=yai D1.o.1
    have c14:=yam D1.o.1
    generalize As.secLen st1.obj st1.sect=q at *
    obtain ⟨qn,rfl⟩:=Int.eq_ofNat_of_zero_le hsb.1
    have hq2:(qn:Int)<=1200:=hsb.2
    have hq3:(0:Int)<=4 * (qn:Int):=by omega
    have EC:=hid (show (((16:Int) - 4 * (qn:Int) % 16) % 16 / 4)=(((((16:Int) - 4 * (qn:Int) % 16) % 16 / 4).toNat:Nat):Int) by omega)
    have HC:=hid (show (((16:Int) - 4 * (qn:Int) % 16) % 16 / 4).toNat<=4096 by omega)
    have r0:(0:Int)<=4 * (qn:Int) % 16:=by omega
    have r1:4 * (qn:Int) % 16 < 16:=by omega
    generalize (((16:Int) - 4 * (qn:Int) % 16) % 16 / 4).toNat=cnt at *
    go_wp2
    go_quiet ((go_at_call 87; exact Calls.quiet_of_same (cL.o _ (HD0.o _).1)))
    have D2:=hid (HD0.o nq)
    clear HD0 c13 c14 cL
    generalize w2.drewN nq=V2 at *
    go_wp2_with fail
    refine (ybM 0 cnt _ (by have e:=EC.o; omega) _ HC.o).mono ?_
    rintro e V3 ⟨⟨ao,cap,rfl,hw⟩,hg⟩
    have D3:=hid (D2.o.grown hg)
    have HWD:=hid hw
    clear hg hw D2
    go_wp2_with fail
    refine (yfV B s b g st1 0 cnt ao cap V3 D3.o.1 HWD.o HC.o).mono ?_
    rintro e V4 ⟨rfl,h4⟩
    have D4:=hid (D3.o.after h4)
    clear h4
    rw [<- RT.o] at D4
    go_wp2_with fail
    refine (ybe B s b g _ 4 V4 D4.o.1).mono ?_
    rintro e V5 ⟨rfl,h5⟩
    have D5:=hid (D4.o.after h5)
    clear h5
    go_wp2
    go_end0
    rw [RS2.o]
    exact ⟨rfl,D5.o⟩
   ·have RT:=hid (show As.alignTo 16 st1=As.layWith 6 0 12 (List.replicate 3 19) st1 from by unfold As.alignTo; rw [hc]; rfl)
    clear hc
    go_wp2_with fail
    refine (ybM 19 3 _ rfl _ (by omega)).mono ?_
    rintro e V3 ⟨⟨ao,cap,rfl,hw⟩,hg⟩
    have D3:=hid (D1.o.grown hg)
    have HWD:=hid hw
    clear hg hw
    go_wp2_with fail
    refine (ygd B s b g st1 6 0 12 19 3 ao cap V3 D3.o.1 HWD.o (by omega)).mono ?_
    rintro e V4 ⟨rfl,h4⟩
    have D4:=hid (D3.o.after h4)
    clear h4
    rw [<- RT.o] at D4
    go_wp2_with fail
    refine (ybe B s b g _ 4 V4 D4.o.1).mono ?_
    rintro e V5 ⟨rfl,h5⟩
    have D5:=hid (D4.o.after h5)
    clear h5
    go_wp2
    go_end0
    rw [RS2.o]
    exact ⟨rfl,D5.o⟩
 ·rw [hf,if_pos rfl] at RS
  clear hf
  go_wp2
  (try simp only [Exit.inBlock,Exit.then]); refine bodyPost_ret (results_none rfl _ _ _) rfl ?_
  rw [RS.o]
  exact ⟨rfl,D1.o⟩
set_option maxRecDepth 100000 in
theorem yjn (t:List UInt8) (w:World) :
  Calls Tryz.prog 137 #[.string (bs t)] w fun e w'=>e = .returned (.int .i64 (As.dirShape t:Nat))/\w'=w:=by
 have RS:=hid (show As.dirShape t=(
 if t=[46,116,101,120,116] then 15 else
 if t=[46,102,97,114] then 15 else
 if t=[46,100,97,116,97] then 15 else
 if t=[46,98,115,115] then 15 else
 if t=[46,119,111,114,100] then 16 else
 if t=[46,115,112,97,99,101] then 17 else
 if t=[46,97,108,105,103,110] then 18 else
 if t=[46,103,108,111,98,108] then 19 else
 if t=[46,119,101,97,107] then 19 else
 0) from rfl)
 generalize As.dirShape t=X at *
 have e:∀ l:List UInt8,((bs t).toList == l)=decide (t=l):=fun l=>by rw [yH,Bool.eq_iff_iff,beq_iff_eq,decide_eq_true_iff]
 by_cases h:t=[46,116,101,120,116]
 ·rw [if_pos h] at RS
  have d0:=e [46,116,101,120,116]
  rw [decide_eq_true h] at d0
  clear h e
  go_enter Tryz.func137,Tryz.ntmps137
  go_wp2
  go_ret
  exact ⟨by rw [RS.o]; rfl,rfl⟩
 have d0:=e [46,116,101,120,116]
 rw [if_neg h] at RS
 rw [decide_eq_false h] at d0
 clear h
 by_cases h:t=[46,102,97,114]
 ·rw [if_pos h] at RS
  have d1:=e [46,102,97,114]
  rw [decide_eq_true h] at d1
  clear h e
  go_enter Tryz.func137,Tryz.ntmps137
  go_wp2
  go_ret
  exact ⟨by rw [RS.o]; rfl,rfl⟩
 have d1:=e [46,102,97,114]
 rw [if_neg h] at RS
 rw [decide_eq_false h] at d1
 clear h
 by_cases h:t=[46,100,97,116,97]
 ·rw [if_pos h] at RS
  have d2:=e [46,100,97,116,97]
  rw [decide_eq_true h] at d2
  clear h e
  go_enter Tryz.func137,Tryz.ntmps137
  go_wp2
  go_ret
  exact ⟨by rw [RS.o]; rfl,rfl⟩
 have d2:=e [46,100,97,116,97]
 rw [if_neg h] at RS
 rw [decide_eq_false h] at d2
 clear h
 by_cases h:t=[46,98,115,115]
 ·rw [if_pos h] at RS
  have d3:=e [46,98,115,115]
  rw [decide_eq_true h] at d3
  clear h e
  go_enter Tryz.func137,Tryz.ntmps137
  go_wp2
  go_ret
  exact ⟨by rw [RS.o]; rfl,rfl⟩
 have d3:=e [46,98,115,115]
 rw [if_neg h] at RS
 rw [decide_eq_false h] at d3
 clear h
 by_cases h:t=[46,119,111,114,100]
 ·rw [if_pos h] at RS
  have d4:=e [46,119,111,114,100]
  rw [decide_eq_true h] at d4
  clear h e
  go_enter Tryz.func137,Tryz.ntmps137
  go_wp2
  go_ret
  exact ⟨by rw [RS.o]; rfl,rfl⟩
 have d4:=e [46,119,111,114,100]
 rw [if_neg h] at RS
 rw [decide_eq_false h] at d4
 clear h
 by_cases h:t=[46,115,112,97,99,101]
 ·rw [if_pos h] at RS
  have d5:=e [46,115,112,97,99,101]
  rw [decide_eq_true h] at d5
  clear h e
  go_enter Tryz.func137,Tryz.ntmps137
  go_wp2
  go_ret
  exact ⟨by rw [RS.o]; rfl,rfl⟩
 have d5:=e [46,115,112,97,99,101]
 rw [if_neg h] at RS
 rw [decide_eq_false h] at d5
 clear h
 by_cases h:t=[46,97,108,105,103,110]
 ·rw [if_pos h] at RS
  have d6:=e [46,97,108,105,103,110]
  rw [decide_eq_true h] at d6
  clear h e
  go_enter Tryz.func137,Tryz.ntmps137
  go_wp2
  go_ret
  exact ⟨by rw [RS.o]; rfl,rfl⟩
 have d6:=e [46,97,108,105,103,110]
 rw [if_neg h] at RS
 rw [decide_eq_false h] at d6
 clear h
 by_cases h:t=[46,103,108,111,98,108]
 ·rw [if_pos h] at RS
  have d7:=e [46,103,108,111,98,108]
  rw [decide_eq_true h] at d7
  clear h e
  go_enter Tryz.func137,Tryz.ntmps137
  go_wp2
  go_ret
  exact ⟨by rw [RS.o]; rfl,rfl⟩
 have d7:=e [46,103,108,111,98,108]
 rw [if_neg h] at RS
 rw [decide_eq_false h] at d7
 clear h
 by_cases h:t=[46,119,101,97,107]
 ·rw [if_pos h] at RS
  have d8:=e [46,119,101,97,107]
  rw [decide_eq_true h] at d8
  clear h e
  go_enter Tryz.func137,Tryz.ntmps137
  go_wp2
  go_ret
  exact ⟨by rw [RS.o]; rfl,rfl⟩
 have d8:=e [46,119,101,97,107]
 rw [if_neg h] at RS
 rw [decide_eq_false h] at d8
 clear h
 clear e
 go_enter Tryz.func137,Tryz.ntmps137
 go_wp2
 go_ret
 exact ⟨by rw [RS.o]; rfl,rfl⟩
set_option maxRecDepth 100000 in
theorem ylo (t:List UInt8) (w:World) :
  Calls Tryz.prog 88 #[.string (bs t)] w fun e w'=>e = .returned (.int .i64 (As.shapeOf t:Nat))/\w'=w:=by
 have RS:=hid (show As.shapeOf t=(
 if t=[97,100,100] then 1 else
 if t=[115,117,98] then 1 else
 if t=[115,108,116] then 1 else
 if t=[115,108,116,117] then 1 else
 if t=[120,111,114] then 1 else
 if t=[111,114] then 1 else
 if t=[97,110,100] then 1 else
 if t=[97,100,100,105] then 2 else
 if t=[115,108,116,105] then 2 else
 if t=[120,111,114,105] then 2 else
 if t=[111,114,105] then 2 else
 if t=[97,110,100,105] then 2 else
 if t=[108,117,105] then 3 else
 if t=[108,119] then 4 else
 if t=[115,119] then 5 else
 if t=[106,97,108,114] then 6 else
 if t=[101,99,97,108,108] then 7 else
 if t=[114,101,116] then 7 else
 if t=[110,111,112] then 7 else
 if t=[98,101,113] then 8 else
 if t=[98,110,101] then 8 else
 if t=[98,108,116] then 8 else
 if t=[98,103,101] then 8 else
 if t=[98,108,116,117] then 8 else
 if t=[98,103,101,117] then 8 else
 if t=[106,97,108] then 9 else
 if t=[106] then 10 else
 if t=[109,118] then 11 else
 if t=[108,105] then 12 else
 if t=[99,97,108,108] then 13 else
 if t=[116,97,105,108] then 13 else
 if t=[108,97] then 14 else
 As.dirShape t) from rfl)
 generalize As.shapeOf t=X at *
 have e:∀ l:List UInt8,((bs t).toList == l)=decide (t=l):=fun l=>by rw [yH,Bool.eq_iff_iff,beq_iff_eq,decide_eq_true_iff]
 by_cases h:t=[97,100,100]
 ·rw [if_pos h] at RS
  have d0:=e [97,100,100]
  rw [decide_eq_true h] at d0
  clear h e
  go_enter Tryz.func88,Tryz.ntmps88
  go_wp2
  go_ret
  exact ⟨by rw [RS.o]; rfl,rfl⟩
 have d0:=e [97,100,100]
 rw [if_neg h] at RS
 rw [decide_eq_false h] at d0
 clear h
 by_cases h:t=[115,117,98]
 ·rw [if_pos h] at RS
  have d1:=e [115,117,98]
  rw [decide_eq_true h] at d1
  clear h e
  go_enter Tryz.func88,Tryz.ntmps88
  go_wp2
  go_ret
  exact ⟨by rw [RS.o]; rfl,rfl⟩
 have d1:=e [115,117,98]
 rw [if_neg h] at RS
 rw [decide_eq_false h] at d1
 clear h
 by_cases h:t=[115,108,116]
 ·rw [if_pos h] at RS
  have d2:=e [115,108,116]
  rw [decide_eq_true h] at d2
  clear h e
  go_enter Tryz.func88,Tryz.ntmps88
  go_wp2
  go_ret
  exact ⟨by rw [RS.o]; rfl,rfl⟩
 have d2:=e [115,108,116]
 rw [if_neg h] at RS
 rw [decide_eq_false h] at d2
 clear h
 by_cases h:t=[115,108,116,117]
 ·rw [if_pos h] at RS
  have d3:=e [115,108,116,117]
  rw [decide_eq_true h] at d3
  clear h e
  go_enter Tryz.func88,Tryz.ntmps88
  go_wp2
  go_ret
  exact ⟨by rw [RS.o]; rfl,rfl⟩
 have d3:=e [115,108,116,117]
 rw [if_neg h] at RS
 rw [decide_eq_false h] at d3
 clear h
 by_cases h:t=[120,111,114]
 ·rw [if_pos h] at RS
  have d4:=e [120,111,114]
  rw [decide_eq_true h] at d4
  clear h e
  go_enter Tryz.func88,Tryz.ntmps88
  go_wp2
  go_ret
  exact ⟨by rw [RS.o]; rfl,rfl⟩
 have d4:=e [120,111,114]
 rw [if_neg h] at RS
 rw [decide_eq_false h] at d4
 clear h
 by_cases h:t=[111,114]
 ·rw [if_pos h] at RS
  have d5:=e [111,114]
  rw [decide_eq_true h] at d5
  clear h e
  go_enter Tryz.func88,Tryz.ntmps88
  go_wp2
  go_ret
  exact ⟨by rw [RS.o]; rfl,rfl⟩
 have d5:=e [111,114]
 rw [if_neg h] at RS
 rw [decide_eq_false h] at d5
 clear h
 by_cases h:t=[97,110,100]
 ·rw [if_pos h] at RS
  have d6:=e [97,110,100]
  rw [decide_eq_true h] at d6
  clear h e
  go_enter Tryz.func88,Tryz.ntmps88
  go_wp2
  go_ret
  exact ⟨by rw [RS.o]; rfl,rfl⟩
 have d6:=e [97,110,100]
 rw [if_neg h] at RS
 rw [decide_eq_false h] at d6
 clear h
 by_cases h:t=[97,100,100,105]
 ·rw [if_pos h] at RS
  have d7:=e [97,100,100,105]
  rw [decide_eq_true h] at d7
  clear h e
  go_enter Tryz.func88,Tryz.ntmps88
  go_wp2
  go_ret
  exact ⟨by rw [RS.o]; rfl,rfl⟩
 have d7:=e [97,100,100,105]
 rw [if_neg h] at RS
 rw [decide_eq_false h] at d7
 clear h
 by_cases h:t=[115,108,116,105]
 ·rw [if_pos h] at RS
  have d8:=e [115,108,116,105]
  rw [decide_eq_true h] at d8
  clear h e
  go_enter Tryz.func88,Tryz.ntmps88
  go_wp2
  go_ret
  exact ⟨by rw [RS.o]; rfl,rfl⟩
 have d8:=e [115,108,116,105]
 rw [if_neg h] at RS
 rw [decide_eq_false h] at d8
 clear h
 by_cases h:t=[120,111,114,105]
 ·rw [if_pos h] at RS
  have d9:=e [120,111,114,105]
  rw [decide_eq_true h] at d9
  clear h e
  go_enter Tryz.func88,Tryz.ntmps88
  go_wp2
  go_ret
  exact ⟨by rw [RS.o]; rfl,rfl⟩
 have d9:=e [120,111,114,105]
 rw [if_neg h] at RS
 rw [decide_eq_false h] at d9
 clear h
 by_cases h:t=[111,114,105]
 ·rw [if_pos h] at RS
  have d10:=e [111,114,105]
  rw [decide_eq_true h] at d10
  clear h e
  go_enter Tryz.func88,Tryz.ntmps88
  go_wp2
  go_ret
  exact ⟨by rw [RS.o]; rfl,rfl⟩
 have d10:=e [111,114,105]
 rw [if_neg h] at RS
 rw [decide_eq_false h] at d10
 clear h
 by_cases h:t=[97,110,100,105]
 ·rw [if_pos h] at RS
  have d11:=e [97,110,100,105]
  rw [decide_eq_true h] at d11
  clear h e
  go_enter Tryz.func88,Tryz.ntmps88
  go_wp2
  go_ret
  exact ⟨by rw [RS.o]; rfl,rfl⟩
 have d11:=e [97,110,100,105]
 rw [if_neg h] at RS
 rw [decide_eq_false h] at d11
 clear h
 by_cases h:t=[108,117,105]
 ·rw [if_pos h] at RS
  have d12:=e [108,117,105]
  rw [decide_eq_true h] at d12
  clear h e
  go_enter Tryz.func88,Tryz.ntmps88
  go_wp2
  go_ret
  exact ⟨by rw [RS.o]; rfl,rfl⟩
 have d12:=e [108,117,105]
 rw [if_neg h] at RS
 rw [decide_eq_false h] at d12
 clear h
 by_cases h:t=[108,119]
 ·rw [if_pos h] at RS
  have d13:=e [108,119]
  rw [decide_eq_true h] at d13
  clear h e
  go_enter Tryz.func88,Tryz.ntmps88
  go_wp2
  go_ret
  exact ⟨by rw [RS.o]; rfl,rfl⟩
 have d13:=e [108,119]
 rw [if_neg h] at RS
 rw [decide_eq_false h] at d13
 clear h
 by_cases h:t=[115,119]
 ·rw [if_pos h] at RS
  have d14:=e [115,119]
  rw [decide_eq_true h] at d14
  clear h e
  go_enter Tryz.func88,Tryz.ntmps88
  go_wp2
  go_ret
  exact ⟨by rw [RS.o]; rfl,rfl⟩
 have d14:=e [115,119]
 rw [if_neg h] at RS
 rw [decide_eq_false h] at d14
 clear h
 by_cases h:t=[106,97,108,114]
 ·rw [if_pos h] at RS
  have d15:=e [106,97,108,114]
  rw [decide_eq_true h] at d15
  clear h e
  go_enter Tryz.func88,Tryz.ntmps88
  go_wp2
  go_ret
  exact ⟨by rw [RS.o]; rfl,rfl⟩
 have d15:=e [106,97,108,114]
 rw [if_neg h] at RS
 rw [decide_eq_false h] at d15
 clear h
 by_cases h:t=[101,99,97,108,108]
 ·rw [if_pos h] at RS
  have d16:=e [101,99,97,108,108]
  rw [decide_eq_true h] at d16
  clear h e
  go_enter Tryz.func88,Tryz.ntmps88
  go_wp2
  go_ret
  exact ⟨by rw [RS.o]; rfl,rfl⟩
 have d16:=e [101,99,97,108,108]
 rw [if_neg h] at RS
 rw [decide_eq_false h] at d16
 clear h
 by_cases h:t=[114,101,116]
 ·rw [if_pos h] at RS
  have d17:=e [114,101,116]
  rw [decide_eq_true h] at d17
  clear h e
  go_enter Tryz.func88,Tryz.ntmps88
  go_wp2
  go_ret
  exact ⟨by rw [RS.o]; rfl,rfl⟩
 have d17:=e [114,101,116]
 rw [if_neg h] at RS
 rw [decide_eq_false h] at d17
 clear h
 by_cases h:t=[110,111,112]
 ·rw [if_pos h] at RS
  have d18:=e [110,111,112]
  rw [decide_eq_true h] at d18
  clear h e
  go_enter Tryz.func88,Tryz.ntmps88
  go_wp2
  go_ret
  exact ⟨by rw [RS.o]; rfl,rfl⟩
 have d18:=e [110,111,112]
 rw [if_neg h] at RS
 rw [decide_eq_false h] at d18
 clear h
 by_cases h:t=[98,101,113]
 ·rw [if_pos h] at RS
  have d19:=e [98,101,113]
  rw [decide_eq_true h] at d19
  clear h e
  go_enter Tryz.func88,Tryz.ntmps88
  go_wp2
  go_ret
  exact ⟨by rw [RS.o]; rfl,rfl⟩
 have d19:=e [98,101,113]
 rw [if_neg h] at RS
 rw [decide_eq_false h] at d19
 clear h
 by_cases h:t=[98,110,101]
 ·rw [if_pos h] at RS
  have d20:=e [98,110,101]
  rw [decide_eq_true h] at d20
  clear h e
  go_enter Tryz.func88,Tryz.ntmps88
  go_wp2
  go_ret
  exact ⟨by rw [RS.o]; rfl,rfl⟩
 have d20:=e [98,110,101]
 rw [if_neg h] at RS
 rw [decide_eq_false h] at d20
 clear h
 by_cases h:t=[98,108,116]
 ·rw [if_pos h] at RS
  have d21:=e [98,108,116]
  rw [decide_eq_true h] at d21
  clear h e
  go_enter Tryz.func88,Tryz.ntmps88
  go_wp2
  go_ret
  exact ⟨by rw [RS.o]; rfl,rfl⟩
 have d21:=e [98,108,116]
 rw [if_neg h] at RS
 rw [decide_eq_false h] at d21
 clear h
 by_cases h:t=[98,103,101]
 ·rw [if_pos h] at RS
  have d22:=e [98,103,101]
  rw [decide_eq_true h] at d22
  clear h e
  go_enter Tryz.func88,Tryz.ntmps88
  go_wp2
  go_ret
  exact ⟨by rw [RS.o]; rfl,rfl⟩
 have d22:=e [98,103,101]
 rw [if_neg h] at RS
 rw [decide_eq_false h] at d22
 clear h
 by_cases h:t=[98,108,116,117]
 ·rw [if_pos h] at RS
  have d23:=e [98,108,116,117]
  rw [decide_eq_true h] at d23
  clear h e
  go_enter Tryz.func88,Tryz.ntmps88
  go_wp2
  go_ret
  exact ⟨by rw [RS.o]; rfl,rfl⟩
 have d23:=e [98,108,116,117]
 rw [if_neg h] at RS
 rw [decide_eq_false h] at d23
 clear h
 by_cases h:t=[98,103,101,117]
 ·rw [if_pos h] at RS
  have d24:=e [98,103,101,117]
  rw [decide_eq_true h] at d24
  clear h e
  go_enter Tryz.func88,Tryz.ntmps88
  go_wp2
  go_ret
  exact ⟨by rw [RS.o]; rfl,rfl⟩
 have d24:=e [98,103,101,117]
 rw [if_neg h] at RS
 rw [decide_eq_false h] at d24
 clear h
 by_cases h:t=[106,97,108]
 ·rw [if_pos h] at RS
  have d25:=e [106,97,108]
  rw [decide_eq_true h] at d25
  clear h e
  go_enter Tryz.func88,Tryz.ntmps88
  go_wp2
  go_ret
  exact ⟨by rw [RS.o]; rfl,rfl⟩
 have d25:=e [106,97,108]
 rw [if_neg h] at RS
 rw [decide_eq_false h] at d25
 clear h
 by_cases h:t=[106]
 ·rw [if_pos h] at RS
  have d26:=e [106]
  rw [decide_eq_true h] at d26
  clear h e
  go_enter Tryz.func88,Tryz.ntmps88
  go_wp2
  go_ret
  exact ⟨by rw [RS.o]; rfl,rfl⟩
 have d26:=e [106]
 rw [if_neg h] at RS
 rw [decide_eq_false h] at d26
 clear h
 by_cases h:t=[109,118]
 ·rw [if_pos h] at RS
  have d27:=e [109,118]
  rw [decide_eq_true h] at d27
  clear h e
  go_enter Tryz.func88,Tryz.ntmps88
  go_wp2
  go_ret
  exact ⟨by rw [RS.o]; rfl,rfl⟩
 have d27:=e [109,118]
 rw [if_neg h] at RS
 rw [decide_eq_false h] at d27
 clear h
 by_cases h:t=[108,105]
 ·rw [if_pos h] at RS
  have d28:=e [108,105]
  rw [decide_eq_true h] at d28
  clear h e
  go_enter Tryz.func88,Tryz.ntmps88
  go_wp2
  go_ret
  exact ⟨by rw [RS.o]; rfl,rfl⟩
 have d28:=e [108,105]
 rw [if_neg h] at RS
 rw [decide_eq_false h] at d28
 clear h
 by_cases h:t=[99,97,108,108]
 ·rw [if_pos h] at RS
  have d29:=e [99,97,108,108]
  rw [decide_eq_true h] at d29
  clear h e
  go_enter Tryz.func88,Tryz.ntmps88
  go_wp2
  go_ret
  exact ⟨by rw [RS.o]; rfl,rfl⟩
 have d29:=e [99,97,108,108]
 rw [if_neg h] at RS
 rw [decide_eq_false h] at d29
 clear h
 by_cases h:t=[116,97,105,108]
 ·rw [if_pos h] at RS
  have d30:=e [116,97,105,108]
  rw [decide_eq_true h] at d30
  clear h e
  go_enter Tryz.func88,Tryz.ntmps88
  go_wp2
  go_ret
  exact ⟨by rw [RS.o]; rfl,rfl⟩
 have d30:=e [116,97,105,108]
 rw [if_neg h] at RS
 rw [decide_eq_false h] at d30
 clear h
 by_cases h:t=[108,97]
 ·rw [if_pos h] at RS
  have d31:=e [108,97]
  rw [decide_eq_true h] at d31
  clear h e
  go_enter Tryz.func88,Tryz.ntmps88
  go_wp2
  go_ret
  exact ⟨by rw [RS.o]; rfl,rfl⟩
 have d31:=e [108,97]
 rw [if_neg h] at RS
 rw [decide_eq_false h] at d31
 clear h
 clear e
 have c:=hid (yjn t w)
 go_enter Tryz.func88,Tryz.ntmps88
 go_wp2_with fail
 refine c.o.mono ?_
 rintro e w1 ⟨rfl,rfl⟩
 go_wp2
 go_ret
 exact ⟨by rw [RS.o]; rfl,rfl⟩
end Go.Proofs.YtpgklkhgfcjceaaGreatDoor
