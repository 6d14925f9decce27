/- Linking: a section of code is laid. -/
/- Linking: all is laid. -/
/- Linking: all is laid. -/
/- Linking: which calls are short, as lists. -/
import Derived.Test.YtpgklkhgfcjceaaGreatDoorG14
import Derived.Test.YtpgklkhgfcjceaaGreatDoorG17
namespace Go.Proofs.YtpgklkhgfcjceaaGreatDoor
open Go.RowKit
theorem yjc (n:Int) (h0:-9223372036854775808<=n) (h1:n<=9223372036854775807):bits .andNot .i64 n 3=n - n % 4:=by
 have e1:(~~~ (BitVec.ofInt 64 3)).toNat=(2 ^ 62 - 1) <<< 2:=by decide
 have key:(BitVec.ofInt 64 n &&& ~~~ (BitVec.ofInt 64 3)).toNat=(n % ((2 ^ 64:Nat):Int)).toNat / 4 * 4:=by
  rw [BitVec.toNat_and,e1,BitVec.toNat_ofInt,ycE,Nat.and_two_pow_sub_one_eq_mod,Nat.shiftRight_eq_div_pow,Nat.shiftLeft_eq]
  omega
 show IntKind.i64.wrap ((BitVec.ofInt 64 n &&& ~~~ (BitVec.ofInt 64 3)).toNat:Nat)=_
 rw [key,IntKind.wrap_i64]
 omega
theorem yjb (n:Int) (h0:-9223372036854775808<=n) (h1:n<=9223372036854775807):bits .andNot .i64 n 7=n - n % 8:=by
 have e1:(~~~ (BitVec.ofInt 64 7)).toNat=(2 ^ 61 - 1) <<< 3:=by decide
 have key:(BitVec.ofInt 64 n &&& ~~~ (BitVec.ofInt 64 7)).toNat=(n % ((2 ^ 64:Nat):Int)).toNat / 8 * 8:=by
  rw [BitVec.toNat_and,e1,BitVec.toNat_ofInt,ycE,Nat.and_two_pow_sub_one_eq_mod,Nat.shiftRight_eq_div_pow,Nat.shiftLeft_eq]
  omega
 show IntKind.i64.wrap ((BitVec.ofInt 64 n &&& ~~~ (BitVec.ofInt 64 7)).toNat:Nat)=_
 rw [key,IntKind.wrap_i64]
 omega
theorem yhy (n:Int) (h0:-9223372036854775808<=n) (h1:n<=9223372036854775807):bits .andNot .i64 n 15=n - n % 16:=by
 have e1:(~~~ (BitVec.ofInt 64 15)).toNat=(2 ^ 60 - 1) <<< 4:=by decide
 have key:(BitVec.ofInt 64 n &&& ~~~ (BitVec.ofInt 64 15)).toNat=(n % ((2 ^ 64:Nat):Int)).toNat / 16 * 16:=by
  rw [BitVec.toNat_and,e1,BitVec.toNat_ofInt,ycE,Nat.and_two_pow_sub_one_eq_mod,Nat.shiftRight_eq_div_pow,Nat.shiftLeft_eq]
  omega
 show IntKind.i64.wrap ((BitVec.ofInt 64 n &&& ~~~ (BitVec.ofInt 64 15)).toNat:Nat)=_
 rw [key,IntKind.wrap_i64]
 omega
theorem yrz (a b:Int) (h0:0<=a) (h1:a<=1125899906842624) (hb:b=4\/b=8\/b=16):Ln.rup a b=(a+b - 1) - (a+b - 1) % b:=by
 unfold Ln.rup
 rcases hb with rfl | rfl | rfl
 ·exact yjc _ (by omega) (by omega)
 ·exact yjb _ (by omega) (by omega)
 ·exact yhy _ (by omega) (by omega)
theorem yaM (a b:Int) (h0:0<=a) (h1:a<=1125899906842624) (hb:b=4\/b=8\/b=16):a<=Ln.rup a b/\Ln.rup a b<=a+15/\Ln.rup a b % 4=0:=by
 rw [yrz a b h0 h1 hb]
 rcases hb with rfl | rfl | rfl <;> omega
theorem yY (x:Int):yaW x=4\/yaW x=8\/yaW x=16:=by
 unfold yaW
 split
 ·exact .inl rfl
 ·split
  ·exact .inr (.inl rfl)
  ·exact .inr (.inr rfl)
theorem yhe (m:Ln.Mod) (sect:Int) (ws:List Int) (k:Nat) (h:k < ws.length) (at_:Int):Ln.placesFrom m sect k (ws.drop k) at_=at_ :: Ln.placesFrom m sect (k+1) (ws.drop (k+1)) (if Ln.stays m sect (4 * k) at_ then at_+4 else at_):=by
 rw [ysu h]
 rfl
theorem yjo (m:Ln.Mod) (sect:Int) (ws:List Int) (k:Nat) (h:k < ws.length) (at_:Int):Ln.endFrom m sect k (ws.drop k) at_=Ln.endFrom m sect (k+1) (ws.drop (k+1)) (if Ln.stays m sect (4 * k) at_ then at_+4 else at_):=by
 rw [ysu h]
 rfl
def ymu (m:Ln.Mod) (sect:Nat) (ps:List Int):Ln.Mod:=if sect=1 then { m with text:=ps } else { m with far:=ps }
section
variable {w w3:World} {bl:List Nat} {b g B:Nat} {m:Ln.Mod} {v':Value} {ps:List Int}
theorem yD.setText (h:yD w bl b g m) (hw:w.grownBy w3 none) (hown:w3.ownsRow B 3 1 v' ps.length (ps.map (Value.int .i64))):yD (w3.setCell ⟨b,3,none⟩ v') bl b g { m with text:=ps }/\w.grownBy (w3.setCell ⟨b,3,none⟩ v') (some b)/\∃ u,w3.cell? ⟨b,3,none⟩=some u/\w3.frozen? ⟨b,3,none⟩=false:=by
 obtain ⟨u1,u2,u3,u4,q0,q1,q2,q3,q4,q5,q6,q7⟩:=h.kept hw
 have gs:=yf w3 b 3 v'
 have R:=RowT.blk q0
 refine ⟨⟨u1,u2,v',u4,by simpa using q0.set 3 v',yaQ q1 gs R (by decide) (by decide) (by decide) (by decide),yy q2 gs R (by decide),yy q3 gs R (by decide),ybW (yy hown gs R (by decide)),yy q5 gs R (by decide),q6,q7⟩,(hw.but _).trans gs,_,q0.cell 3,q0.free 3⟩
theorem yD.setFar (h:yD w bl b g m) (hw:w.grownBy w3 none) (hown:w3.ownsRow B 3 1 v' ps.length (ps.map (Value.int .i64))):yD (w3.setCell ⟨b,4,none⟩ v') bl b g { m with far:=ps }/\w.grownBy (w3.setCell ⟨b,4,none⟩ v') (some b)/\∃ u,w3.cell? ⟨b,4,none⟩=some u/\w3.frozen? ⟨b,4,none⟩=false:=by
 obtain ⟨u1,u2,u3,u4,q0,q1,q2,q3,q4,q5,q6,q7⟩:=h.kept hw
 have gs:=yf w3 b 4 v'
 have R:=RowT.blk q0
 refine ⟨⟨u1,u2,u3,v',by simpa using q0.set 4 v',yaQ q1 gs R (by decide) (by decide) (by decide) (by decide),yy q2 gs R (by decide),yy q3 gs R (by decide),yy q4 gs R (by decide),ybW (yy hown gs R (by decide)),q6,q7⟩,(hw.but _).trans gs,_,q0.cell 4,q0.free 4⟩
end
set_option maxRecDepth 100000 in
set_option maxHeartbeats 4000000 in
theorem ygb (bl:List Nat) (b g n:Nat) (m:Ln.Mod) (sect:Nat) (from_:Int) (w:World) (hm:yD w bl b g m) (hn:yI n m) (hv:yv m.obj) (hs:sect=1\/sect=2) (h0:0<=from_) (h1:from_<=562949953421312) :
  Calls Tryz.prog 104 #[ptrV b,.int .i64 sect,.int .i64 from_] w fun e w'=>e = .returned (.int .i64 (Ln.layEnd m sect from_))/\w.grownBy w' (some b)/\yD w' bl b g (ymu m sect (Ln.layPlaces m sect from_)):=by
 obtain ⟨i0,hi,hz0,hz1,hz2⟩:=info_parts Tryz.infoInt
 have HM:=hid hm
 obtain ⟨v1,v2,v3,v4,q0,q1,-⟩:=hm
 have k0:w.cell? ⟨b,0,none⟩=some (.pointer (some ⟨g,0,none⟩)):=q0.cell 0
 have hbo:=hv.2.1
 have hal:sect - 1 < m.obj.align.length:=by rw [hbo.1]; omega
 have EB:=hid (show Ln.border m.obj sect=yaW (m.obj.align[sect - 1]'hal) by unfold Ln.border; rw [ysB,yst hal]; rfl)
 have BV:Ln.border m.obj sect=4\/Ln.border m.obj sect=8\/Ln.border m.obj sect=16:=yY _
 have cB:=hid (yfr g m.obj sect w q1 hbo (by omega) (by omega))
 rw [<- EB.out] at cB
 have RR:=yaM from_ (Ln.border m.obj sect) h0 (by omega) BV
 have cU:=hid (yds from_ (Ln.border m.obj sect) w h0 (by omega) (by omega) (by omega))
 have cW:=hid (ydu g m.obj sect w q1)
 have hwl:(yw m.obj sect).length<=1200:=by
  have:=hv.1.1
  rcases hs with rfl | rfl
  ·exact this.1
  ·exact this.2.1
 have EP:=hid (show Ln.layPlaces m sect from_=Ln.placesFrom m sect 0 ((yw m.obj sect).drop 0) (Ln.rup from_ (Ln.border m.obj sect)) from rfl)
 have EE:=hid (show Ln.layEnd m sect from_=Ln.endFrom m sect 0 ((yw m.obj sect).drop 0) (Ln.rup from_ (Ln.border m.obj sect)) from rfl)
 clear EB BV
 generalize Ln.rup from_ (Ln.border m.obj sect)=a0 at *
 generalize Ln.border m.obj sect=bd at *
 generalize Ln.layPlaces m sect from_=PL at *
 generalize Ln.layEnd m sect from_=PE at *
 generalize yw m.obj sect=ws at *
 have cS:=hid (fun (off at_:Int) W (hg:w.grownBy W none) h0 h1=>yom bl b g n m sect off at_ W (HM.out.kept hg) hn h0 h1)
 have HN:=hid hn
 clear q0 q1 hbo hn hv hal
 unfold ptrV at *
 go_enter Tryz.func104,Tryz.ntmps104
 go_wp2_with fail
 refine cB.out.mono ?_
 rintro e w1 ⟨rfl,rfl⟩
 go_wp2_with fail
 refine cU.out.mono ?_
 rintro e w1 ⟨rfl,rfl⟩
 go_wp2_with fail
 refine cW.out.mono ?_
 rintro e w1 ⟨aw,cw,rfl,-,rfl⟩
 clear cB cU cW
 go_wp2
 go_loopw [7,8,25] (fun at_ v i wr=>∃ (k:Nat) (a:Int) (acc:List Int),k<=ws.length/\i = .int .i64 k/\at_ = .int .i64 a/\acc.length=k/\PL=acc ++ Ln.placesFrom m sect k (ws.drop k) a/\PE=Ln.endFrom m sect k (ws.drop k) a/\a0<=a/\a<=a0+4 * k/\wr.ownsRow w1.heap.size 3 1 v k (acc.map (Value.int .i64))/\w1.grownBy wr none) (fun _ _ i _=>ws.length - (intOf i).toNat)
 case atStart=>exact ⟨0,a0,[],Nat.zero_le _,rfl,rfl,rfl,EP.out,EE.out,Int.le_refl _,by omega,World.ownsRow_nil _ _ _ _,World.grownBy.refl _ _⟩
 case round =>
  obtain ⟨k,a,acc,hk,rfl,rfl,hacc,hpl,hpe,ha1,ha2,hown,hgr⟩:=hrel
  obtain ⟨av,cv,rfl⟩:=yh hown
  have HG:=hid hgr
  have hsz:=hgr.size
  have HPL:=hid hpl
  have HPE:=hid hpe
  clear hgr hpl hpe EP EE
  by_cases hlt:k < ws.length
  ·have hlt':(k:Int) < (ws.length:Int):=by omega
   have P2:=hid (HPL.out.trans (by rw [yhe m sect ws k hlt a]))
   have E2:=hid (HPE.out.trans (yjo m sect ws k hlt a))
   have w4:IntKind.i64.wrap (4 * (k:Int))=4 * k:=IntWalk.i64_in _ ⟨by omega,by omega⟩
   go_wp2_with (at_builtin; refine wpList_append_own _ rfl _ _ 35 rfl w1.heap.size 3 i0 (.int .i64 0) 1 8 Tryz.underlying35 hi hz0 hz1 hz2 rfl (by decide) _ _ _ rfl (hown.alloc _) ⟨wr.heap.size,0,none⟩ 1 1 [.int .i64 a] rfl rfl (cell_one_new _ _ _) (by intro u hu; simp at hu; subst hu; rfl) (by unfold maxLen; omega) (by omega) (by simp; omega) ?_; intro v' w3 hown' hgrow _; obtain ⟨av',cv',rfl⟩:=yh hown'; have K:=hid (ybV (ya HG.out (ysp wr (.cells #[.int .i64 a] 3) none)) hgrow (fun b hb=>(hown.lt b hb).1)); have HO:=hid hown'; clear hgrow hown')
   refine (cS.out (4 * k) a w3 K.out (by omega) (by omega)).mono ?_
   rintro e w5 ⟨rfl,h5⟩
   have K5:=hid (ya K.out h5)
   have HO5:=hid (HO.out.kept h5 (Decidable.em _))
   clear h5 HO K hown
   cases est:Ln.stays m sect (4 * k) a
   ·rw [est] at P2 E2
    have P3:=hid (show PL=(acc ++ [a]) ++ Ln.placesFrom m sect (k+1) (ws.drop (k+1)) a by rw [P2.out]; simp)
    have E3:=hid (show PE=Ln.endFrom m sect (k+1) (ws.drop (k+1)) a from E2.out)
    clear est P2 E2
    go_wp2
    go_roundw
    case rel=>exact ⟨k+1,a,acc ++ [a],by omega,by go_num,rfl,by simp [hacc],P3.out,E3.out,by omega,by omega,by rw [List.map_append]; exact HO5.out,K5.out⟩
    case measure=>simp [intOf]; omega
   ·rw [est] at P2 E2
    have P3:=hid (show PL=(acc ++ [a]) ++ Ln.placesFrom m sect (k+1) (ws.drop (k+1)) (a+4) by rw [P2.out]; simp)
    have E3:=hid (show PE=Ln.endFrom m sect (k+1) (ws.drop (k+1)) (a+4) from E2.out)
    have wa:IntKind.i64.wrap (a+4)=a+4:=IntWalk.i64_in _ ⟨by omega,by omega⟩
    clear est P2 E2
    go_wp2
    go_roundw
    case rel=>exact ⟨k+1,a+4,acc ++ [a],by omega,by go_num,rfl,by simp [hacc],P3.out,E3.out,by omega,by omega,by rw [List.map_append]; exact HO5.out,K5.out⟩
    case measure=>simp [intOf]; omega
  ·obtain rfl:k=ws.length:=by omega
   have g3:decide ((ws.length:Int) < (ws.length:Int))=false:=by simp
   have P2:=hid (show PL=acc ++ [a] by rw [HPL.out,List.drop_length]; rfl)
   have E2:=hid (show PE=a by rw [HPE.out,List.drop_length]; rfl)
   have LP:PL.length=ws.length+1:=by rw [P2.out]; simp [hacc]
   have MP:=hid (show PL.map (Value.int .i64)=acc.map (Value.int .i64) ++ [.int .i64 a] by rw [P2.out]; simp)
   rcases hs with rfl | rfl
   ·have d1:((1:Int) == 1)=true:=rfl
    go_wp2_with (at_builtin; refine wpList_append_own _ rfl _ _ 35 rfl w1.heap.size 3 i0 (.int .i64 0) 1 8 Tryz.underlying35 hi hz0 hz1 hz2 rfl (by decide) _ _ _ rfl (hown.alloc _) ⟨wr.heap.size,0,none⟩ 1 1 [.int .i64 a] rfl rfl (cell_one_new _ _ _) (by intro u hu; simp at hu; subst hu; rfl) (by unfold maxLen; omega) (by omega) (by simp; omega) ?_; intro v' w3 hown' hgrow _; obtain ⟨av',cv',rfl⟩:=yh hown'; have K:=hid (ybV (ya HG.out (ysp wr (.cells #[.int .i64 a] 3) none)) hgrow (fun b hb=>(hown.lt b hb).1)); obtain ⟨t1,t2,u,c3,f3⟩:=HM.out.setText (ps:=PL) K.out (by rw [LP,MP.out]; exact hown'); have T1:=hid t1; have T2:=hid t2; clear hgrow hown' t1 t2)
    go_ret
    exact ⟨by rw [E2.out]; rfl,T2.out,by unfold ymu; rw [if_pos rfl]; exact T1.out⟩
   ·have d1:((2:Int) == 1)=false:=rfl
    go_wp2_with (at_builtin; refine wpList_append_own _ rfl _ _ 35 rfl w1.heap.size 3 i0 (.int .i64 0) 1 8 Tryz.underlying35 hi hz0 hz1 hz2 rfl (by decide) _ _ _ rfl (hown.alloc _) ⟨wr.heap.size,0,none⟩ 1 1 [.int .i64 a] rfl rfl (cell_one_new _ _ _) (by intro u hu; simp at hu; subst hu; rfl) (by unfold maxLen; omega) (by omega) (by simp; omega) ?_; intro v' w3 hown' hgrow _; obtain ⟨av',cv',rfl⟩:=yh hown'; have K:=hid (ybV (ya HG.out (ysp wr (.cells #[.int .i64 a] 3) none)) hgrow (fun b hb=>(hown.lt b hb).1)); obtain ⟨t1,t2,u,c3,f3⟩:=HM.out.setFar (ps:=PL) K.out (by rw [LP,MP.out]; exact hown'); have T1:=hid t1; have T2:=hid t2; clear hgrow hown' t1 t2)
    go_ret
    exact ⟨by rw [E2.out]; rfl,T2.out,by unfold ymu; rw [if_neg (by decide)]; exact T1.out⟩
set_option maxHeartbeats 1000000 in
theorem ygK (g:Nat) (o:Lk.Obj) (sect:Nat) (w:World) (h:yr w g o) (hb4:ybu o.align) (h1:1<=sect) (h3:sect<=4) :
  Calls Tryz.prog 106 #[.pointer (some ⟨g,0,none⟩),.int .i64 sect] w fun e w'=>e = .returned (.int .i64 (Ln.border o sect))/\w'=w:=by
 obtain ⟨at_,ct,af,cf,ad,cd,aa,ca,as_,cs,ar,cr,hb,-,-,-,q4,-⟩:=h.open
 have hl:=hb4.1
 have hr:=hb4.2 (sect - 1) (by omega)
 obtain ⟨ga,off,rfl,hc⟩:=yz.of_own q4 (by omega)
 have hck:=hc (sect - 1) (by omega)
 have k4:=hb.cell 4
 clear h hb hc q4
 have g1:(1:Int)<=(sect:Int):=by omega
 have g2:(sect:Int)<=4:=by omega
 have HL:=hid hl
 have hl4:4<=o.align.length:=by omega
 have hl5:o.align.length<=4:=by omega
 have hpf:sect - 1 < o.align.length:=by omega
 have hk:w.cell? ⟨ga,off+(sect - 1),none⟩=some (.int .i64 (o.align[sect - 1]'hpf)):=hck
 clear hck
 have EB:Ln.border o sect=yaW (o.align[sect - 1]'hpf):=by unfold Ln.border; rw [ysB,yst hpf]; rfl
 rw [EB]
 clear EB
 replace hr:2<=o.align[sect - 1]'hpf/\o.align[sect - 1]'hpf<=4:=hr
 generalize o.align[sect - 1]'hpf=x at *
 generalize o.align.length=n at *
 rcases (show x=2\/x=3\/x=4 from by omega) with rfl | rfl | rfl
 all_goals
  clear hr HL hb4
  go_enter Tryz.func106,Tryz.ntmps106
  go_wp2
  go_ret
  exact ⟨by simp [yaW],rfl⟩
theorem yhl {m m':Ln.Mod} (h1:m'.obj=m.obj) (h2:m'.short=m.short) (sect off a:Int):Ln.stays m' sect off a=Ln.stays m sect off a:=by unfold Ln.stays; rw [h1,h2]
theorem yhf {m m':Ln.Mod} (h1:m'.obj=m.obj) (h2:m'.short=m.short) (sect:Int):∀ (ws:List Int) (k:Nat) (a:Int),Ln.placesFrom m' sect k ws a=Ln.placesFrom m sect k ws a:=by
 intro ws
 induction ws with
 | nil=>intro k a; rfl
 | cons x ws ih=>intro k a; unfold Ln.placesFrom; rw [ih,yhl h1 h2]
theorem yjp {m m':Ln.Mod} (h1:m'.obj=m.obj) (h2:m'.short=m.short) (sect:Int):∀ (ws:List Int) (k:Nat) (a:Int),Ln.endFrom m' sect k ws a=Ln.endFrom m sect k ws a:=by
 intro ws
 induction ws with
 | nil=>intro k a; rfl
 | cons x ws ih=>intro k a; unfold Ln.endFrom; rw [ih,yhl h1 h2]
theorem ycr {m m':Ln.Mod} (h1:m'.obj=m.obj) (h2:m'.short=m.short) (sect:Nat) (f:Int):Ln.layPlaces m' sect f=Ln.layPlaces m sect f:=by
 unfold Ln.layPlaces Ln.begin_; rw [yhf h1 h2,h1]
theorem ydq {m m':Ln.Mod} (h1:m'.obj=m.obj) (h2:m'.short=m.short) (sect:Nat) (f:Int):Ln.layEnd m' sect f=Ln.layEnd m sect f:=by
 unfold Ln.layEnd Ln.begin_; rw [yjp h1 h2,h1]
theorem ydV (m:Ln.Mod) (sect:Int):∀ (ws:List Int) (k:Nat) (a:Int),(Ln.placesFrom m sect k ws a).length=ws.length+1/\∀ p∈Ln.placesFrom m sect k ws a,a<=p/\p<=a+4 * ws.length:=by
 intro ws
 induction ws with
 | nil=>intro k a; refine ⟨rfl,fun p hp=>?_⟩; simp [Ln.placesFrom] at hp; subst hp; simp
 | cons x ws ih =>
  intro k a
  unfold Ln.placesFrom
  have:=ih (k+1) (if Ln.stays m sect (4 * k) a then a+4 else a)
  refine ⟨by rw [yss,this.1]; simp,fun p hp=>?_⟩
  rcases List.mem_cons.1 hp with rfl | hp
  ·simp only [yss]; omega
  ·have q:=this.2 p hp
   simp only [yss]
   split at q <;> omega
theorem yiz (m:Ln.Mod) (sect:Int):∀ (ws:List Int) (k:Nat) (a:Int),a<=Ln.endFrom m sect k ws a/\Ln.endFrom m sect k ws a<=a+4 * ws.length:=by
 intro ws
 induction ws with
 | nil=>intro k a; simp [Ln.endFrom]
 | cons x ws ih =>
  intro k a
  unfold Ln.endFrom
  have q:=ih (k+1) (if Ln.stays m sect (4 * k) a then a+4 else a)
  simp only [yss]
  split at q <;> rename_i e <;> simp only [e] <;> simp <;> omega
theorem yoA {o:Lk.Obj} (hv:yv o) (sect:Nat) (hs:sect=1\/sect=2):(yw o sect).length<=1200:=by
 have:=hv.1.1
 rcases hs with rfl | rfl
 ·exact this.1
 ·exact this.2.1
theorem ybR {m:Ln.Mod} (hv:yv m.obj) (sect:Nat) (hs:sect=1\/sect=2) (f:Int) (h0:0<=f) (h1:f<=562949953421312) :
  (f<=Ln.layEnd m sect f/\Ln.layEnd m sect f<=f+4815)/\(Ln.layPlaces m sect f).length<=1201/\∀ p∈Ln.layPlaces m sect f,f<=p/\p<=f+4815:=by
 have hl:=yoA hv sect hs
 have r:=yaM f (Ln.border m.obj sect) h0 (by omega) (yY _)
 have e:=yiz m sect (yw m.obj sect) 0 (Ln.begin_ m sect f)
 have p:=ydV m sect (yw m.obj sect) 0 (Ln.begin_ m sect f)
 have b:Ln.begin_ m sect f=Ln.rup f (Ln.border m.obj sect):=rfl
 rw [b] at e p
 refine ⟨?_,?_,fun q hq=>?_⟩
 ·unfold Ln.layEnd; rw [b]; omega
 ·unfold Ln.layPlaces; rw [b,p.1]; omega
 ·have:=p.2 q hq; omega
section
variable {w:World} {bl:List Nat} {b g n:Nat} {m:Ln.Mod} {x:Int} {ps:List Int}
theorem yD.setData (h:yD w bl b g m) (x:Int):yD (w.setCell ⟨b,5,none⟩ (.int .i64 x)) bl b g { m with data:=x }:=by
 obtain ⟨u1,u2,u3,u4,q0,q1,q2,q3,q4,q5,q6,q7⟩:=h
 have gs:=yf w b 5 (.int .i64 x)
 have R:=RowT.blk q0
 exact ⟨u1,u2,u3,u4,by simpa using q0.set 5 (.int .i64 x),yaQ q1 gs R (by decide) (by decide) (by decide) (by decide),yy q2 gs R (by decide),yy q3 gs R (by decide),yy q4 gs R (by decide),yy q5 gs R (by decide),q6,q7⟩
theorem yD.setBss (h:yD w bl b g m) (x:Int):yD (w.setCell ⟨b,6,none⟩ (.int .i64 x)) bl b g { m with bss:=x }:=by
 obtain ⟨u1,u2,u3,u4,q0,q1,q2,q3,q4,q5,q6,q7⟩:=h
 have gs:=yf w b 6 (.int .i64 x)
 have R:=RowT.blk q0
 exact ⟨u1,u2,u3,u4,by simpa using q0.set 6 (.int .i64 x),yaQ q1 gs R (by decide) (by decide) (by decide) (by decide),yy q2 gs R (by decide),yy q3 gs R (by decide),yy q4 gs R (by decide),yy q5 gs R (by decide),q6,q7⟩
theorem yI.setText (h:yI n m) (hl:ps.length<=65536) (hp:∀ p∈ps,0<=p/\p<=1125899906842624):yI n { m with text:=ps }:=⟨⟨hl,hp⟩,h.far,h.data,h.bss,h.means,h.short,h.rels⟩
theorem yI.setFar (h:yI n m) (hl:ps.length<=65536) (hp:∀ p∈ps,0<=p/\p<=1125899906842624):yI n { m with far:=ps }:=⟨h.text,⟨hl,hp⟩,h.data,h.bss,h.means,h.short,h.rels⟩
theorem yI.setData (h:yI n m) (hx:0<=x/\x<=1125899906842624):yI n { m with data:=x }:=⟨h.text,h.far,hx,h.bss,h.means,h.short,h.rels⟩
theorem yI.setBss (h:yI n m) (hx:0<=x/\x<=1125899906842624):yI n { m with bss:=x }:=⟨h.text,h.far,h.data,hx,h.means,h.short,h.rels⟩
end
theorem ydr:∀ (ms:List Ln.Mod) (t f d:Int),(Ln.layMods ms t f d).length=ms.length:=by
 intro ms
 induction ms with
 | nil=>intro t f d; rfl
 | cons m ms ih=>intro t f d; unfold Ln.layMods; rw [yss,ih,yss]
theorem ygU:∀ (ms:List Ln.Mod) (b:Int),(Ln.layBss ms b).length=ms.length:=by
 intro ms
 induction ms with
 | nil=>intro b; rfl
 | cons m ms ih=>intro b; unfold Ln.layBss; rw [yss,ih,yss]
theorem yif {α:Type} {l r:List α} {x:α} {k:Nat} (hk:k < l.length) (h:l.drop k=x :: r):l[k]=x/\l.drop (k+1)=r:=by
 rw [ysu hk] at h
 exact List.cons.inj h
theorem ydt {o:Lk.Obj} (h:yv o):yby o:=by
 obtain ⟨⟨⟨a,b,c⟩,-,d,e⟩,f,-⟩:=h
 have:=f.1
 exact ⟨by omega,by omega,by omega,by omega,by omega,by omega⟩
theorem ycz:∀ (ms:List Ln.Mod) (t f d:Int),(Ln.layMods ms t f d).map Ln.Mod.obj=ms.map Ln.Mod.obj:=by
 intro ms
 induction ms with
 | nil=>intro t f d; rfl
 | cons m ms ih=>intro t f d; unfold Ln.layMods; rw [List.map_cons,ih,List.map_cons]; rfl
theorem ykG:∀ (ms ms':List Ln.Mod) (b:Int),ms'.map Ln.Mod.obj=ms.map Ln.Mod.obj->Ln.bssEnd ms' b=Ln.bssEnd ms b:=by
 intro ms
 induction ms with
 | nil =>
  intro ms' b h
  cases ms' with
  | nil=>rfl
  | cons x xs=>simp at h
 | cons m ms ih =>
  intro ms' b h
  cases ms' with
  | nil=>simp at h
  | cons x xs =>
   rw [List.map_cons,List.map_cons] at h
   obtain ⟨h1,h2⟩:=List.cons.inj h
   unfold Ln.bssEnd
   rw [h1,ih xs _ h2]
set_option maxRecDepth 100000 in
set_option maxHeartbeats 8000000 in
theorem ygT (Wf W0:World) (P:Nat) (bt bf bd:Int) (vm:Value) (bl gl:List Nat) (ms:List Ln.Mod) (st:Ln.Spot) (no:Int) (W:World) (h:yT Wf W0 P bt bf bd vm bl gl ms st no W) (hn:∀ m∈ms,yI bl.length m) (hv:∀ m∈ms,yv m.obj)
  (hbt:0<=bt/\bt<=4294967296) (hbf:0<=bf/\bf<=4294967296) (hbd:0<=bd/\bd<=4294967296) :
  Calls Tryz.prog 70 #[ptrV P] W fun e W'=>e = .returned (.tuple #[])/\yT Wf W0 P bt bf bd vm bl gl (Ln.lay bt bf bd ms) st (Ln.noughts bd ms) W':=by
 obtain ⟨am,cm,rfl⟩:=yh h.row
 have H0:=hid h
 have c0:W.cell? ⟨P,0,none⟩=some (.int .i64 bt):=h.blk.cell 0
 have c1:W.cell? ⟨P,1,none⟩=some (.int .i64 bf):=h.blk.cell 1
 have c2:W.cell? ⟨P,2,none⟩=some (.int .i64 bd):=h.blk.cell 2
 have c3:W.cell? ⟨P,3,none⟩=some (.slice am bl.length cm):=h.blk.cell 3
 have hbl:=h.few
 have LO:=hid h.lenO
 have HN:=hid hn
 have HV:=hid hv
 have LL:=hid (ydr ms bt bf bd)
 obtain ⟨L1,hL1⟩:∃ L1,L1=Ln.layMods ms bt bf bd:=⟨_,rfl⟩
 have HL1:=hid hL1
 rw [<- hL1] at LL
 clear h hn hv hL1
 unfold ptrV
 go_enter Tryz.func70,Tryz.ntmps70
 go_wp2
 go_quiet (fail)
 have HW1:=hid (H0.out.kept (ye (World.grownBy.refl W none) nq))
 go_wp2
 generalize W.drewN nq=W1 at *
 clear c0 c1 c2 c3 H0
 go_loopw [2,3,4,30] (fun vt vf vd i wr=>∃ (k:Nat) (t f d:Int),k<=bl.length/\i = .int .i64 k/\vt = .int .i64 t/\vf = .int .i64 f/\vd = .int .i64 d/\yT Wf W0 P bt bf bd (.slice am bl.length cm) bl gl (L1.take k ++ ms.drop k) st no wr/\L1.drop k=Ln.layMods (ms.drop k) t f d/\Ln.dataEnd ms bd=Ln.dataEnd (ms.drop k) d/\(0<=t/\t<=4294967296+5000 * k)/\(0<=f/\f<=4294967296+5000 * k)/\(0<=d/\d<=4294967296+5000 * k)) (fun _ _ _ i _=>bl.length - (intOf i).toNat)
 case atStart=>exact ⟨0,bt,bf,bd,Nat.zero_le _,rfl,rfl,rfl,rfl,by simpa using HW1.out,by rw [HL1.out]; rfl,rfl,by omega,by omega,by omega⟩
 case round =>
  obtain ⟨k,t,f,d,hk,rfl,rfl,rfl,rfl,hpa,hld,hde,ht,hf,hd⟩:=hrel
  have HP:=hid hpa
  have HLD:=hid hld
  have HDE:=hid hde
  clear hpa hld hde HW1
  by_cases hlt:k < bl.length
  ·have hko:k < ms.length:=by rw [LO.out]; exact hlt
   have hkg:k < gl.length:=by rw [HP.out.lenG]; exact hlt
   have hkL:k < L1.length:=by rw [LL.out]; exact hko
   obtain ⟨sg,off,hsg,hsc⟩:=HP.out.modsIn.ptrs (by omega)
   have ck:=hsc k hlt
   have HM:yD wr bl bl[k] (gl[k]'hkg) ms[k]:=by
    have:=HP.out.mods k hlt
    rwa [ydP ms L1 k hko (by rw [LL.out]; omega)] at this
   have MV:=HV.out _ (ysr hko)
   have MN:=HN.out _ (ysr hko)
   have R1:=ybR MV 1 (.inl rfl) t ht.1 (by omega)
   have R2:=ybR MV 2 (.inr rfl) f hf.1 (by omega)
   have UP:=hid (fun (w2:World) (hg:wr.grownBy w2 (some bl[k])) (hm:yD w2 bl bl[k] (gl[k]'hkg) (Ln.layOne ms[k] t f d))=>show yT Wf W0 P bt bf bd (.slice am bl.length cm) bl gl (L1.take (k+1) ++ ms.drop (k+1)) st no w2/\L1.drop (k+1)=Ln.layMods (ms.drop (k+1)) (Ln.layEnd ms[k] 1 t) (Ln.layEnd ms[k] 2 f) (Ln.rup d (Ln.border ms[k].obj 3)+4 * ms[k].obj.data.length)/\Ln.dataEnd ms bd=Ln.dataEnd (ms.drop (k+1)) (Ln.rup d (Ln.border ms[k].obj 3)+4 * ms[k].obj.data.length) from by
    have e:=HLD.out
    rw [ysu hko] at e
    obtain ⟨e1,e2⟩:=yif hkL e
    refine ⟨?_,e2,?_⟩
    ·rw [<- yei ms L1 k hko hkL LL.out,e1]
     exact HP.out.upd hlt (by rw [HP.out.lenO]; exact hlt) hg hm (by rw [ydP ms L1 k hko (by rw [LL.out]; omega)]; rfl)
    ·have e3:=HDE.out
     rw [ysu hko] at e3
     exact e3)
   have g1:(k:Int) < (bl.length:Int):=by omega
   have RD:=yaM d (Ln.border ms[k].obj 3) hd.1 (by omega) (yY _)
   have BV:Ln.border ms[k].obj 3=4\/Ln.border ms[k].obj 3=8\/Ln.border ms[k].obj 3=16:=yY _
   have hdl:ms[k].obj.data.length<=64:=MV.1.1.2.2
   clear hsc HP HLD HDE
   generalize ms[k]=m at *
   generalize hgk:(gl[k]'hkg)=gk at *
   generalize hbk:bl[k]=bk at *
   have cL1:=hid (ygb bl bk gk bl.length m 1 t wr HM MN MV (.inl rfl) ht.1 (by omega))
   have cL2:=hid (fun W2 (h2:yD W2 bl bk gk { m with text:=Ln.layPlaces m 1 t })=>ygb bl bk gk bl.length _ 2 f W2 h2 (MN.setText (by omega) (fun p hp=>by have:=R1.2.2 p hp; omega)) MV (.inr rfl) hf.1 (by omega))
   have cB:=hid (fun W2 (h2:yr W2 gk m.obj)=>ygK gk m.obj 3 W2 h2 MV.2.1 (by omega) (by omega))
   have cU:=hid (fun W2=>yds d (Ln.border m.obj 3) W2 hd.1 (by omega) (by omega) (by omega))
   have cN:=hid (fun W2 (h2:yr W2 gk m.obj)=>ycV gk m.obj 3 W2 h2 (ydt MV) MV.1.2.1)
   subst hsg
   unfold ptrV at *
   go_wp2_with fail
   refine cL1.out.mono ?_
   rintro e W2 ⟨rfl,g2,m2⟩
   have M2:=hid (show yD W2 bl bk gk { m with text:=Ln.layPlaces m 1 t } from m2)
   have GG2:=hid g2
   clear g2 m2 cL1
   go_wp2_with fail
   refine (cL2.out _ M2.out).mono ?_
   rintro e W3 ⟨rfl,g3,m3⟩
   have EL:Ln.layEnd { m with text:=Ln.layPlaces m 1 t } 2 f=Ln.layEnd m 2 f:=ydq (m:=m) (m':={ m with text:=Ln.layPlaces m 1 t }) rfl rfl 2 f
   rw [EL]
   have M3:=hid (show yD W3 bl bk gk { m with text:=Ln.layPlaces m 1 t,far:=Ln.layPlaces m 2 f } by
    have e:Ln.layPlaces { m with text:=Ln.layPlaces m 1 t } 2 f=Ln.layPlaces m 2 f:=ycr (m:=m) (m':={ m with text:=Ln.layPlaces m 1 t }) rfl rfl 2 f
    rw [e] at m3
    exact m3)
   have GG3:=hid (GG2.out.trans g3)
   clear g3 m3 cL2 EL GG2 M2
   have k0:W3.cell? ⟨bk,0,none⟩=some (.pointer (some ⟨gk,0,none⟩)):=by obtain ⟨u1,u2,u3,u4,q0,-⟩:=M3.out; exact q0.cell 0
   have k5:W3.cell? ⟨bk,5,none⟩=some (.int .i64 m.data):=by obtain ⟨u1,u2,u3,u4,q0,-⟩:=M3.out; exact q0.cell 5
   have f5:W3.frozen? ⟨bk,5,none⟩=false:=by obtain ⟨u1,u2,u3,u4,q0,-⟩:=M3.out; exact q0.free 5
   have o3:Hid (yr W3 gk m.obj):=by obtain ⟨u1,u2,u3,u4,q0,q1,-⟩:=M3.out; exact q1
   go_wp2_with fail
   refine (cB.out _ o3.out).mono ?_
   rintro e w' ⟨rfl,hw⟩
   rw [hw]
   clear hw w'
   go_wp2_with fail
   refine (cU.out _).mono ?_
   rintro e w' ⟨rfl,hw⟩
   rw [hw]
   clear hw w'
   generalize hru:Ln.rup d (Ln.border m.obj 3)=rd at *
   have HRU:=hid hru
   clear hru
   have M4:=hid (M3.out.setData rd)
   have GG4:=hid (GG3.out.trans (yf W3 bk 5 (.int .i64 rd)))
   go_wp2
   clear k0 k5 f5 o3 M3 GG3 cB cU
   generalize W3.setCell ⟨bk,5,none⟩ (.int .i64 rd)=W4 at *
   have k0:W4.cell? ⟨bk,0,none⟩=some (.pointer (some ⟨gk,0,none⟩)):=by obtain ⟨u1,u2,u3,u4,q0,-⟩:=M4.out; exact q0.cell 0
   have k5:W4.cell? ⟨bk,5,none⟩=some (.int .i64 rd):=by obtain ⟨u1,u2,u3,u4,q0,-⟩:=M4.out; exact q0.cell 5
   have O4:Hid (yr W4.drew gk m.obj):=by obtain ⟨u1,u2,u3,u4,q0,q1,-⟩:=M4.out; exact q1.kept (yi (World.grownBy.refl _ _))
   have es:ybr m.obj 3=m.obj.data.length:=rfl
   rw [es] at cN
   have w1:IntKind.i64.wrap (rd+4 * (m.obj.data.length:Int))=rd+4 * m.obj.data.length:=IntWalk.i64_in _ ⟨by omega,by omega⟩
   go_region_held3 (fun w'=>w'.cell? ⟨bk,0,none⟩=some (.pointer (some ⟨gk,0,none⟩))/\w'.cell? ⟨bk,5,none⟩=some (.int .i64 rd))
    (go_keep)
    (first | (go_at_call 87; refine (cN.out _ O4.out).mono ?_; rintro e w' ⟨rfl,hw⟩; rw [hw]; clear hw w'))
   have UQ:=hid (UP.out W4.drew (yi GG4.out) (by
    have:=M4.out.kept (yi (World.grownBy.refl W4 none))
    rw [<- HRU.out] at this
    exact this))
   clear UP M4 GG4 cN O4
   go_wp2
   go_roundw
   case rel=>exact ⟨k+1,_,_,_,by omega,by go_num,rfl,rfl,rfl,UQ.out.1,UQ.out.2.1,UQ.out.2.2,by omega,by omega,by omega⟩
   case measure=>simp [intOf]; omega
  ·obtain rfl:k=bl.length:=by omega
   have g3:decide ((bl.length:Int) < (bl.length:Int))=false:=by simp
   have HP1:=hid (show yT Wf W0 P bt bf bd (.slice am bl.length cm) bl gl L1 st no wr by
    have:=HP.out
    rwa [List.drop_of_length_le (by rw [LO.out]; exact Nat.le_refl _),List.append_nil,List.take_of_length_le (by rw [LL.out,LO.out]; exact Nat.le_refl _)] at this)
   have DE:=hid (show Ln.dataEnd ms bd=d by rw [HDE.out,List.drop_of_length_le (by rw [LO.out]; exact Nat.le_refl _)]; rfl)
   have c3:wr.cell? ⟨P,3,none⟩=some (.slice am bl.length cm):=HP1.out.blk.cell 3
   have L2L:=hid (ygU L1 d)
   obtain ⟨L2,hL2⟩:∃ L2,L2=Ln.layBss L1 d:=⟨_,rfl⟩
   have HL2:=hid hL2
   rw [<- hL2] at L2L
   have OV:=hid (show ∀ i (h:i < L1.length),yv L1[i].obj from fun i h=>by
    have e:L1.map Ln.Mod.obj=ms.map Ln.Mod.obj:=by rw [HL1.out]; exact ycz ms bt bf bd
    have:L1[i].obj∈ms.map Ln.Mod.obj:=by rw [<- e]; exact List.mem_map_of_mem (ysr h)
    obtain ⟨x,hx,e2⟩:=List.mem_map.1 this
    rw [<- e2]
    exact HV.out x hx)
   have FIN:=hid (show Ln.lay bt bf bd ms=L2/\Ln.noughts bd ms=(Ln.bssEnd L1 d - d) / 4 by
    unfold Ln.lay Ln.noughts
    rw [DE.out,<- HL1.out,<- HL2.out]
    refine ⟨rfl,?_⟩
    rw [ykG ms L1 d (by rw [HL1.out]; exact ycz ms bt bf bd)])
   clear hL2 HP HLD HDE
   go_wp2
   generalize wr=V1 at *
   clear c3
   go_loopw [7,67] (fun vb i wr=>∃ (k:Nat) (b:Int),k<=bl.length/\i = .int .i64 k/\vb = .int .i64 b/\yT Wf W0 P bt bf bd (.slice am bl.length cm) bl gl (L2.take k ++ L1.drop k) st no wr/\L2.drop k=Ln.layBss (L1.drop k) b/\Ln.bssEnd L1 d=Ln.bssEnd (L1.drop k) b/\(d<=b/\b<=4294967296+5000 * bl.length+5000 * k)) (fun _ i _=>bl.length - (intOf i).toNat)
   case atStart=>exact ⟨0,d,Nat.zero_le _,rfl,rfl,by simpa using HP1.out,by rw [HL2.out]; rfl,rfl,Int.le_refl _,by omega⟩
   case round =>
    obtain ⟨k,b,hk2,rfl,rfl,hpa,hld,hbe,hb⟩:=hrel
    have HP:=hid hpa
    have HLD:=hid hld
    have HBE:=hid hbe
    clear hpa hld hbe HP1
    by_cases hlt:k < bl.length
    ·have hkL:k < L1.length:=by rw [LL.out,LO.out]; exact hlt
     have hkg:k < gl.length:=by rw [HP.out.lenG]; exact hlt
     have hk2L:k < L2.length:=by rw [L2L.out]; exact hkL
     obtain ⟨sg,off,hsg,hsc⟩:=HP.out.modsIn.ptrs (by omega)
     have ck:=hsc k hlt
     have HM:yD wr bl bl[k] (gl[k]'hkg) L1[k]:=by
      have:=HP.out.mods k hlt
      rwa [ydP L1 L2 k hkL (by rw [L2L.out]; omega)] at this
     have MV:=OV.out k hkL
     have UP:=hid (fun (w2:World) (hg:wr.grownBy w2 (some bl[k])) (hm:yD w2 bl bl[k] (gl[k]'hkg) { L1[k] with bss:=Ln.rup b (Ln.border L1[k].obj 4) })=>show yT Wf W0 P bt bf bd (.slice am bl.length cm) bl gl (L2.take (k+1) ++ L1.drop (k+1)) st no w2/\L2.drop (k+1)=Ln.layBss (L1.drop (k+1)) (Ln.rup b (Ln.border L1[k].obj 4)+4 * L1[k].obj.bss)/\Ln.bssEnd L1 d=Ln.bssEnd (L1.drop (k+1)) (Ln.rup b (Ln.border L1[k].obj 4)+4 * L1[k].obj.bss) from by
      have e:=HLD.out
      rw [ysu hkL] at e
      obtain ⟨e1,e2⟩:=yif hk2L e
      refine ⟨?_,e2,?_⟩
      ·rw [<- yei L1 L2 k hkL hk2L L2L.out,e1]
       exact HP.out.upd hlt (by rw [HP.out.lenO]; exact hlt) hg hm (by rw [ydP L1 L2 k hkL (by rw [L2L.out]; omega)])
      ·have e3:=HBE.out
       rw [ysu hkL] at e3
       exact e3)
     have g1:(k:Int) < (bl.length:Int):=by omega
     have RD:=yaM b (Ln.border L1[k].obj 4) (by omega) (by omega) (yY _)
     have BV:Ln.border L1[k].obj 4=4\/Ln.border L1[k].obj 4=8\/Ln.border L1[k].obj 4=16:=yY _
     have hdl:=MV.1.2.1
     clear hsc HP HLD HBE
     generalize L1[k]=m at *
     generalize hgk:(gl[k]'hkg)=gk at *
     generalize hbk:bl[k]=bk at *
     have cB:=hid (fun W2 (h2:yr W2 gk m.obj)=>ygK gk m.obj 4 W2 h2 MV.2.1 (by omega) (by omega))
     have cU:=hid (fun W2=>yds b (Ln.border m.obj 4) W2 (by omega) (by omega) (by omega) (by omega))
     have cN:=hid (fun W2 (h2:yr W2 gk m.obj)=>ycV gk m.obj 4 W2 h2 (ydt MV) MV.1.2.1)
     subst hsg
     have M3:=hid HM
     clear HM
     have k0:wr.cell? ⟨bk,0,none⟩=some (.pointer (some ⟨gk,0,none⟩)):=by obtain ⟨u1,u2,u3,u4,q0,-⟩:=M3.out; exact q0.cell 0
     have k6:wr.cell? ⟨bk,6,none⟩=some (.int .i64 m.bss):=by obtain ⟨u1,u2,u3,u4,q0,-⟩:=M3.out; exact q0.cell 6
     have f6:wr.frozen? ⟨bk,6,none⟩=false:=by obtain ⟨u1,u2,u3,u4,q0,-⟩:=M3.out; exact q0.free 6
     have o3:Hid (yr wr gk m.obj):=by obtain ⟨u1,u2,u3,u4,q0,q1,-⟩:=M3.out; exact q1
     unfold ptrV at *
     go_wp2_with fail
     refine (cB.out _ o3.out).mono ?_
     rintro e w' ⟨rfl,hw⟩
     rw [hw]
     clear hw w'
     go_wp2_with fail
     refine (cU.out _).mono ?_
     rintro e w' ⟨rfl,hw⟩
     rw [hw]
     clear hw w'
     generalize hru:Ln.rup b (Ln.border m.obj 4)=rd at *
     have M4:=hid (M3.out.setBss rd)
     have GG4:=hid (yf wr bk 6 (.int .i64 rd))
     clear hru
     go_wp2
     clear k0 k6 f6 o3 M3 cB cU ck
     generalize wr.setCell ⟨bk,6,none⟩ (.int .i64 rd)=W4 at *
     have k0:W4.cell? ⟨bk,0,none⟩=some (.pointer (some ⟨gk,0,none⟩)):=by obtain ⟨u1,u2,u3,u4,q0,-⟩:=M4.out; exact q0.cell 0
     have k6:W4.cell? ⟨bk,6,none⟩=some (.int .i64 rd):=by obtain ⟨u1,u2,u3,u4,q0,-⟩:=M4.out; exact q0.cell 6
     have O4:Hid (yr W4.drew gk m.obj):=by obtain ⟨u1,u2,u3,u4,q0,q1,-⟩:=M4.out; exact q1.kept (yi (World.grownBy.refl _ _))
     have es:ybr m.obj 4=m.obj.bss:=rfl
     rw [es] at cN
     have w1:IntKind.i64.wrap (rd+4 * m.obj.bss)=rd+4 * m.obj.bss:=IntWalk.i64_in _ ⟨by omega,by omega⟩
     go_region_held3 (fun w'=>w'.cell? ⟨bk,0,none⟩=some (.pointer (some ⟨gk,0,none⟩))/\w'.cell? ⟨bk,6,none⟩=some (.int .i64 rd))
      (go_keep)
      (first | (go_at_call 87; refine (cN.out _ O4.out).mono ?_; rintro e w' ⟨rfl,hw⟩; rw [hw]; clear hw w'))
     have UQ:=hid (UP.out W4.drew (yi GG4.out) (M4.out.kept (yi (World.grownBy.refl W4 none))))
     clear UP M4 GG4 cN O4
     go_wp2
     go_roundw
     case rel=>exact ⟨k+1,_,by omega,by go_num,rfl,UQ.out.1,UQ.out.2.1,UQ.out.2.2,by omega,by omega⟩
     case measure=>simp [intOf]; omega
    ·obtain rfl:k=bl.length:=by omega
     have g3:decide ((bl.length:Int) < (bl.length:Int))=false:=by simp
     have HP2:=hid (show yT Wf W0 P bt bf bd (.slice am bl.length cm) bl gl L2 st no wr by
      have:=HP.out
      rwa [List.drop_of_length_le (by rw [LL.out,LO.out]; exact Nat.le_refl _),List.append_nil,List.take_of_length_le (by rw [L2L.out,LL.out,LO.out]; exact Nat.le_refl _)] at this)
     have BE:=hid (show Ln.bssEnd L1 d=b by rw [HBE.out,List.drop_of_length_le (by rw [LL.out,LO.out]; exact Nat.le_refl _)]; rfl)
     have w1:IntKind.i64.wrap (b - d)=b - d:=IntWalk.i64_in _ ⟨by omega,by omega⟩
     have c7:wr.cell? ⟨P,7,none⟩=some (.int .i64 no):=HP2.out.blk.cell 7
     have f7:=HP2.out.blk.free 7
     have HF:=hid (HP2.out.nought (no':=(b - d) / 4))
     have ed:Int.tdiv (b - d) 4=(b - d) / 4:=Int.tdiv_eq_ediv_of_nonneg (by omega)
     clear HP HLD HBE HP2
     go_wp2
     go_end0
     rw [FIN.out.1,FIN.out.2,BE.out]
     exact ⟨rfl,HF.out⟩
theorem Tryz.infoBool:(Tryz.prog.info? 4).map (fun i=>(i.zero,i.size,i.bytes))=some (some (.bool false),1,1):=by kernel_rfl
namespace Ln
def unshort (m:Mod):Mod:={ m with short:=[] }
end Ln
theorem ycf (m:Ln.Mod) (s o:Int):Ln.address (Ln.unshort m) s o=Ln.address m s o:=rfl
theorem yiO {ms ms':List Ln.Mod} (h:ms'.map Ln.unshort=ms.map Ln.unshort) (s:Ln.Spot):Ln.spotAddr ms' s=Ln.spotAddr ms s:=by
 unfold Ln.spotAddr
 cases s.mod with
 | none=>rfl
 | some i =>
  dsimp only
  have e:(ms'[i]?).map Ln.unshort=(ms[i]?).map Ln.unshort:=by rw [<- List.getElem?_map,<- List.getElem?_map,h]
  cases h1:ms'[i]? with
  | none =>
   cases h2:ms[i]? with
   | none=>rfl
   | some y=>rw [h1,h2] at e; simp at e
  | some x =>
   cases h2:ms[i]? with
   | none=>rw [h1,h2] at e; simp at e
   | some y =>
    rw [h1,h2] at e
    simp only [Option.map_some,Option.some.injEq] at e
    dsimp only
    rw [<- ycf x,e,ycf]
theorem yiy {ms ms':List Ln.Mod} {m m':Ln.Mod} (h:ms'.map Ln.unshort=ms.map Ln.unshort) (hm:Ln.unshort m'=Ln.unshort m) (r:Lk.Rel):Ln.distance ms' m' r=Ln.distance ms m r:=by
 have e1:m'.means=m.means:=show (Ln.unshort m').means=(Ln.unshort m).means by rw [hm]
 unfold Ln.distance Ln.target
 rw [e1,yiO h,<- ycf m',hm,ycf]
structure yaB (WB:World) (bi:Nat) (g:Nat) (v1 v3 v4:Value) (d b:Int) (sl:List Value) (j:Nat) (vs:Value) (wr:World):Prop where
 gr:WB.grownBy wr (some bi)
 blk:yc wr bi #[ptrV g,v1,vs,v3,v4,.int .i64 d,.int .i64 b] 130
 row:wr.ownsRow WB.heap.size 4 1 vs j sl
 nil:j=0->vs = .slice none 0 0
section
variable {WB V wr w3:World} {bi g j:Nat} {v1 v3 v4 vs v':Value} {d b:Int} {sl news:List Value}
theorem yaB.kept (h:yaB WB bi g v1 v3 v4 d b sl j vs wr) (hV:wr.grownBy V none):yaB WB bi g v1 v3 v4 d b sl j vs V :=
 ⟨h.gr.trans (hV.but _),h.blk.grown hV (by simp),h.row.kept hV (Decidable.em _),h.nil⟩
theorem yaB.step (h:yaB WB bi g v1 v3 v4 d b sl j vs V) (hown:w3.ownsRow WB.heap.size 4 1 v' (j+1) (sl ++ news)) (hg:V.grownBy w3 vs.ownBlock):yaB WB bi g v1 v3 v4 d b (sl ++ news) (j+1) v' (w3.setCell ⟨bi,2,none⟩ v'):=by
 have b3:=yF h.blk hg (RowT.own h.row) (by decide)
 have gs:=yf w3 bi 2 v'
 refine ⟨(h.gr.andThen hg (fun k hk=>.inl (h.row.lt k hk).1)).trans gs,?_,yy hown gs (RowT.blk b3) (by decide),fun c=>by omega⟩
 simpa using b3.set 2 v'
theorem yaB.mod {m:Ln.Mod} {bl:List Nat} {l:List Bool} {cur:Array Value} (hq:yc WB bi cur 130) (ho:yr WB g m.obj) (q2:WB.ownsRow 0 123 3 v1 m.means.length (m.means.flatMap (ycD bl))) (q4:WB.ownsRow 0 3 1 v3 m.text.length (m.text.map (Value.int .i64))) (q5:WB.ownsRow 0 3 1 v4 m.far.length (m.far.map (Value.int .i64))) (q6:m.means=[]->v1 = .slice none 0 0) (h:yaB WB bi g v1 v3 v4 m.data m.bss (l.map Value.bool) l.length vs wr):yD wr bl bi g { m with short:=l }:=by
 have R:=RowT.blk hq
 exact ⟨_,_,_,_,h.blk,yaQ ho h.gr R (by decide) (by decide) (by decide) (by decide),yy q2 h.gr R (by decide),ybW h.row,yy q4 h.gr R (by decide),yy q5 h.gr R (by decide),q6,fun e=>h.nil (by simp only at e; rw [e]; rfl)⟩
end
theorem yI.setShort {n:Nat} {m:Ln.Mod} (h:yI n m) {l:List Bool} (hl:l.length<=65535):yI n { m with short:=l }:=⟨h.text,h.far,h.data,h.bss,h.means,hl,h.rels⟩
end Go.Proofs.YtpgklkhgfcjceaaGreatDoor
