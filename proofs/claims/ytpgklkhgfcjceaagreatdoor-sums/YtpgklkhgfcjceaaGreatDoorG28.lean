/- Archived: a choice of some. -/
/- Weakly: the walk. -/
/- Sums: the walk. -/
/- What the rows lay: the three tables. -/
/- The row and the card of Sums. -/
import Derived.Test.YtpgklkhgfcjceaaGreatDoorG27
import Derived.Test.YtpgklkhgfcjceaaGreatDoorG25
import Derived.ProofKit
import Derived.OpenShut
import Derived.ChangeMaps5
import Derived.Deep.DeepHandedRow
import Derived.Lib.LaidTab
import Derived.Test.YtpgklkhgfcjceaaGreatDoorCards
import Derived.Test.YtpgklkhgfcjceaaGreatDoorTie
namespace Go.Proofs.YtpgklkhgfcjceaaGreatDoor
open Go.RowKit
def pk (c:Int) (n:Nat):Nat:=if c < 0 then (-(c+1) % n).toNat else (c % n).toNat
theorem ysh (c:Int) (n:Nat) (hn:1<=n):pk c n < n:=by
 have a:=Int.emod_lt_of_pos (-(c+1)) (show (0:Int) < (n:Int) by omega)
 have b:=Int.emod_lt_of_pos c (show (0:Int) < (n:Int) by omega)
 unfold pk
 split <;> omega
set_option maxRecDepth 100000 in
set_option maxHeartbeats 1000000 in
theorem yog (c:Int) (n:Nat) (w:World) (hn:1<=n) (hm:n<=100) (h0:-9223372036854775808<=c) (h1:c<=9223372036854775807) :
  Calls Tryz.prog 12 #[.int .i64 c,.int .i64 n] w fun e w'=>e = .returned (.int .i64 (pk c n))/\w'=w:=by
 have z1:((n:Int) == 0)=false:=by simp; omega
 have z2:(n:Int)≠0:=by omega
 by_cases hc:c < 0
 ·have d:decide (c < 0)=true:=by simpa using hc
  have e:-((c+1).tmod n)=((pk c n:Nat):Int):=by
   have p:=Int.emod_nonneg (-(c+1)) z2
   unfold pk
   rw [if_pos hc,<- Int.neg_tmod,Int.tmod_eq_emod_of_nonneg (by omega)]
   omega
  have E:=hid e
  clear e
  go_enter Tryz.func12,Tryz.ntmps12
  go_wp2
  go_ret
  exact ⟨yC E.out,rfl⟩
 ·have d:decide (c < 0)=false:=by simpa using hc
  have e:c % n=((pk c n:Nat):Int):=by
   have p:=Int.emod_nonneg c z2
   unfold pk
   rw [if_neg hc]
   omega
  have E:=hid e
  clear e
  go_enter Tryz.func12,Tryz.ntmps12
  go_wp2
  go_ret
  exact ⟨yC E.out,rfl⟩
theorem ynE {l:List UInt8} (h:Im.IsImg l):l.length<=1048576:=by
 have f:l.length=26+4 * (Im.nT l+Im.nF l+Im.nD l):=h.2.1
 have n:=Im.n_le l
 omega
namespace Su
def v (key:Int) (k:Nat):Int:=IntKind.i64.wrap (IntKind.i64.wrap (key * ((k:Int)+1))+(k:Int))
def ins (key:Int) (n:Nat):List Int:=(List.range n).map (v key)
def s (key:Int) (n:Nat):Int:=((ins key n).map fun x=>Mc.sg (Mc.wd x)).sum
theorem sg_range (x:Int):-2147483648<=Mc.sg (Mc.wd x)/\Mc.sg (Mc.wd x)<=2147483647:=by
 unfold Mc.sg Mc.wd
 split <;> omega
theorem ins_succ (key:Int) (n:Nat):ins key (n+1)=ins key n ++ [v key n]:=by
 unfold ins
 rw [List.range_succ,List.map_append]
 rfl
theorem s_succ (key:Int) (n:Nat):s key (n+1)=s key n+Mc.sg (Mc.wd (v key n)):=by
 unfold s
 rw [ins_succ,List.map_append,List.sum_append]
 simp
theorem ins_length (key:Int) (n:Nat):(ins key n).length=n:=by simp [ins]
theorem s_range (key:Int) (n:Nat):-(2147483648 * (n:Int))<=s key n/\s key n<=2147483648 * (n:Int):=by
 induction n with
 | zero=>simp [s,ins]
 | succ n ih =>
  have:=sg_range (v key n)
  rw [s_succ]
  omega
theorem s_word (key:Int) (n:Nat):Mc.wd (s key n)=Mc.wd (ins key n).sum:=by
 induction n with
 | zero=>rfl
 | succ n ih =>
  rw [s_succ,ins_succ,List.sum_append]
  generalize s key n=a at *
  generalize (ins key n).sum=b at *
  generalize v key n=x
  simp only [List.sum_cons,List.sum_nil,Int.add_zero]
  unfold Mc.sg
  unfold Mc.wd at *
  split <;> omega
end Su
theorem yfP {t:List UInt8} (h:ygI t=true):ygE t:=by
 unfold ygI at h
 simp only [Bool.and_eq_true,decide_eq_true_eq] at h
 exact ⟨h.1,ymZ h.2⟩
theorem yrC:∀ n,n < 17->digs 2 n=Su.dig n:=by decide
theorem ylt (n:Nat):(bs (Su.dig n)).size<=2:=by
 rw [ybp]
 unfold Su.dig
 split <;> simp
set_option maxRecDepth 100000 in
set_option maxHeartbeats 400000 in
theorem ykQ (n:Int) (w:World) (h0:0<=n) (h1:n < 4294967296):Calls Tryz.prog 21 #[.int .i64 n] w fun e w'=>e = .returned (.int .i64 (Mc.sg n))/\w'=w:=by
 by_cases h:n < 2147483648
 ·have E:=hid (show n=Mc.sg n by unfold Mc.sg; rw [if_pos h])
  have d:decide (n < 2147483648)=true:=by simpa using h
  have d2:decide (2147483648<=n)=false:=by simpa using h
  go_enter Tryz.func21,Tryz.ntmps21
  go_wp2
  go_ret
  exact ⟨yC E.out,rfl⟩
 ·have E:=hid (show n - 4294967296=Mc.sg n by unfold Mc.sg; rw [if_neg h])
  have d:decide (n < 2147483648)=false:=by simpa using h
  have d2:decide (2147483648<=n)=true:=by simp; omega
  have e1:IntKind.i64.wrap (n - 4294967296)=n - 4294967296:=IntWalk.i64_in _ ⟨by omega,by omega⟩
  go_enter Tryz.func21,Tryz.ntmps21
  go_wp2
  go_ret
  exact ⟨yC E.out,rfl⟩
set_option maxHeartbeats 400000 in
theorem yih (n:Int) (w:World):Calls Tryz.prog 11 #[.int .i64 n] w fun e w'=>e = .returned (.int .i64 (Mc.sg (Mc.wd n)))/\w'=w:=by
 have E:=ynl n
 have r:=Mc.wd_range n
 have cS:=hid (ykQ (Mc.wd n) w r.1 r.2)
 go_enter Tryz.func11,Tryz.ntmps11
 go_wp2_with fail
 refine cS.out.mono ?_
 rintro e w' ⟨rfl,rfl⟩
 go_wp2
 go_ret
 exact ⟨rfl,rfl⟩
theorem yqG (n:Nat):(⟨#[46,103,108,111,98,108,32,95,115,116,97,114,116,10]⟩:ByteArray) ++ (⟨#[95,115,116,97,114,116,58,32,108,105,32,120,49,49,44]⟩ ++ bs (Su.dig n) ++ ⟨#[10,99,97,108,108,32,115,117,109,10]⟩ ++ ⟨#[108,105,32,120,49,55,44,49,10,101,99,97,108,108,10,108,105,32,120,49,48,44,48,10,108,105,32,120,49,55,44,48,10,101,99,97,108,108,10]⟩)=bs (Su.main n):=by
 unfold Su.main
 apply ByteArray.ext
 simp [bs]
set_option maxRecDepth 100000 in
set_option maxHeartbeats 16000000 in
theorem ymR (c key:Int) (w:World) (ht:Tabs w) (hN:NTab w) (hB:3<=w.heap.size) (h0:-9223372036854775808<=c) (h1:c<=9223372036854775807) :
  Calls Tryz.prog 8 #[.int .i64 c,.int .i64 key] w fun e w'=>e = .returned (.bool true)/\w.grownBy w' none:=by
 have HT:=hid ht
 have HN:=hid hN
 clear ht hN
 obtain ⟨i0,hi,hz0,hz1,hz2⟩:=info_parts Tryz.infoInt
 obtain ⟨n,hn⟩:∃ n,pk c 17=n:=⟨_,rfl⟩
 have nl:n < 17:=by rw [<- hn]; exact ysh c 17 (by omega)
 have cP:=hid (yog c 17 w (by omega) (by omega) h0 h1)
 rw [hn] at cP
 clear hn
 have cN:=hid (ypm 1 n w (by omega) (by omega) (by omega))
 rw [yrC n nl] at cN
 have HS:=yqG n
 have sd:=ylt n
 go_enter Tryz.func8,Tryz.ntmps8
 go_wp2_with fail
 refine cP.out.mono ?_
 rintro e w' ⟨rfl,hw⟩
 rw [hw]
 clear hw w' cP
 go_wp2_with fail
 refine cN.out.mono ?_
 rintro e V0 ⟨rfl,hg0⟩
 have A0:=ysp V0 (.cells ([Su.main n,Su.loop].map fun l=>Value.string (bs l)).toArray 9) none
 have cM:=hid (ypc [Su.main n,Su.loop] (some ⟨V0.heap.size,0,none⟩) 2 (V0.alloc (.cells ([Su.main n,Su.loop].map fun l=>Value.string (bs l)).toArray 9)) (ypC [Su.main n,Su.loop] (yc.new V0 ([Su.main n,Su.loop].map fun l=>Value.string (bs l)).toArray 9)) (by simp) (fun t ht=>by simp only [List.mem_cons,List.not_mem_nil,or_false] at ht; rcases ht with rfl | rfl; exact yfP (ylU n nl); exact yfP ylT) (HT.out.grown (ya hg0 A0)) (HN.out.below (ydo (ya hg0 A0) (Nat.le_refl _) (by simp)) hB) (by have:=(ya hg0 A0).size; omega))
 have G0:=hid (ya hg0 A0)
 clear hg0 A0 cN
 go_wp2_with fail
 refine cM.out.mono ?_
 rintro e V1 ⟨⟨ao,cap,rfl,hls⟩,hg1⟩
 have G1:=hid (ya G0.out hg1)
 have HL:=hid hls
 clear hls hg1 cM G0 HS sd
 have K0:=hid (ynm (yfP (ylU n nl)))
 have K1:=hid (ynm (yfP ylT))
 have NE:=hid (Sy.sums_run (ins:=Su.ins key n) (by rw [Su.ins_length]; exact yqF n nl))
 have AW:=hid (Sy.sums_run (ins:=Su.ins key n) (by rw [Su.ins_length]; exact yqE n nl))
 obtain ⟨wv,hwv⟩:∃ wv,Mc.sg (Mc.wd (Su.s key n))=wv:=⟨_,rfl⟩
 have SW:Mc.sg (Mc.wd (Su.ins key n).sum)=wv:=by rw [<- Su.s_word]; exact hwv
 rw [SW] at NE AW
 clear SW
 have IL:=Su.ins_length key n
 have cR:=hid (fun (bt bf bd:Int) (hb:Im.Base bt/\Im.Base bf/\Im.Base bd) (hr:yeI (Ln.takeAll [(false,[Su.mainO n]),(false,[Su.loopO])]) bt bf bd (Su.ins key n) [wv] 0/\(Mc.run (Im.imgOf (Ln.linkO (Ln.takeAll [(false,[Su.mainO n]),(false,[Su.loopO])]) bt bf bd).1) (Su.ins key n) 5000).read=(Su.ins key n).length) (av:Option Addr) (cv:Nat) (U:World) (hU:V1.grownBy U none) (hI:yz U av (Su.ins key n))=>(show Calls Tryz.prog 18 #[.slice ao 2 cap,.agg #[.int .i64 bt,.int .i64 bf,.int .i64 bd],.slice av n cv] U (fun e w'=>(∃ (ao2:Option Addr) (ca:Nat) (st m:Int),e = .returned (.tuple #[.agg #[.int .i64 1,.int .i64 0,.slice ao2 1 ca,.int .i64 st,.int .i64 n],.int .i64 m,.bool true])/\∃ B,w'.ownsRow B 3 1 (.slice ao2 1 ca) 1 [.int .i64 wv])/\U.grownBy w' none) from by
  have q:=yoU bt bf bd ao cap [asmB (Su.main n),asmB Su.loop] [(false,[Su.mainO n]),(false,[Su.loopO])] av cv (Su.ins key n) [wv] 0 U (HL.out.kept hU) (by intro f hf; simp at hf; have:=K0.out.2; have:=K1.out.2; rcases hf with rfl | rfl <;> omega) hI (by omega) (HT.out.grown (ya G1.out hU)) (by simp) (by simp) hb ⟨K0.out.1,K1.out.1,trivial⟩ hr.1 (ynE hr.1.2.1)
  rw [hr.2,IL] at q
  exact q.mono (fun e w' ⟨⟨ao2,ca,st,he,B,ho⟩,hg⟩=>⟨⟨ao2,ca,st,_,he,B,ho⟩,hg⟩)))
 have cR1:=hid (cR.out _ _ _ yno NE.out)
 have cR2:=hid (cR.out _ _ _ ynn AW.out)
 clear cR NE AW K0 K1
 go_wp2
 go_loopw [10,11,12] (fun vin sv kk wr=>∃ k:Nat,k<=n/\kk = .int .i64 k/\sv = .int .i64 (Su.s key k)/\wr.ownsRow V1.heap.size 3 1 vin k ((Su.ins key k).map (Value.int .i64))/\V1.grownBy wr none) (fun _ _ kk _=>n - (intOf kk).toNat)
 case atStart=>exact ⟨0,Nat.zero_le _,rfl,rfl,World.ownsRow_nil _ _ _ _,World.grownBy.refl _ _⟩
 case round =>
  obtain ⟨k,hk,rfl,rfl,hown,hgr⟩:=hrel
  obtain ⟨av,cv,rfl⟩:=yh hown
  have HO:=hid hown
  have G:=hid hgr
  clear hown hgr
  by_cases hlt:k < n
  ·have g1:(k:Int) < (n:Int):=by omega
   have hz:=G.out.size
   have w1:IntKind.i64.wrap ((k:Int)+1)=((k+1:Nat):Int):=by rw [IntWalk.i64_in _ ⟨by omega,by omega⟩]; omega
   obtain ⟨a,ha⟩:∃ a,IntKind.i64.wrap (key * ((k:Int)+1))=a:=⟨_,rfl⟩
   obtain ⟨x,hx⟩:∃ x,IntKind.i64.wrap (a+(k:Int))=x:=⟨_,rfl⟩
   have VX:=hid (show Su.v key k=x by unfold Su.v; rw [ha,hx])
   have SS:IntKind.i64.wrap (Su.s key k+Mc.sg (Mc.wd x))=Su.s key (k+1):=by
    have q:=Su.s_range key (k+1)
    rw [Su.s_succ,VX.out] at q ⊢
    exact IntWalk.i64_in _ ⟨by omega,by omega⟩
   have TK:=hid (show (Su.ins key (k+1)).map (Value.int .i64)=(Su.ins key k).map (Value.int .i64) ++ [.int .i64 x] by rw [Su.ins_succ,List.map_append,VX.out]; rfl)
   have cW:=hid (fun W=>yih x W)
   obtain ⟨s1,hs1⟩:∃ s1,Su.s key (k+1)=s1:=⟨_,rfl⟩
   have S1:=hid hs1
   rw [hs1] at SS
   clear hs1
   generalize Su.s key k=s0 at *
   generalize Mc.sg (Mc.wd x)=sx at *
   go_wp2_with (at_builtin; refine wpList_append_own _ rfl _ _ 35 rfl V1.heap.size 3 i0 (.int .i64 0) 1 8 Tryz.underlying35 hi hz0 hz1 hz2 rfl (by decide) _ _ _ rfl (HO.out.alloc _) ⟨wr.heap.size,0,none⟩ 1 1 [.int .i64 x] rfl rfl (cell_one_new _ _ _) (by intro u hu; simp at hu; subst hu; rfl) (by unfold maxLen; omega) (by omega) (by simp; omega) ?_; intro v' w3 hown' hgrow _; obtain ⟨av',cv',rfl⟩:=yh hown'; have K:=hid hown'; have GK:=hid (ybV (ya G.out (ysp _ _ _)) hgrow (fun b hb=>(HO.out.lt b hb).1)); clear hgrow hown')
   refine (cW.out _).mono ?_
   rintro e w' ⟨rfl,hw⟩
   rw [hw]
   clear hw w'
   go_wp2
   go_roundw
   case rel=>exact ⟨k+1,by omega,by go_num,by rw [S1.out],by rw [TK.out]; exact K.out,GK.out⟩
   case measure=>simp [intOf]; omega
  ·obtain rfl:k=n:=by omega
   have g3:decide ((k:Int) < (k:Int))=false:=by simp
   have cW:=hid (fun W=>yih (Su.s key k) W)
   rw [hwv] at cW
   generalize Su.s key k=s0 at *
   go_wp2_with fail
   refine (cW.out _).mono ?_
   rintro e w' ⟨rfl,hw⟩
   rw [hw]
   clear hw w' cW
   go_wp2_with fail
   refine (ypj _).mono ?_
   rintro e VA ⟨rfl,hA⟩
   have AB:=ysp VA (.cells #[.int .i64 4096,.int .i64 65536,.int .i64 131072] 33) none
   have GA:=hid (ya (ya G.out hA) AB)
   have BB:=hid (yc.new VA #[.int .i64 4096,.int .i64 65536,.int .i64 131072] 33)
   have HOA:=hid (HO.out.kept (ya hA AB) (Decidable.em _))
   have hBb:V1.heap.size<=VA.heap.size:=(ya G.out hA).size
   clear hA AB G HO
   go_wp2_with fail
   generalize VA.alloc (.cells #[.int .i64 4096,.int .i64 65536,.int .i64 131072] 33)=VB at *
   generalize VA.heap.size=Bb at *
   have b0:VB.cell? ⟨Bb,0,none⟩=some (.int .i64 4096):=BB.out.cell 0
   have b1:VB.cell? ⟨Bb,1,none⟩=some (.int .i64 65536):=BB.out.cell 1
   have b2:VB.cell? ⟨Bb,2,none⟩=some (.int .i64 131072):=BB.out.cell 2
   refine (cR1.out av cv VB GA.out (yz.of_own HOA.out)).mono ?_
   rintro e V6 ⟨⟨ao2,ca,st,m,rfl,B,hown⟩,h6⟩
   have A7:=ysp V6 (.cells #[.int .i64 1,.int .i64 0,.slice ao2 1 ca,.int .i64 st,.int .i64 k] 37) none
   have A8:=ysp (V6.alloc (.cells #[.int .i64 1,.int .i64 0,.slice ao2 1 ca,.int .i64 st,.int .i64 k] 37)) (.cells #[.int .i64 wv] 3) none
   have B7:=(yc.new V6 #[.int .i64 1,.int .i64 0,.slice ao2 1 ca,.int .i64 st,.int .i64 k] 37).grown A8 (by simp)
   have B8:=yc.new (V6.alloc (.cells #[.int .i64 1,.int .i64 0,.slice ao2 1 ca,.int .i64 st,.int .i64 k] 37)) #[.int .i64 wv] 3
   rw [yba] at B8
   have cE:=hid (yjq V6.heap.size ao2 (some ⟨V6.heap.size+1,0,none⟩) ca 1 [wv] 0 st k _ B7 ((yz.of_own (xs:=[wv]) hown).kept (fun a v e=>yd e (ya A7 A8))) (yjB [wv] B8) (by simp))
   have G9:=hid (ya (ya (ya GA.out h6) A7) A8)
   have BB9:=hid (BB.out.grown (ya (ya h6 A7) A8) (by simp))
   have HO9:=hid (HOA.out.kept (ya (ya h6 A7) A8) (Decidable.em _))
   have R9:=hid B7
   clear hown h6 A7 A8 B7 B8 b0 b1 b2 GA BB HOA cR1
   go_wp2_with fail
   refine cE.out.mono ?_
   rintro e V9 ⟨rfl,h9⟩
   generalize V6.heap.size=R1 at *
   go_wp2_with fail
   refine (yow _).mono ?_
   rintro e VC ⟨rfl,hC⟩
   have GC:=hid (ya (ya G9.out h9) hC)
   have BC:=BB9.out.grown (ya h9 hC) (by simp)
   have HOC:=HO9.out.kept (ya h9 hC) (Decidable.em _)
   have RC:=R9.out.grown (ya h9 hC) (by simp)
   have b0:=BC.cell 0
   have b1:=BC.cell 1
   have b2:=BC.cell 2
   simp only [ysk,ysl,ysj] at b0 b1 b2
   have z0:=BC.free 0
   have z1:=BC.free 1
   have z2:=BC.free 2
   have GS:=World.grownBy.trans (World.grownBy.trans (yf VC Bb 0 (.int .i64 16777216)) (yf _ Bb 1 (.int .i64 67108864))) (yf _ Bb 2 (.int .i64 1048576))
   have GD:=hid (yx GC.out Bb hBb (.int .i64 16777216) (.int .i64 67108864) (.int .i64 1048576))
   have HOD:=hid (yy HOC GS (RowT.blk BC) (by decide))
   have RD:=hid (yF RC GS (RowT.blk BC) (by decide))
   have BD:=hid (show yc (((VC.setCell ⟨Bb,0,none⟩ (.int .i64 16777216)).setCell ⟨Bb,1,none⟩ (.int .i64 67108864)).setCell ⟨Bb,2,none⟩ (.int .i64 1048576)) Bb #[.int .i64 16777216,.int .i64 67108864,.int .i64 1048576] 33 by simpa using ((BC.set 0 (.int .i64 16777216)).set 1 (.int .i64 67108864)).set 2 (.int .i64 1048576))
   clear BC HOC RC GS h9 hC GC G9 BB9 HO9 R9
   have d0:=BD.out.cell 0
   have d1:=BD.out.cell 1
   have d2:=BD.out.cell 2
   simp only [ysk,ysl,ysj] at d0 d1 d2
   go_wp2_with fail
   clear b0 b1 b2 z0 z1 z2 d0 d1 d2
   generalize (((VC.setCell ⟨Bb,0,none⟩ (.int .i64 16777216)).setCell ⟨Bb,1,none⟩ (.int .i64 67108864)).setCell ⟨Bb,2,none⟩ (.int .i64 1048576))=VD at *
   refine (cR2.out av cv VD GD.out (yz.of_own HOD.out)).mono ?_
   rintro e V6 ⟨⟨ao3,cb,sq,m2,rfl,B,hown⟩,h6⟩
   have A7:=ysp V6 (.cells #[.int .i64 1,.int .i64 0,.slice ao3 1 cb,.int .i64 sq,.int .i64 k] 37) none
   have A8:=ysp (V6.alloc (.cells #[.int .i64 1,.int .i64 0,.slice ao3 1 cb,.int .i64 sq,.int .i64 k] 37)) (.cells #[.int .i64 wv] 3) none
   have B7:=(yc.new V6 #[.int .i64 1,.int .i64 0,.slice ao3 1 cb,.int .i64 sq,.int .i64 k] 37).grown A8 (by simp)
   have B8:=yc.new (V6.alloc (.cells #[.int .i64 1,.int .i64 0,.slice ao3 1 cb,.int .i64 sq,.int .i64 k] 37)) #[.int .i64 wv] 3
   rw [yba] at B8
   have cE:=hid (yjq V6.heap.size ao3 (some ⟨V6.heap.size+1,0,none⟩) cb 1 [wv] 0 sq k _ B7 ((yz.of_own (xs:=[wv]) hown).kept (fun a v e=>yd e (ya A7 A8))) (yjB [wv] B8) (by simp))
   have G9:=hid (ya (ya (ya GD.out h6) A7) A8)
   have R9:=hid (RD.out.grown (ya (ya h6 A7) A8) (by simp))
   have Q9:=hid B7
   clear hown h6 A7 A8 B7 B8 GD BD HOD RD cR2
   go_wp2_with fail
   refine cE.out.mono ?_
   rintro e VZ ⟨rfl,h9⟩
   generalize V6.heap.size=R2 at *
   have r4:=(R9.out.grown h9 (by simp)).cell 4
   have q4:=(Q9.out.grown h9 (by simp)).cell 4
   simp only [ysk,ysl,ysj] at r4 q4
   have GZ:=hid (ya G1.out (ya G9.out h9))
   clear h9 G9 R9 Q9 cE
   go_wp2
   go_ret
   exact ⟨rfl,GZ.out⟩
end Go.Proofs.YtpgklkhgfcjceaaGreatDoor

namespace Go.Proofs.YtpgklkhgfcjceaaGreatDoor
open Go.ChangeShapes Go.WideShapes Go.ChangeAt Go.RowKit
theorem yla:ownKnob Tryz.prog.godebug=none:=by kernel_rfl
theorem ypP : Tryz.prog.globalNamed "linker/instr.forms" = some 0 := by kernel_rfl
theorem gFix : Tryz.prog.globalNamed "linker/instr.fixed" = some 1 := by kernel_rfl
theorem gNam : Tryz.prog.globalNamed "linker/instr.names" = some 2 := by kernel_rfl
theorem ynz:(Tryz.prog.globals[0]?).map (·.type)=some 175:=by kernel_rfl
theorem yoN:(Tryz.prog.globals[1]?).map (·.type)=some 175:=by kernel_rfl
theorem yoO:(Tryz.prog.globals[2]?).map (·.type)=some 180:=by kernel_rfl
theorem yjk:Tryz.prog.cellsOf 175=26:=by kernel_rfl
theorem yjl:Tryz.prog.cellsOf 3=1:=by kernel_rfl
theorem ynq:Tryz.prog.cellsOf 180=26:=by kernel_rfl
theorem yoz:Tryz.prog.cellsOf 9=1:=by kernel_rfl
theorem yor:Tryz.prog.underlying 175=some (.array 26 3):=by kernel_rfl
theorem yqJ:Tryz.prog.underlying 180=some (.array 26 9):=by kernel_rfl
theorem yrD:Tryz.prog.underlying 9=some .string:=by kernel_rfl
theorem yeD:Tryz.prog.underlying 3=some (.int .i64):=by kernel_rfl
def yhV {H:Type} (zs:List (List UInt8)):DataW H:=.agg (zs.map fun z=>.lit (.string z))
theorem yiw {H:Type} {enc:TypeId×Value->H} {P:Program} {w:World} {base:Nat} {sp:Nat->Bool} {held:Bool} {fuel:Nat} {t e:TypeId} {n:Nat} {cs:List Value} {zs:List (List UInt8)} {p:List MemPlace}
  (ht:P.underlying t=some (.array n e)) (he:P.underlying e=some .string) (hce:P.cellsOf e=1) (hct:P.cellsOf t=n)
  (h:DataW.trod enc P w base sp held fuel t cs=some (yhV zs,p)):cs=zs.map fun z=>Value.string (bs z):=by
 cases fuel with
 | zero=>simp [DataW.trod] at h
 | succ fuel =>
  simp only [DataW.trod,ht,hce,hct,Nat.mul_one] at h
  split at h
  ·rename_i hl
   obtain ⟨xs,hm,hx⟩:=Option.map_eq_some_iff.1 h
   have hxs:xs.map (·.1)=zs.map fun z=>(DataW.lit (.string z):DataW H):=by
    have:=congrArg Prod.fst hx
    simpa [yhV] using this
   have hxl:xs.length=n:=by simpa using Lib.mapM_length hm
   have hzl:zs.length=n:=by
    have:=congrArg List.length hxs
    simp at this
    omega
   apply List.ext_getElem?
   intro i
   by_cases hi:i < n
   ·obtain ⟨b,hb,hf⟩:=Lib.mapM_at hm i i (by simp [hi])
    obtain ⟨z,hc,rfl,_⟩:=DataW.trod_string he hf
    have h1:cs[i]?=some (.string z):=by
     have:=congrArg (·[0]?) hc
     simpa [List.getElem?_take,List.getElem?_drop] using this
    have h2:(xs.map (·.1))[i]?=some (DataW.lit (.string z.data.toList):DataW H):=by simp [hb]
    rw [hxs] at h2
    simp only [List.getElem?_map,Option.map_eq_some_iff,DataW.lit.injEq,Lit.string.injEq] at h2
    obtain ⟨z',hz',rfl⟩:=h2
    have hbz:bs z.data.toList=z:=yrG z
    simp [h1,hz',hbz]
   ·rw [List.getElem?_eq_none (by omega),List.getElem?_eq_none (by simp; omega)]
  ·cases h
theorem yhC {W:World} {b o:Nat} {v:Value} (h:W.cell? ⟨b,o,none⟩=some v):b < W.heap.size:=by
 by_cases hb:b < W.heap.size
 ·exact hb
 ·exfalso
  simp only [World.cell?] at h
  rw [Array.getElem?_eq_none (by omega)] at h
  cases h
theorem yiQ {W : World} (h : laidMet Tryz.prog [("linker/instr.forms", Lib.tabData .i64 ybt), ("linker/instr.fixed", Lib.tabData .i64 ycy), ("linker/instr.names", yhV As.names)] W) : Tabs W ∧ NTab W ∧ 3 ≤ W.heap.size := by
 have t1 : Lib.TabIs Tryz.prog W "linker/instr.forms" .i64 ybt := Lib.tabIs_of_head ypP ynz yor yeD yjl yjk h
 obtain ⟨ps,⟨g',t',cs,fuel,p,q,hg',ht',hvar,hd,⟨g2,t2,cs2,fuel2,p2,q2,hg2,ht2,hvar2,hd2,⟨g3,t3,cs3,fuel3,p3,q3,hg3,ht3,hvar3,hd3,_,_⟩,_⟩,_⟩,_⟩:=h
 obtain rfl:=Option.some.inj (gFix.symm.trans hg2)
 obtain rfl:=Option.some.inj (yoN.symm.trans ht2)
 obtain rfl:=Option.some.inj (gNam.symm.trans hg3)
 obtain rfl:=Option.some.inj (yoO.symm.trans ht3)
 have e2 : Lib.TabIs Tryz.prog W "linker/instr.fixed" .i64 ycy := by
  unfold Lib.TabIs
  rw [hvar2,<- Lib.cells_of_tab yor yeD yjl yjk hd2]
 have e3 : W.var? Tryz.prog "linker/instr.names" = some (As.names.map fun z => Value.string (bs z)).toArray := by
  rw [hvar3,<- yiw yqJ yrD yoz ynq hd3]
 have T:Tabs W:=⟨fun i hi=>t1.cell ypP i hi,fun i hi=>e2.cell gFix i hi⟩
 have N:NTab W:=by
  intro i hi
  have hl:As.names.length=26:=by decide
  have:=World.var?_cell gNam e3 i
  rw [this]
  simp [List.getD,hl,hi]
 refine ⟨T,N,?_⟩
 have a:=yhC (T.1 0 (by decide))
 have b:=yhC (T.2 0 (by decide))
 have c:=yhC (N 0 (by decide))
 omega
theorem yiB {W W':World} (h:W.grownBy W' none) (may:MemPlace->Prop):W.keptBut W' may:=by
 refine World.keptBut_mono (fun _ f=>f.elim) (?_:W.keptBut W' (fun _=>False))
 refine ⟨h.os,h.output,fun i hi=>?_⟩
 rw [h.block i hi (by simp)]
 cases hb:W.heap[i]? with
 | none=>trivial
 | some o=>cases o <;> simp
def yop (zs:List Int):Obj->Obj
 | .cells _ t frozen=>.cells (zs.map (Value.int .i64)).toArray t frozen
 | o=>o
def yrB (zs:List (List UInt8)):Obj->Obj
 | .cells _ t frozen=>.cells (zs.map fun z=>Value.string (bs z)).toArray t frozen
 | o=>o
noncomputable def yfv (os:Os):World :=
 { World.holding Tryz.prog os ⟨#[],#[],[]⟩ with heap:=(((World.holding Tryz.prog os ⟨#[],#[],[]⟩).heap.modify 0 (yop ybt)).modify 1 (yop ycy)).modify 2 (yrB As.names) }
end Go.Proofs.YtpgklkhgfcjceaaGreatDoor

namespace Go.Proofs.YtpgklkhgfcjceaaGreatDoor
open Go.ChangeShapes Go.WideShapes Go.ChangeAt Go.RowKit
theorem yik {c:Int} (h:(Lit.int .i64 c).wf=true):-9223372036854775808<=c/\c<=9223372036854775807:=by
 simp [Lit.wf] at h
 have e:IntKind.i64.min = -9223372036854775808:=by decide
 omega
theorem ylu (c d:Int) (w:World) (ht:Tabs w) (hN:NTab w) (hB:3<=w.heap.size) (h0:-9223372036854775808<=c) (h1:c<=9223372036854775807) :
  Calls Tryz.prog 4 #[.int .i64 c,.int .i64 d] w fun e w'=>e = .returned (.bool true)/\w.grownBy w' none:=by
 have cF:=hid (ymR c d w ht hN hB h0 h1)
 clear ht hN
 go_enter Tryz.func4,Tryz.ntmps4
 go_wp2_with fail
 refine cF.out.mono ?_
 rintro e V1 ⟨rfl,hg⟩
 have G:=hid hg
 clear hg
 go_wp2
 go_ret
 exact ⟨rfl,G.out⟩
set_option maxRecDepth 100000 in
theorem yiP (H:Type) (enc:TypeId×Value->H) (W:World) (base:Nat) (args:Array Value) (ds gs:List (DataW H)) (before:List MemPlace)
  (hval:∀ (j:Nat) t v,Tryz.f4.params[j]?=some t->args[j]?=some v->Value.okWide Tryz.prog W .any base t v)
  (hW:DataW.Whole enc Tryz.prog Tryz.f4.params.toList Rows.sumsSpec.vars false W args.toList ds gs before) (hL:laidMetH Tryz.prog Rows.sumsRow.laid W) :
  Calls Tryz.prog 4 args W fun e W'=>∃ v,e = .returned v/\Rows.sumsSpec.post enc Tryz.prog Tryz.f4 false true false false W args v W':=by
 have hW':=hW
 obtain ⟨p,q,hA0,hV,rfl,hfz,hnd⟩:=hW
 have hA:DataW.TrodAll enc Tryz.prog W 0 (fun _=>true) true Tryz.f4.params.toList args.toList ds p:=hA0
 rw [Tryz.params4] at hA hval
 obtain ⟨v0,vs0,d0,ds0,p0,q0,hargs,rfl,rfl,h0,r0⟩:=trodAll_cons hA
 obtain ⟨v1,vs1,d1,ds1,p1,q1,hargs1,rfl,rfl,h1,r1⟩:=trodAll_cons r0
 obtain ⟨rfl,rfl,rfl⟩:=trodAll_nil r1
 obtain rfl:args = #[v0,v1]:=by cases args; simp_all
 obtain ⟨rfl,rfl⟩:=trodVars_none hV
 have hv:Value.okWide Tryz.prog W .any base 3 v0:=hval 0 3 v0 rfl rfl
 have hv1:Value.okWide Tryz.prog W .any base 3 v1:=hval 1 3 v1 rfl rfl
 obtain ⟨c,rfl,rfl,rfl,hw⟩:=open_int (t:=3) yeD hv h0
 obtain ⟨d,rfl,rfl,rfl,hw1⟩:=open_int (t:=3) yeD hv1 h1
 clear hA0
 simp only [List.append_nil] at hW'
 obtain ⟨hT,hN,hB⟩:=yiQ hL
 refine (ylu c d W hT hN hB (yik hw).1 (yik hw).2).mono fun e W' ⟨he,hg⟩=>?_
 subst he
 exact ⟨_,rfl,_,_,_,[],[],[],hW',trodAll_cons_mk (shut_bool Tryz.underlying4 _) trodAll_mk0,trodAll_cons_mk (shut_int yeD hw) (trodAll_cons_mk (shut_int yeD hw1) trodAll_mk0),rfl,yiB hg _,fun h=>by cases h⟩
theorem yoV (os:Os):laidMet Tryz.prog Rows.sumsRow.laid ((yfv os).forCall (fun _ _=>0) ⟨#[],#[.int .i64 0,.int .i64 0],[]⟩).memory :=
 laidMet_of_run' 8 (by kernel_rfl) (by kernel_rfl)
theorem yiV (os:Os) {H:Type} (enc:TypeId×Value->H):∃ places,DataW.whole enc Tryz.prog ((yfv os).forCall (fun _ _=>0) ⟨#[],#[.int .i64 0,.int .i64 0],[]⟩).memory Tryz.f4.params.toList Rows.sumsSpec.vars false #[Value.int .i64 0,.int .i64 0].toList 8=some ([.lit (.int .i64 0),.lit (.int .i64 0)],[],places) :=
 ⟨[],by kernel_rfl⟩
set_option maxRecDepth 100000 in
theorem ylv (os:Os) (started:os.Started) (H:Type) (enc:TypeId×Value->H) (F:Stop.Interp) :
  ReturnsInHanded {} Tryz.checked os 4 .any ((OpenSpec.ofChange Rows.sumsSpec).preRow enc Tryz.prog Tryz.f4 Rows.sumsRow.domain false Rows.sumsRow.laid) (((OpenSpec.ofChange Rows.sumsSpec).at F).post enc Tryz.prog Tryz.f4 false true false false):=by
 obtain ⟨places,hx⟩:=yiV os enc
 refine returnsInHanded_of_row (C:=Tryz.checked) (s:=OpenSpec.ofChange Rows.sumsSpec) yla started (by kernel_rfl) Tryz.func4
  (witness_row_at (enc:=enc) (C:=Tryz.checked) false (yfv os) #[.int .i64 0,.int .i64 0] rfl (by kernel_rfl) (by kernel_rfl) (by kernel_rfl)
   (OpenSpec.preRow_of_cond 8 hx (by kernel_rfl) (fun k hk=>by cases hk) (by kernel_rfl) (yoV os))) ?_
 intro W base args ds gs before hval hW _ _ _ hL _ _
 exact yiP H enc W base args ds gs before hval hW hL
theorem yoo:Rows.SumsSaid :=
 OpenClaim.holds_of_cond 4 Tryz.f4 rfl rfl rfl rfl rfl rfl rfl ⟨rfl,rfl,rfl,rfl,rfl⟩ rfl rfl rfl rfl rfl (by kernel_rfl) Tryz.func4 (by kernel_rfl)
  (of_decide_eq_true (by kernel_rfl)) (by unfold Func.isWrapper; first | (rw [if_pos (by decide +kernel)]; kernel_rfl) | (rw [if_neg (by decide +kernel)]; exact ⟨rfl,rfl⟩))
  (fun os started H enc _ F=>by rw [OpenClaim.pre_eq_preRow]; exact ylv os started H enc F)
theorem ymS (f : FuncId) (fn : Func) (hf : Tryz.pinned.checked.prog.funcNamed "linker/linkerkeep.Sums" = some f) (hfn : Tryz.pinned.checked.prog.funcs[f]? = some fn) :
  false=Tryz.pinned.checked.prog.looks []/\∀ (j:Nat) t,fn.params[j]?=some t->Tryz.pinned.checked.prog.wantsStandIn t=false:=by
 obtain rfl : f = 4 := Option.some.inj ((show Tryz.prog.funcNamed "linker/linkerkeep.Sums" = some 4 by kernel_rfl).symm.trans hf) |>.symm
 obtain rfl:fn=Tryz.f4:=(Option.some.inj (Tryz.func4.symm.trans hfn)).symm
 refine ⟨by kernel_rfl,fun j t ht=>?_⟩
 rw [Tryz.params4] at ht
 obtain rfl:t=3:=by have:=Array.mem_of_getElem? ht; simp at this; exact this
 exact (show Tryz.prog.wantsStandIn 3=false by kernel_rfl)
theorem sums_card:Rows.SumsCardSaid :=
 Claim7.holds_tied_plain_at .later [] _ _ _ _ yoo (fun _ h=>by cases h) (by kernel_rfl) (fun _ h=>by cases h) sums_row_tie rfl ⟨rfl,rfl⟩ (by kernel_rfl) rfl ymS (by kernel_rfl)
end Go.Proofs.YtpgklkhgfcjceaaGreatDoor
