/- Bordered: the walk. -/
/- The row and the card of Bordered. -/
import Derived.Test.YtnfgdlkiialnnaaGreatDoorH27
import Derived.Test.YtnfgdlkiialnnaaGreatDoorCards
import Derived.Test.YtnfgdlkiialnnaaGreatDoorTie
namespace Go.Proofs.YtnfgdlkiialnnaaGreatDoor
open Go.RowKit
set_option maxRecDepth 100000 in
set_option maxHeartbeats 1000000 in
theorem pick12_any (c:Int) (w:World) (h0:-9223372036854775808<=c) (h1:c<=9223372036854775807) :
  Calls Tryz.prog 11 #[.int .i64 c,.int .i64 12] w fun e w'=>(∃ i:Nat,i < 12/\e = .returned (.int .i64 i))/\w'=w:=by
 by_cases hc:c < 0
 ·have d:decide (c < 0)=true:=by simpa using hc
  go_enter Tryz.func11,Tryz.ntmps11
  go_wp2
  go_ret
  have e:-((c+1).tmod 12)=(((-(c+1)) % 12).toNat:Int):=by
   rw [<- Int.neg_tmod,Int.tmod_eq_emod_of_nonneg (by omega)]
   omega
  exact ⟨⟨((-(c+1)) % 12).toNat,by omega,yL e⟩,rfl⟩
 ·have d:decide (c < 0)=false:=by simpa using hc
  go_enter Tryz.func11,Tryz.ntmps11
  go_wp2
  go_ret
  exact ⟨⟨(c % 12).toNat,by omega,yL (by omega)⟩,rfl⟩
set_option maxRecDepth 100000 in
set_option maxHeartbeats 1000000 in
theorem pick4_any (c:Int) (w:World) (h0:-9223372036854775808<=c) (h1:c<=9223372036854775807) :
  Calls Tryz.prog 11 #[.int .i64 c,.int .i64 4] w fun e w'=>(∃ i:Nat,i < 4/\e = .returned (.int .i64 i))/\w'=w:=by
 by_cases hc:c < 0
 ·have d:decide (c < 0)=true:=by simpa using hc
  go_enter Tryz.func11,Tryz.ntmps11
  go_wp2
  go_ret
  have e:-((c+1).tmod 4)=(((-(c+1)) % 4).toNat:Int):=by
   rw [<- Int.neg_tmod,Int.tmod_eq_emod_of_nonneg (by omega)]
   omega
  exact ⟨⟨((-(c+1)) % 4).toNat,by omega,yL e⟩,rfl⟩
 ·have d:decide (c < 0)=false:=by simpa using hc
  go_enter Tryz.func11,Tryz.ntmps11
  go_wp2
  go_ret
  exact ⟨⟨(c % 4).toNat,by omega,yL (by omega)⟩,rfl⟩
theorem bd_len (j n:Nat):(Bd.text j n).length<=31+33 * n:=by
 induction n with
 | zero=>unfold Bd.text; decide
 | succ n ih =>
  unfold Bd.text
  have a:Bd.call.length=7:=rfl
  have b:Bd.border.length=26:=rfl
  split
  ·rw [ysl,ysl]; omega
  ·rw [ysl]; omega
theorem list3 {α:Type} {P:α->Prop} {a b c:α} (h1:P a) (h2:P b) (h3:P c):∀ t∈[a,b,c],P t:=by
 intro t ht
 rcases List.mem_cons.1 ht with rfl | ht
 ·exact h1
 rcases List.mem_cons.1 ht with rfl | ht
 ·exact h2
 rcases List.mem_cons.1 ht with rfl | ht
 ·exact h3
 simp at ht
theorem asmOk_of {t:List UInt8} (h:asmB2 t=true):yjl t:=by
 unfold asmB2 at h
 simp only [Bool.and_eq_true,decide_eq_true_eq] at h
 exact ⟨h.1,ynd h.2⟩
theorem want_range (j k:Nat):∀ i,(k:Int)<=Bd.want j k i/\Bd.want j k i<=k+100 * i:=by
 intro i
 induction i with
 | zero=>unfold Bd.want; omega
 | succ i ih =>
  unfold Bd.want
  split <;> omega
theorem img_short2 {l:List UInt8} (h:Im.IsImg l):l.length<=1048576:=by
 have f:l.length=26+4 * (Im.nT l+Im.nF l+Im.nD l):=h.2.1
 have n:=Im.n_le l
 omega
theorem bsx_append (a b:List UInt8):bs a ++ bs b=bs (a ++ b):=by
 apply ByteArray.ext
 simp [bs]
set_option maxRecDepth 100000 in
set_option maxHeartbeats 16000000 in
theorem bordered_any (c d:Int) (w:World) (ht:Tabs w) (hN:NTab w) (hB:3<=w.heap.size) (h0:-9223372036854775808<=c) (h1:c<=9223372036854775807) (h2:-9223372036854775808<=d) (h3:d<=9223372036854775807) :
  Calls Tryz.prog 9 #[.int .i64 c,.int .i64 d] w fun e w'=>e = .returned (.bool true)/\w.grownBy w' none:=by
 have HT:=hid ht
 have HN:=hid hN
 have HBD:=hid bd_all
 clear ht hN
 go_enter Tryz.func9,Tryz.ntmps9
 go_wp2_with fail
 refine (pick12_any c w h0 h1).mono ?_
 rintro e w' ⟨⟨k,hk,rfl⟩,hw⟩
 rw [hw]
 clear hw w'
 go_wp2_with fail
 refine (pick4_any d w h2 h3).mono ?_
 rintro e w' ⟨⟨j,hj,rfl⟩,hw⟩
 rw [hw]
 clear hw w'
 go_wp2
 go_loop [7,8] (fun t i=>∃ n:Nat,n<=k/\i = .int .i64 n/\t = .string (bs (Bd.text j n))) (fun _ i=>k - (intOf i).toNat)
 case atStart=>exact ⟨0,Nat.zero_le _,rfl,rfl⟩
 case round =>
  obtain ⟨n,hn,rfl,rfl⟩:=hrel
  have sz:(bs (Bd.text j n)).size<=1000:=by rw [ybz]; have:=bd_len j n; omega
  have q1:¬ 9223372036854775807 < (bs (Bd.text j n)).size+7:=by omega
  have q2:¬ 9223372036854775807 < (bs (Bd.text j n)).size+7+26:=by omega
  by_cases hlt:n < k
  ·have g1:(n:Int) < (k:Int):=by omega
   have m1:Int.tmod (n:Int) 4=((n % 4:Nat):Int):=by rw [Int.tmod_eq_emod_of_nonneg (by omega)]; omega
   by_cases hq:n % 4=j
   ·have d1:(((n % 4:Nat):Int) == (j:Int))=true:=by subst hq; simp
    have HS:=hid (show bs (Bd.text j n) ++ ⟨#[99,97,108,108,32,102,10]⟩ ++ ⟨#[46,97,108,105,103,110,32,51,10,97,100,100,105,32,120,49,48,44,120,49,48,44,49,48,48,10]⟩=bs (Bd.text j (n+1)) by
     have e:Bd.text j (n+1)=Bd.text j n ++ Bd.call ++ Bd.border:=by rw [Bd.text,if_pos hq]
     rw [e,<- bsx_append,<- bsx_append]
     rfl)
    generalize n % 4=r at *
    clear hq
    go_wp2
    go_round
    case rel=>exact ⟨n+1,by omega,by go_num,by rw [<- HS.out]⟩
    case measure=>simp [intOf]; omega
   ·have d1:(((n % 4:Nat):Int) == (j:Int))=false:=by simp; omega
    have HS:=hid (show bs (Bd.text j n) ++ ⟨#[99,97,108,108,32,102,10]⟩=bs (Bd.text j (n+1)) by
     have e:Bd.text j (n+1)=Bd.text j n ++ Bd.call:=by rw [Bd.text,if_neg hq]
     rw [e,<- bsx_append]
     rfl)
    generalize n % 4=r at *
    clear hq
    go_wp2
    go_round
    case rel=>exact ⟨n+1,by omega,by go_num,by rw [<- HS.out]⟩
    case measure=>simp [intOf]; omega
  ·obtain rfl:n=k:=by omega
   have g3:decide ((n:Int) < (n:Int))=false:=by simp
   clear q1 q2 sz g3
   have sz:(bs (Bd.text j n)).size<=1000:=by rw [ybz]; have:=bd_len j n; omega
   have g3:decide ((n:Int) < (n:Int))=false:=by simp
   have q1:¬ 9223372036854775807 < (bs (Bd.text j n)).size+66:=by omega
   have q2:¬ 9223372036854775807 < (bs (Bd.text j n)).size+66+39:=by omega
   have q3:¬ 9223372036854775807 < 5+((bs (Bd.text j n)).size+66):=by omega
   have q4:¬ 9223372036854775807 < 5+((bs (Bd.text j n)).size+66)+39:=by omega
   by_cases hf:Int.tmod d 2=0
   ·have d1:(Int.tmod d 2 == 0)=true:=by simpa using hf
    clear hf
    have EM:Hid ((⟨#[46,102,97,114,10]⟩:ByteArray) ++ (bs (Bd.text j n) ++ ⟨#[106,32,111,118,101,114,10,46,97,108,105,103,110,32,52,10,111,118,101,114,58,32,108,97,32,120,49,49,44,111,118,101,114,10,97,110,100,105,32,120,49,49,44,120,49,49,44,49,53,10,97,100,100,32,120,49,48,44,120,49,48,44,120,49,49,10]⟩) ++ ⟨#[108,105,32,120,49,55,44,49,10,101,99,97,108,108,10,108,105,32,120,49,48,44,48,10,108,105,32,120,49,55,44,48,10,101,99,97,108,108,10]⟩=bs (Bd.main n j true)):=by
     show _=_
     have e:Bd.main n j true=Bd.far ++ (Bd.text j n ++ Bd.over) ++ Bd.finish:=rfl
     rw [e,<- bsx_append,<- bsx_append,<- bsx_append]
     rfl
    have BR:=HBD.out n j true hk hj
    go_wp2_with fail
    rw [EM.out]
    clear EM
    have OKM:=hid (asmOk_of BR.1)
    have RUN:=hid BR.2
    clear BR
    generalize Bd.main n j true=mt at *
    have A0:=ysk w (.cells ([Bd.one,mt,Bd.three].map fun l=>Value.string (bs l)).toArray 9) none
    have cM:=hid (yoB [Bd.one,mt,Bd.three] (some ⟨w.heap.size,0,none⟩) 3 (w.alloc (.cells ([Bd.one,mt,Bd.three].map fun l=>Value.string (bs l)).toArray 9)) (ycp [Bd.one,mt,Bd.three] (yc.new w _ 9)) (by simp) (list3 (P:=yjl) (asmOk_of bd_one.1) OKM.out (asmOk_of bd_one.2)) (HT.out.grown A0) (HN.out.below (ydx A0 (Nat.le_refl _) (by simp)) hB) (by rw [yau]; omega))
    refine cM.out.mono ?_
    rintro e V1 ⟨⟨ao,cap,rfl,hls⟩,hg1⟩
    have G1:=hid (ya A0 hg1)
    have HL:=hid hls
    clear hls hg1 cM A0
    go_wp2
    go_loop [11,12] (fun v i=>∃ m:Nat,m<=n/\i = .int .i64 m/\v = .int .i64 (Bd.want j n m)) (fun _ i=>n - (intOf i).toNat)
    case atStart=>exact ⟨0,Nat.zero_le _,rfl,rfl⟩
    case round =>
     obtain ⟨m,hm,rfl,rfl⟩:=hrel
     by_cases hlt2:m < n
     ·have g1:(m:Int) < (n:Int):=by omega
      have m1:Int.tmod (m:Int) 4=((m % 4:Nat):Int):=by rw [Int.tmod_eq_emod_of_nonneg (by omega)]; omega
      have wr:=want_range j n m
      by_cases hq:m % 4=j
      ·have d4:(((m % 4:Nat):Int) == (j:Int))=true:=by subst hq; simp
       have HS:=hid (show Bd.want j n (m+1)=Bd.want j n m+100 by rw [Bd.want,if_pos hq])
       generalize Bd.want j n m=wv at *
       generalize m % 4=r at *
       clear hq
       have w1:IntKind.i64.wrap (wv+100)=wv+100:=IntWalk.i64_in _ ⟨by omega,by omega⟩
       go_wp2
       go_round
       case rel=>exact ⟨m+1,by omega,by go_num,by rw [HS.out]⟩
       case measure=>simp [intOf]; omega
      ·have d4:(((m % 4:Nat):Int) == (j:Int))=false:=by simp; omega
       have HS:=hid (show Bd.want j n (m+1)=Bd.want j n m by rw [Bd.want,if_neg hq])
       generalize Bd.want j n m=wv at *
       generalize m % 4=r at *
       clear hq
       go_wp2
       go_round
       case rel=>exact ⟨m+1,by omega,by go_num,by rw [HS.out]⟩
       case measure=>simp [intOf]; omega
     ·obtain rfl:m=n:=by omega
      have g4:decide ((m:Int) < (m:Int))=false:=by simp
      go_wp2_with fail
      refine (yoW _).mono ?_
      rintro e V2 ⟨rfl,h2⟩
      have AV:=ysk V2 (.cells #[.int .i64 4096,.int .i64 65536,.int .i64 131072] 35) none
      have GV:=hid (ya G1.out (ya h2 AV))
      have BB:=hid (yc.new V2 #[.int .i64 4096,.int .i64 65536,.int .i64 131072] 35)
      have HLV:=hid (HL.out.kept (ya h2 AV))
      clear h2 AV
      have cR:=hid (yeV 4096 65536 131072 ao cap [asmB Bd.one,asmB mt,asmB Bd.three] [(false,[(As.assemble Bd.one).2]),(false,[(As.assemble mt).2]),(false,[(As.assemble Bd.three).2])] none 0 [] [Bd.want j m m] 0 _ HLV.out (list3 (P:=fun f:List UInt8=>f.length<=1048576) (yrb (asmOk_of bd_one.1)).2 (yrb OKM.out).2 (yrb (asmOk_of bd_one.2)).2) (fun h=>by simp at h) (by simp) (HT.out.grown GV.out) (by simp) (by simp) ycl ⟨ymV (asmOk_of bd_one.1),ymV OKM.out,ymV (asmOk_of bd_one.2),trivial⟩ RUN.out (img_short2 RUN.out.2.1))
      generalize Bd.want j m m=wv at *
      go_wp2_with fail
      refine cR.out.mono ?_
      rintro e V6 ⟨⟨ao2,ca,st,rfl,hoi⟩,h6⟩
      generalize (Mc.run _ [] 5000).read=rd at *
      have A7:=ysk V6 (.cells #[.int .i64 1,.int .i64 0,.slice ao2 1 ca,.int .i64 st,.int .i64 rd] 39) none
      have A8:=ysk (V6.alloc (.cells #[.int .i64 1,.int .i64 0,.slice ao2 1 ca,.int .i64 st,.int .i64 rd] 39)) (.cells #[.int .i64 wv] 3) none
      have B7:=(yc.new V6 #[.int .i64 1,.int .i64 0,.slice ao2 1 ca,.int .i64 st,.int .i64 rd] 39).grown A8 (by simp)
      have B8:=yc.new (V6.alloc (.cells #[.int .i64 1,.int .i64 0,.slice ao2 1 ca,.int .i64 st,.int .i64 rd] 39)) #[.int .i64 wv] 3
      rw [yau] at B8
      have cE:=hid (yfs V6.heap.size ao2 (some ⟨V6.heap.size+1,0,none⟩) ca 1 [wv] 0 st rd _ B7 (hoi.kept (fun a v e=>yd e (ya A7 A8))) (yfm [wv] B8) (by simp))
      have G9:=hid (ya (ya (ya GV.out h6) A7) A8)
      clear hoi h6 A7 A8 B7 B8 cR
      go_wp2_with fail
      refine cE.out.mono ?_
      rintro e V9 ⟨rfl,h9⟩
      have GZ:=hid (ya G9.out h9)
      clear h9 cE
      go_wp2
      go_ret
      exact ⟨rfl,GZ.out⟩
   ·have d1:(Int.tmod d 2 == 0)=false:=by simpa using hf
    clear hf
    have EM:Hid ((bs (Bd.text j n) ++ ⟨#[106,32,111,118,101,114,10,46,97,108,105,103,110,32,52,10,111,118,101,114,58,32,108,97,32,120,49,49,44,111,118,101,114,10,97,110,100,105,32,120,49,49,44,120,49,49,44,49,53,10,97,100,100,32,120,49,48,44,120,49,48,44,120,49,49,10]⟩) ++ ⟨#[108,105,32,120,49,55,44,49,10,101,99,97,108,108,10,108,105,32,120,49,48,44,48,10,108,105,32,120,49,55,44,48,10,101,99,97,108,108,10]⟩=bs (Bd.main n j false)):=by
     show _=_
     have e:Bd.main n j false=Bd.text j n ++ Bd.over ++ Bd.finish:=rfl
     rw [e,<- bsx_append,<- bsx_append]
     rfl
    have BR:=HBD.out n j false hk hj
    go_wp2_with fail
    rw [EM.out]
    clear EM
    have OKM:=hid (asmOk_of BR.1)
    have RUN:=hid BR.2
    clear BR
    generalize Bd.main n j false=mt at *
    have A0:=ysk w (.cells ([Bd.one,mt,Bd.three].map fun l=>Value.string (bs l)).toArray 9) none
    have cM:=hid (yoB [Bd.one,mt,Bd.three] (some ⟨w.heap.size,0,none⟩) 3 (w.alloc (.cells ([Bd.one,mt,Bd.three].map fun l=>Value.string (bs l)).toArray 9)) (ycp [Bd.one,mt,Bd.three] (yc.new w _ 9)) (by simp) (list3 (P:=yjl) (asmOk_of bd_one.1) OKM.out (asmOk_of bd_one.2)) (HT.out.grown A0) (HN.out.below (ydx A0 (Nat.le_refl _) (by simp)) hB) (by rw [yau]; omega))
    refine cM.out.mono ?_
    rintro e V1 ⟨⟨ao,cap,rfl,hls⟩,hg1⟩
    have G1:=hid (ya A0 hg1)
    have HL:=hid hls
    clear hls hg1 cM A0
    go_wp2
    go_loop [11,12] (fun v i=>∃ m:Nat,m<=n/\i = .int .i64 m/\v = .int .i64 (Bd.want j n m)) (fun _ i=>n - (intOf i).toNat)
    case atStart=>exact ⟨0,Nat.zero_le _,rfl,rfl⟩
    case round =>
     obtain ⟨m,hm,rfl,rfl⟩:=hrel
     by_cases hlt2:m < n
     ·have g1:(m:Int) < (n:Int):=by omega
      have m1:Int.tmod (m:Int) 4=((m % 4:Nat):Int):=by rw [Int.tmod_eq_emod_of_nonneg (by omega)]; omega
      have wr:=want_range j n m
      by_cases hq:m % 4=j
      ·have d4:(((m % 4:Nat):Int) == (j:Int))=true:=by subst hq; simp
       have HS:=hid (show Bd.want j n (m+1)=Bd.want j n m+100 by rw [Bd.want,if_pos hq])
       generalize Bd.want j n m=wv at *
       generalize m % 4=r at *
       clear hq
       have w1:IntKind.i64.wrap (wv+100)=wv+100:=IntWalk.i64_in _ ⟨by omega,by omega⟩
       go_wp2
       go_round
       case rel=>exact ⟨m+1,by omega,by go_num,by rw [HS.out]⟩
       case measure=>simp [intOf]; omega
      ·have d4:(((m % 4:Nat):Int) == (j:Int))=false:=by simp; omega
       have HS:=hid (show Bd.want j n (m+1)=Bd.want j n m by rw [Bd.want,if_neg hq])
       generalize Bd.want j n m=wv at *
       generalize m % 4=r at *
       clear hq
       go_wp2
       go_round
       case rel=>exact ⟨m+1,by omega,by go_num,by rw [HS.out]⟩
       case measure=>simp [intOf]; omega
     ·obtain rfl:m=n:=by omega
      have g4:decide ((m:Int) < (m:Int))=false:=by simp
      go_wp2_with fail
      refine (yoW _).mono ?_
      rintro e V2 ⟨rfl,h2⟩
      have AV:=ysk V2 (.cells #[.int .i64 4096,.int .i64 65536,.int .i64 131072] 35) none
      have GV:=hid (ya G1.out (ya h2 AV))
      have BB:=hid (yc.new V2 #[.int .i64 4096,.int .i64 65536,.int .i64 131072] 35)
      have HLV:=hid (HL.out.kept (ya h2 AV))
      clear h2 AV
      have cR:=hid (yeV 4096 65536 131072 ao cap [asmB Bd.one,asmB mt,asmB Bd.three] [(false,[(As.assemble Bd.one).2]),(false,[(As.assemble mt).2]),(false,[(As.assemble Bd.three).2])] none 0 [] [Bd.want j m m] 0 _ HLV.out (list3 (P:=fun f:List UInt8=>f.length<=1048576) (yrb (asmOk_of bd_one.1)).2 (yrb OKM.out).2 (yrb (asmOk_of bd_one.2)).2) (fun h=>by simp at h) (by simp) (HT.out.grown GV.out) (by simp) (by simp) ycl ⟨ymV (asmOk_of bd_one.1),ymV OKM.out,ymV (asmOk_of bd_one.2),trivial⟩ RUN.out (img_short2 RUN.out.2.1))
      generalize Bd.want j m m=wv at *
      go_wp2_with fail
      refine cR.out.mono ?_
      rintro e V6 ⟨⟨ao2,ca,st,rfl,hoi⟩,h6⟩
      generalize (Mc.run _ [] 5000).read=rd at *
      have A7:=ysk V6 (.cells #[.int .i64 1,.int .i64 0,.slice ao2 1 ca,.int .i64 st,.int .i64 rd] 39) none
      have A8:=ysk (V6.alloc (.cells #[.int .i64 1,.int .i64 0,.slice ao2 1 ca,.int .i64 st,.int .i64 rd] 39)) (.cells #[.int .i64 wv] 3) none
      have B7:=(yc.new V6 #[.int .i64 1,.int .i64 0,.slice ao2 1 ca,.int .i64 st,.int .i64 rd] 39).grown A8 (by simp)
      have B8:=yc.new (V6.alloc (.cells #[.int .i64 1,.int .i64 0,.slice ao2 1 ca,.int .i64 st,.int .i64 rd] 39)) #[.int .i64 wv] 3
      rw [yau] at B8
      have cE:=hid (yfs V6.heap.size ao2 (some ⟨V6.heap.size+1,0,none⟩) ca 1 [wv] 0 st rd _ B7 (hoi.kept (fun a v e=>yd e (ya A7 A8))) (yfm [wv] B8) (by simp))
      have G9:=hid (ya (ya (ya GV.out h6) A7) A8)
      clear hoi h6 A7 A8 B7 B8 cR
      go_wp2_with fail
      refine cE.out.mono ?_
      rintro e V9 ⟨rfl,h9⟩
      have GZ:=hid (ya G9.out h9)
      clear h9 cE
      go_wp2
      go_ret
      exact ⟨rfl,GZ.out⟩
end Go.Proofs.YtnfgdlkiialnnaaGreatDoor

namespace Go.Proofs.YtnfgdlkiialnnaaGreatDoor
open Go.ChangeShapes Go.WideShapes Go.ChangeAt Go.RowKit
theorem yiu {c:Int} (h:(Lit.int .i64 c).wf=true):-9223372036854775808<=c/\c<=9223372036854775807:=by
 simp [Lit.wf] at h
 have e:IntKind.i64.min = -9223372036854775808:=by decide
 omega
theorem borderedLaw_any (c d:Int) (w:World) (ht:Tabs w) (hN:NTab w) (hB:3<=w.heap.size) (h0:-9223372036854775808<=c) (h1:c<=9223372036854775807) (h2:-9223372036854775808<=d) (h3:d<=9223372036854775807) :
  Calls Tryz.prog 5 #[.int .i64 c,.int .i64 d] w fun e w'=>e = .returned (.bool true)/\w.grownBy w' none:=by
 have cF:=hid (bordered_any c d w ht hN hB h0 h1 h2 h3)
 clear ht hN
 go_enter Tryz.func5,Tryz.ntmps5
 go_wp2_with fail
 refine cF.out.mono ?_
 rintro e V1 ⟨rfl,hg⟩
 have G:=hid hg
 clear hg
 go_wp2
 go_ret
 exact ⟨rfl,G.out⟩
set_option maxRecDepth 100000 in
theorem bordered_contract (H:Type) (enc:TypeId×Value->H) (W:World) (base:Nat) (args:Array Value) (ds gs:List (DataW H)) (before:List MemPlace)
  (hval:∀ (j:Nat) t v,Tryz.f5.params[j]?=some t->args[j]?=some v->Value.okWide Tryz.prog W .any base t v)
  (hW:DataW.Whole enc Tryz.prog Tryz.f5.params.toList Rows.borderedSpec.vars false W args.toList ds gs before) (hL:laidMetH Tryz.prog Rows.borderedRow.laid W) :
  Calls Tryz.prog 5 args W fun e W'=>∃ v,e = .returned v/\Rows.borderedSpec.post enc Tryz.prog Tryz.f5 false true false false W args v W':=by
 have hW':=hW
 obtain ⟨p,q,hA0,hV,rfl,hfz,hnd⟩:=hW
 have hA:DataW.TrodAll enc Tryz.prog W 0 (fun _=>true) true Tryz.f5.params.toList args.toList ds p:=hA0
 rw [Tryz.params5] at hA hval
 obtain ⟨v0,vs0,d0,ds0,p0,q0,hargs,rfl,rfl,h0,r0⟩:=trodAll_cons hA
 obtain ⟨v1,vs1,d1,ds1,p1,q1,hargs1,rfl,rfl,h1,r1⟩:=trodAll_cons r0
 obtain ⟨rfl,rfl,rfl⟩:=trodAll_nil r1
 obtain rfl:args = #[v0,v1]:=by cases args; simp_all
 obtain ⟨rfl,rfl⟩:=trodVars_none hV
 have hv:Value.okWide Tryz.prog W .any base 3 v0:=hval 0 3 v0 rfl rfl
 have hv1:Value.okWide Tryz.prog W .any base 3 v1:=hval 1 3 v1 rfl rfl
 obtain ⟨c,rfl,rfl,rfl,hw⟩:=open_int (t:=3) yhH hv h0
 obtain ⟨d,rfl,rfl,rfl,hw1⟩:=open_int (t:=3) yhH hv1 h1
 clear hA0
 simp only [List.append_nil] at hW'
 obtain ⟨hT,hN,hB⟩:=yiQ hL
 refine (borderedLaw_any c d W hT hN hB (yiu hw).1 (yiu hw).2 (yiu hw1).1 (yiu hw1).2).mono fun e W' ⟨he,hg⟩=>?_
 subst he
 exact ⟨_,rfl,_,_,_,[],[],[],hW',trodAll_cons_mk (shut_bool Tryz.underlying4 _) trodAll_mk0,trodAll_cons_mk (shut_int yhH hw) (trodAll_cons_mk (shut_int yhH hw1) trodAll_mk0),rfl,yiI hg _,fun h=>by cases h⟩
theorem ypw (os:Os):laidMet Tryz.prog Rows.borderedRow.laid ((yga os).forCall (fun _ _=>0) ⟨#[],#[.int .i64 0,.int .i64 0],[]⟩).memory :=
 laidMet_of_run' 8 (by kernel_rfl) (by kernel_rfl)
theorem yjc (os:Os) {H:Type} (enc:TypeId×Value->H):∃ places,DataW.whole enc Tryz.prog ((yga os).forCall (fun _ _=>0) ⟨#[],#[.int .i64 0,.int .i64 0],[]⟩).memory Tryz.f5.params.toList Rows.borderedSpec.vars false #[Value.int .i64 0,.int .i64 0].toList 8=some ([.lit (.int .i64 0),.lit (.int .i64 0)],[],places) :=
 ⟨[],by kernel_rfl⟩
set_option maxRecDepth 100000 in
theorem bordered_lifted (os:Os) (started:os.Started) (H:Type) (enc:TypeId×Value->H) (F:Stop.Interp) :
  ReturnsInHanded {} Tryz.checked os 5 .any ((OpenSpec.ofChange Rows.borderedSpec).preRow enc Tryz.prog Tryz.f5 Rows.borderedRow.domain false Rows.borderedRow.laid) (((OpenSpec.ofChange Rows.borderedSpec).at F).post enc Tryz.prog Tryz.f5 false true false false):=by
 obtain ⟨places,hx⟩:=yjc os enc
 refine returnsInHanded_of_row (C:=Tryz.checked) (s:=OpenSpec.ofChange Rows.borderedSpec) yls started (by kernel_rfl) Tryz.func5
  (witness_row_at (enc:=enc) (C:=Tryz.checked) false (yga os) #[.int .i64 0,.int .i64 0] rfl (by kernel_rfl) (by kernel_rfl) (by kernel_rfl)
   (OpenSpec.preRow_of_cond 8 hx (by kernel_rfl) (fun k hk=>by cases hk) (by kernel_rfl) (ypw os))) ?_
 intro W base args ds gs before hval hW _ _ _ hL _ _
 exact bordered_contract H enc W base args ds gs before hval hW hL
theorem bordered_said:Rows.BorderedSaid :=
 OpenClaim.holds_of_cond 5 Tryz.f5 rfl rfl rfl rfl rfl rfl rfl ⟨rfl,rfl,rfl,rfl,rfl⟩ rfl rfl rfl rfl rfl (by kernel_rfl) Tryz.func5 (by kernel_rfl)
  (of_decide_eq_true (by kernel_rfl)) (by unfold Func.isWrapper; first | (rw [if_pos (by decide +kernel)]; kernel_rfl) | (rw [if_neg (by decide +kernel)]; exact ⟨rfl,rfl⟩))
  (fun os started H enc _ F=>by rw [OpenClaim.pre_eq_preRow]; exact bordered_lifted os started H enc F)
theorem bordered_plain (f : FuncId) (fn : Func) (hf : Tryz.pinned.checked.prog.funcNamed "linker/linkerkeep.Bordered" = some f) (hfn : Tryz.pinned.checked.prog.funcs[f]? = some fn) :
  false=Tryz.pinned.checked.prog.looks []/\∀ (j:Nat) t,fn.params[j]?=some t->Tryz.pinned.checked.prog.wantsStandIn t=false:=by
 obtain rfl : f = 5 := Option.some.inj ((show Tryz.prog.funcNamed "linker/linkerkeep.Bordered" = some 5 by kernel_rfl).symm.trans hf) |>.symm
 obtain rfl:fn=Tryz.f5:=(Option.some.inj (Tryz.func5.symm.trans hfn)).symm
 refine ⟨by kernel_rfl,fun j t ht=>?_⟩
 rw [Tryz.params5] at ht
 obtain rfl:t=3:=by have:=Array.mem_of_getElem? ht; simp at this; exact this
 exact (show Tryz.prog.wantsStandIn 3=false by kernel_rfl)
theorem bordered_card:Rows.BorderedCardSaid :=
 Claim7.holds_tied_plain_at .later [] _ _ _ _ bordered_said (fun _ h=>by cases h) (by kernel_rfl) (fun _ h=>by cases h) bordered_row_tie rfl ⟨rfl,rfl⟩ (by kernel_rfl) rfl bordered_plain (by kernel_rfl)
end Go.Proofs.YtnfgdlkiialnnaaGreatDoor
