
import Derived.Test.YtpgklkhgfcjceaaGreatDoorV27
import Derived.ProofKit
import Derived.OpenShut
import Derived.ChangeMaps5
import Derived.Deep.DeepHandedRow
import Derived.Lib.LaidTab
import Derived.Test.YtpgklkhgfcjceaaGreatDoorCards
import Derived.Test.YtpgklkhgfcjceaaGreatDoorTie
set_option maxHeartbeats 16000000
namespace Go.Proofs.YtpgklkhgfcjceaaGreatDoor
open Go.RowKit
set_option maxRecDepth 100000 in
theorem yor (c:Int) (n:Nat) (w:World) (hn:1<=n) (hm:n<=1000000) (h0:-9223372036854775808<=c) (h1:c<=9223372036854775807) :
  Calls Tryz.prog 12 #[.int .i64 c,.int .i64 n] w fun e w'=>e = .returned (.int .i64 (pk c n))/\w'=w:=by
 have z1:((n:Int) == 0)=false:=by simp; omega
 have z2:(n:Int)≠0:=by omega
 by_cases hc:c < 0
 ·have d:decide (c < 0)=true:=by simpa using hc
  have e:-((c+1).tmod n)=((pk c n:Nat):Int):=by
   have p:=Int.emod_nonneg (-(c+1)) z2
   unfold pk
   rw [if_pos hc,<- Int.neg_tmod,Int.tmod_eq_emod_of_nonneg (by omega)]
   omega
  have E:=hid e
  clear e
  go_enter Tryz.func12,Tryz.ntmps12
  go_wp2
  go_ret
  exact ⟨yC E.o,rfl⟩
 ·have d:decide (c < 0)=false:=by simpa using hc
  have e:c % n=((pk c n:Nat):Int):=by
   have p:=Int.emod_nonneg c z2
   unfold pk
   rw [if_neg hc]
   omega
  have E:=hid e
  clear e
  go_enter Tryz.func12,Tryz.ntmps12
  go_wp2
  go_ret
  exact ⟨yC E.o,rfl⟩
namespace Ca
def text (i:Nat):List UInt8:=[46,103,108,111,98,108,32,95,115,116,97,114,116,10,95,115,116,97,114,116,58,32,108,105,32,120,49,48,44,48,10] ++ calls i
theorem wR (i:Nat):bs (text i) ++ ⟨#[99,97,108,108,32,102,10]⟩=bs (text (i+1)):=by
 have e:text (i+1)=text i ++ [99,97,108,108,32,102,10]:=by
  unfold text calls
  rw [List.replicate_succ',List.flatten_append,List.append_assoc]
  rfl
 rw [e]
 apply ByteArray.ext
 simp [bs]
theorem tC (i:Nat):(text i).length=31+7 * i:=by
 unfold text calls
 simp
 omega
theorem Ad (i:Nat):bs (text i) ++ ⟨#[108,105,32,120,49,55,44,49,10,101,99,97,108,108,10,108,105,32,120,49,48,44,48,10,108,105,32,120,49,55,44,48,10,101,99,97,108,108,10]⟩=bs (main i):=by
 have e:main i=text i ++ [108,105,32,120,49,55,44,49,10,101,99,97,108,108,10,108,105,32,120,49,48,44,48,10,108,105,32,120,49,55,44,48,10,101,99,97,108,108,10]:=rfl
 rw [e]
 apply ByteArray.ext
 simp [bs]
end Ca
set_option maxRecDepth 100000 in
theorem ymn (c d:Int) (w:World) (ht:dz w) (hN:mh w) (hB:3<=w.heap.size) (h0:-9223372036854775808<=c) (h1:c<=9223372036854775807) (h2:-9223372036854775808<=d) (h3:d<=9223372036854775807) :
  Calls Tryz.prog 9 #[.int .i64 c,.int .i64 d] w fun e w'=>e = .returned (.bool true)/\w.grownBy w' none:=by
 have HT:=hid ht
 have HN:=hid hN
 clear ht hN
 obtain ⟨k,hk⟩:∃ k,pk c 20=k:=⟨_,rfl⟩
 have kl:k < 20:=by rw [<- hk]; exact Xm c 20 (by omega)
 have cP:=hid (yoq c 20 w (by omega) (by omega) h0 h1)
 rw [hk] at cP
 obtain ⟨j,hj⟩:∃ j,pk d 131072=j:=⟨_,rfl⟩
 have jl:j < 131072:=by rw [<- hj]; exact Xm d 131072 (by omega)
 have cQ:=hid (fun W=>yor d 131072 W (by omega) (by omega) h2 h3)
 rw [hj] at cQ
 clear hk hj h0 h1 h2 h3
 go_enter Tryz.func9,Tryz.ntmps9
 go_wp2_with fail
 refine cP.o.mono ?_
 rintro e w' ⟨rfl,hw⟩
 rw [hw]
 clear hw w' cP
 go_wp2
 go_loop [6,7] (fun t i=>∃ n:Nat,n<=k/\i = .int .i64 n/\t = .string (bs (Ca.text n))) (fun _ i=>k - (intOf i).toNat)
 case atStart=>exact ⟨0,Nat.zero_le _,rfl,rfl⟩
 case round =>
  obtain ⟨n,hn,rfl,rfl⟩:=hrel
  have sz:(bs (Ca.text n)).size=31+7 * n:=by rw [Ao]; exact Ca.tC n
  have q1:¬ 9223372036854775807 < (bs (Ca.text n)).size+7:=by omega
  by_cases hlt:n < k
  ·have g1:(n:Int) < (k:Int):=by omega
   have HS:=hid (Ca.wR n)
   go_wp2
   go_round
   case rel=>exact ⟨n+1,by omega,by go_num,by rw [<- HS.o]⟩
   case measure=>simp [intOf]; omega
  ·obtain rfl:n=k:=by omega
   have g3:decide ((n:Int) < (n:Int))=false:=by simp
   have q2:¬ 9223372036854775807 < (bs (Ca.text n)).size+39:=by omega
   have HS:=Ca.Ad n
   have A0:=aH w (.cells ([Ca.main n,Ca.far].map fun l=>Value.string (bs l)).toArray 9) none
   have cM:=hid (ypp [Ca.main n,Ca.far] (some ⟨w.heap.size,0,none⟩) 2 (w.alloc (.cells ([Ca.main n,Ca.far].map fun l=>Value.string (bs l)).toArray 9)) (ypO [Ca.main n,Ca.far] (yc.new w ([Ca.main n,Ca.far].map fun l=>Value.string (bs l)).toArray 9)) (by simp) (fun t ht=>by simp only [List.mem_cons,List.not_mem_nil,or_false] at ht; rcases ht with rfl | rfl; exact Ca.okB (Qg n kl); exact Ca.okB Qf) (HT.o.grown A0) (HN.o.below (LH A0 (Nat.le_refl _) (by simp)) hB) (by rw [Bb]; omega))
   have G0:=hid A0
   clear A0
   go_wp2_with fail
   refine cM.o.mono ?_
   rintro e V1 ⟨⟨ao,cap,rfl,hls⟩,hg1⟩
   have G1:=hid (ya G0.o hg1)
   have HL:=hid hls
   clear hls hg1 cM G0 HS sz q1 q2
   have wj:IntKind.i64.wrap ((j:Int) * 16)=(j:Int) * 16:=IntWalk.i64_in _ ⟨by omega,by omega⟩
   have wF:IntKind.i64.wrap (8192+(j:Int) * 16)=8192+(j:Int) * 16:=IntWalk.i64_in _ ⟨by omega,by omega⟩
   go_wp2_with fail
   refine (cQ.o _).mono ?_
   rintro e w' ⟨rfl,hw⟩
   rw [hw]
   clear hw w' cQ
   obtain ⟨R,g,hg,hlen,hs,hl⟩:=Ca.wD n kl (8192+(j:Int) * 16) (by omega) (by omega) (by omega)
   have K0:=hid (WY (Ca.okB (Qg n kl)))
   have K1:=hid (WY (Ca.okB Qf))
   have RR:=hid R
   have AB:=aH V1 (.cells #[.int .i64 4096,.int .i64 (8192+(j:Int) * 16),.int .i64 16777216] 33) none
   have cR:=hid (show Calls Tryz.prog 18 #[.slice ao 2 cap,.agg #[.int .i64 4096,.int .i64 (8192+(j:Int) * 16),.int .i64 16777216],.slice none 0 0] (V1.alloc (.cells #[.int .i64 4096,.int .i64 (8192+(j:Int) * 16),.int .i64 16777216] 33)) (fun e w'=>(∃ (AV:Option Addr) (ca:Nat) (st rd:Int),e = .returned (.tuple #[.agg #[.int .i64 1,.int .i64 0,.slice AV 1 ca,.int .i64 st,.int .i64 rd],.int .i64 ((26+4 * (8+n+g):Nat):Int),.bool true])/\∃ B,w'.ownsRow B 3 1 (.slice AV 1 ca) 1 [.int .i64 n])/\(V1.alloc (.cells #[.int .i64 4096,.int .i64 (8192+(j:Int) * 16),.int .i64 16777216] 33)).grownBy w' none) from by
    have q:=yph 4096 (8192+(j:Int) * 16) 16777216 ao cap [mX (Ca.main n),mX Ca.far] [(false,[Ca.cu n]),(false,[Ca.kG])] none 0 [] [(n:Int)] 0 _ (HL.o.kept AB) (by intro f hf; simp at hf; have:=K0.o.2; have:=K1.o.2; rcases hf with rfl | rfl <;> omega) (fun h=>by simp at h) (by simp) (HT.o.grown (ya G1.o AB)) (by simp) (by simp) (by unfold Im.Base; omega) ⟨K0.o.1,K1.o.1,trivial⟩ R (ynO R.2.1)
    rw [hlen] at q
    exact q.mono (fun e w' ⟨⟨AV,ca,st,he,B,ho⟩,hg⟩=>⟨⟨AV,ca,st,_,he,B,ho⟩,hg⟩))
   have GA:=hid (ya G1.o AB)
   have BB:=hid (yc.new V1 #[.int .i64 4096,.int .i64 (8192+(j:Int) * 16),.int .i64 16777216] 33)
   clear AB R hlen K0 K1 HL
   have b0:(V1.alloc (.cells #[.int .i64 4096,.int .i64 (8192+(j:Int) * 16),.int .i64 16777216] 33)).cell? ⟨V1.heap.size,0,none⟩=some (.int .i64 4096):=BB.o.cell 0
   have b1:(V1.alloc (.cells #[.int .i64 4096,.int .i64 (8192+(j:Int) * 16),.int .i64 16777216] 33)).cell? ⟨V1.heap.size,1,none⟩=some (.int .i64 (8192+(j:Int) * 16)):=BB.o.cell 1
   have b2:(V1.alloc (.cells #[.int .i64 4096,.int .i64 (8192+(j:Int) * 16),.int .i64 16777216] 33)).cell? ⟨V1.heap.size,2,none⟩=some (.int .i64 16777216):=BB.o.cell 2
   go_wp2_with fail
   refine cR.o.mono ?_
   rintro e V6 ⟨⟨AV,ca,st,rd,rfl,B,hown⟩,h6⟩
   have A7:=aH V6 (.cells #[.int .i64 1,.int .i64 0,.slice AV 1 ca,.int .i64 st,.int .i64 rd] 37) none
   have A8:=aH (V6.alloc (.cells #[.int .i64 1,.int .i64 0,.slice AV 1 ca,.int .i64 st,.int .i64 rd] 37)) (.cells #[.int .i64 n] 3) none
   have B7:=(yc.new V6 #[.int .i64 1,.int .i64 0,.slice AV 1 ca,.int .i64 st,.int .i64 rd] 37).grown A8 (by simp)
   have B8:=yc.new (V6.alloc (.cells #[.int .i64 1,.int .i64 0,.slice AV 1 ca,.int .i64 st,.int .i64 rd] 37)) #[.int .i64 n] 3
   rw [Bb] at B8
   have cE:=hid (yoR V6.heap.size AV (some ⟨V6.heap.size+1,0,none⟩) ca 1 [(n:Int)] 0 st rd _ B7 ((yz.aR (xs:=[(n:Int)]) hown).kept (fun a v e=>yd e (ya A7 A8))) (ype [(n:Int)] B8) (by simp))
   have G9:=hid (ya (ya (ya GA.o h6) A7) A8)
   clear hown h6 A7 A8 B7 B8 b0 b1 b2 GA BB cR
   go_wp2_with fail
   refine cE.o.mono ?_
   rintro e V9 ⟨rfl,h9⟩
   have GZ:=hid (ya G9.o h9)
   clear h9 G9 cE
   generalize V6.heap.size=R1 at *
   clear RR
   have HX:=hid (And.intro hs hl)
   obtain ⟨nn,hnn⟩:∃ nn:Int,26+4 * (8+(n:Int)+(g:Int))=nn:=⟨_,rfl⟩
   rw [hnn]
   have NX:=hid hnn
   have d1:decide (nn < 26+4 * (8+(n:Int)))=false:=by simp; omega
   have d2:decide (26+4 * (8+2 * (n:Int)) < nn)=false:=by simp; omega
   have e3:IntKind.i64.wrap (nn - (26+4 * (8+(n:Int))))=4 * (g:Int):=by rw [<- hnn,IntWalk.i64_in _ ⟨by omega,by omega⟩]; omega
   have m3:Int.tmod (4 * (g:Int)) 4=0:=by rw [Int.tmod_eq_emod_of_nonneg (by omega)]; omega
   clear hs hl hnn
   have dj:0<=(j:Int) * 16/\(j:Int) * 16<=2097136:=by omega
   clear wF hg jl
   generalize (j:Int) * 16=D at *
   by_cases c1:D < 524288
   ·have d4:(nn == 26+4 * (8+(n:Int)))=true:=by have:=HX.o.1 (by omega); have:=NX.o; simp; omega
    go_wp2
    go_ret
    exact ⟨rfl,GZ.o⟩
   ·have d5:decide (D < 524288)=false:=by simp; omega
    by_cases c2:D < 1048576
    ·have d6:decide (D < 1048576)=true:=by simp; omega
     clear c1 c2
     go_wp2
     go_ret
     exact ⟨rfl,GZ.o⟩
    ·have d6:decide (D < 1048576)=false:=by simp; omega
     have d4:(nn == 26+4 * (8+2 * (n:Int)))=true:=by have:=HX.o.2 (by omega); have:=NX.o; simp; omega
     clear c1 c2
     go_wp2
     go_ret
     exact ⟨rfl,GZ.o⟩
end Go.Proofs.YtpgklkhgfcjceaaGreatDoor

namespace Go.Proofs.YtpgklkhgfcjceaaGreatDoor
open Go.ChangeShapes Go.WideShapes Go.ChangeAt Go.RowKit
theorem ylm:ownKnob Tryz.prog.godebug=none:=by kernel_rfl
theorem Xg : Tryz.prog.globalNamed "linker/instr.forms" = some 0 := by kernel_rfl
theorem Jk : Tryz.prog.globalNamed "linker/instr.fixed" = some 1 := by kernel_rfl
theorem Jl : Tryz.prog.globalNamed "linker/instr.names" = some 2 := by kernel_rfl
theorem ynJ:(Tryz.prog.globals[0]?).map (·.type)=some 175:=by kernel_rfl
theorem ypa:(Tryz.prog.globals[1]?).map (·.type)=some 175:=by kernel_rfl
theorem ypb:(Tryz.prog.globals[2]?).map (·.type)=some 180:=by kernel_rfl
theorem VI:Tryz.prog.cellsOf 175=26:=by kernel_rfl
theorem VJ:Tryz.prog.cellsOf 3=1:=by kernel_rfl
theorem yny:Tryz.prog.cellsOf 180=26:=by kernel_rfl
theorem yoM:Tryz.prog.cellsOf 9=1:=by kernel_rfl
theorem Xc:Tryz.prog.underlying 175=some (.array 26 3):=by kernel_rfl
theorem yqX:Tryz.prog.underlying 180=some (.array 26 9):=by kernel_rfl
theorem yrR:Tryz.prog.underlying 9=some .string:=by kernel_rfl
theorem Ib:Tryz.prog.underlying 3=some (.int .i64):=by kernel_rfl
def Qn {H:Type} (zs:List (List UInt8)):DataW H:=.agg (zs.map fun z=>.lit (.string z))
theorem ZA {H:Type} {enc:TypeId×Value->H} {P:Program} {w:World} {base:Nat} {sp:Nat->Bool} {held:Bool} {fuel:Nat} {t e:TypeId} {n:Nat} {cs:List Value} {zs:List (List UInt8)} {p:List MemPlace}
  (ht:P.underlying t=some (.array n e)) (he:P.underlying e=some .string) (hce:P.cellsOf e=1) (hct:P.cellsOf t=n)
  (h:DataW.trod enc P w base sp held fuel t cs=some (Qn zs,p)):cs=zs.map fun z=>Value.string (bs z):=by
 cases fuel with
 | zero=>simp [DataW.trod] at h
 | succ fuel =>
  simp only [DataW.trod,ht,hce,hct,Nat.mul_one] at h
  split at h
  ·rename_i hl
   obtain ⟨xs,hm,hx⟩:=Option.map_eq_some_iff.1 h
   have hxs:xs.map (·.1)=zs.map fun z=>(DataW.lit (.string z):DataW H):=by
    have:=congrArg Prod.fst hx
    simpa [Qn] using this
   have hxl:xs.length=n:=by simpa using Lib.mapM_length hm
   have hzl:zs.length=n:=by
    have:=congrArg List.length hxs
    simp at this
    omega
   apply List.ext_getElem?
   intro i
   by_cases hi:i < n
   ·obtain ⟨b,hb,hf⟩:=Lib.mapM_at hm i i (by simp [hi])
    obtain ⟨z,hc,rfl,_⟩:=DataW.trod_string he hf
    have h1:cs[i]?=some (.string z):=by
     have:=congrArg (·[0]?) hc
     simpa [List.getElem?_take,List.getElem?_drop] using this
    have h2:(xs.map (·.1))[i]?=some (DataW.lit (.string z.data.toList):DataW H):=by simp [hb]
    rw [hxs] at h2
    simp only [List.getElem?_map,Option.map_eq_some_iff,DataW.lit.injEq,Lit.string.injEq] at h2
    obtain ⟨z',hz',rfl⟩:=h2
    have hbz:bs z.data.toList=z:=yrU z
    simp [h1,hz',hbz]
   ·rw [List.getElem?_eq_none (by omega),List.getElem?_eq_none (by simp; omega)]
  ·cases h
theorem Qh {W:World} {b o:Nat} {v:Value} (h:W.cell? ⟨b,o,none⟩=some v):b < W.heap.size:=by
 by_cases hb:b < W.heap.size
 ·exact hb
 ·exfalso
  simp only [World.cell?] at h
  rw [Array.getElem?_eq_none (by omega)] at h
  cases h
theorem ZV {W : World} (h : laidMet Tryz.prog [("linker/instr.forms", Lib.tabData .i64 sj), ("linker/instr.fixed", Lib.tabData .i64 Bo), ("linker/instr.names", Qn As.names)] W) : dz W ∧ mh W ∧ 3 ≤ W.heap.size := by
 have t1 : Lib.TabIs Tryz.prog W "linker/instr.forms" .i64 sj := Lib.tabIs_of_head Xg ynJ Xc Ib VJ VI h
 obtain ⟨ps,⟨g',t',cs,fuel,p,q,hg',ht',hvar,hd,⟨g2,t2,cs2,fuel2,p2,q2,hg2,ht2,Ju,hd2,⟨g3,t3,cs3,Sw,p3,q3,hg3,ht3,Jv,hd3,_,_⟩,_⟩,_⟩,_⟩:=h
 obtain rfl:=Option.some.inj (Jk.symm.trans hg2)
 obtain rfl:=Option.some.inj (ypa.symm.trans ht2)
 obtain rfl:=Option.some.inj (Jl.symm.trans hg3)
 obtain rfl:=Option.some.inj (ypb.symm.trans ht3)
 have e2 : Lib.TabIs Tryz.prog W "linker/instr.fixed" .i64 Bo := by
  unfold Lib.TabIs
  rw [Ju,<- Lib.cells_of_tab Xc Ib VJ VI hd2]
 have e3 : W.var? Tryz.prog "linker/instr.names" = some (As.names.map fun z => Value.string (bs z)).toArray := by
  rw [Jv,<- ZA yqX yrR yoM yny hd3]
 have T:dz W:=⟨fun i hi=>t1.cell Xg i hi,fun i hi=>e2.cell Jk i hi⟩
 have N:mh W:=by
  intro i hi
  have hl:As.names.length=26:=by decide
  have:=World.var?_cell Jl e3 i
  rw [this]
  simp [List.getD,hl,hi]
 refine ⟨T,N,?_⟩
 have a:=Qh (T.1 0 (by decide))
 have b:=Qh (T.2 0 (by decide))
 have c:=Qh (N 0 (by decide))
 omega
theorem ZG {W W':World} (h:W.grownBy W' none) (may:MemPlace->Prop):W.keptBut W' may:=by
 refine World.keptBut_mono (fun _ f=>f.elim) (?_:W.keptBut W' (fun _=>False))
 refine ⟨h.os,h.output,fun i hi=>?_⟩
 rw [h.block i hi (by simp)]
 cases hb:W.heap[i]? with
 | none=>trivial
 | some o=>cases o <;> simp
def Xb (zs:List Int):Obj->Obj
 | .cells _ t frozen=>.cells (zs.map (Value.int .i64)).toArray t frozen
 | o=>o
def yrQ (zs:List (List UInt8)):Obj->Obj
 | .cells _ t frozen=>.cells (zs.map fun z=>Value.string (bs z)).toArray t frozen
 | o=>o
noncomputable def Pg (os:Os):World :=
 { World.holding Tryz.prog os ⟨#[],#[],[]⟩ with heap:=(((World.holding Tryz.prog os ⟨#[],#[],[]⟩).heap.modify 0 (Xb sj)).modify 1 (Xb Bo)).modify 2 (yrQ As.names) }
end Go.Proofs.YtpgklkhgfcjceaaGreatDoor

namespace Go.Proofs.YtpgklkhgfcjceaaGreatDoor
open Go.ChangeShapes Go.WideShapes Go.ChangeAt Go.RowKit
theorem Mi {c:Int} (h:(Lit.int .i64 c).wf=true):-9223372036854775808<=c/\c<=9223372036854775807:=by
 simp [Lit.wf] at h
 have e:IntKind.i64.min = -9223372036854775808:=by decide
 omega
theorem yju (c d:Int) (w:World) (ht:dz w) (hN:mh w) (hB:3<=w.heap.size) (h0:-9223372036854775808<=c) (h1:c<=9223372036854775807) (h2:-9223372036854775808<=d) (h3:d<=9223372036854775807) :
  Calls Tryz.prog 5 #[.int .i64 c,.int .i64 d] w fun e w'=>e = .returned (.bool true)/\w.grownBy w' none:=by
 have cF:=hid (ymn c d w ht hN hB h0 h1 h2 h3)
 clear ht hN
 go_enter Tryz.func5,Tryz.ntmps5
 go_wp2_with fail
 refine cF.o.mono ?_
 rintro e V1 ⟨rfl,hg⟩
 have G:=hid hg
 clear hg
 go_wp2
 go_ret
 exact ⟨rfl,G.o⟩
set_option maxRecDepth 100000 in
theorem Zc (H:Type) (enc:TypeId×Value->H) (W:World) (base:Nat) (args:Array Value) (ds gs:List (DataW H)) (before:List MemPlace)
  (hval:∀ (j:Nat) t v,Tryz.f5.params[j]?=some t->args[j]?=some v->Value.okWide Tryz.prog W .any base t v)
  (hW:DataW.Whole enc Tryz.prog Tryz.f5.params.toList Rows.callsSpec.vars false W args.toList ds gs before) (hL:laidMetH Tryz.prog Rows.callsRow.laid W) :
  Calls Tryz.prog 5 args W fun e W'=>∃ v,e = .returned v/\Rows.callsSpec.post enc Tryz.prog Tryz.f5 false true false false W args v W':=by
 have hW':=hW
 obtain ⟨p,q,Sz,hV,rfl,hfz,hnd⟩:=hW
 have hA:DataW.TrodAll enc Tryz.prog W 0 (fun _=>true) true Tryz.f5.params.toList args.toList ds p:=Sz
 rw [Tryz.params5] at hA hval
 obtain ⟨v0,YV,d0,ds0,p0,q0,hargs,rfl,rfl,h0,r0⟩:=trodAll_cons hA
 obtain ⟨v1,vs1,d1,ds1,p1,q1,Oe,rfl,rfl,h1,r1⟩:=trodAll_cons r0
 obtain ⟨rfl,rfl,rfl⟩:=trodAll_nil r1
 obtain rfl:args = #[v0,v1]:=by cases args; simp_all
 obtain ⟨rfl,rfl⟩:=trodVars_none hV
 have hv:Value.okWide Tryz.prog W .any base 3 v0:=hval 0 3 v0 rfl rfl
 have hv1:Value.okWide Tryz.prog W .any base 3 v1:=hval 1 3 v1 rfl rfl
 obtain ⟨c,rfl,rfl,rfl,hw⟩:=open_int (t:=3) Ib hv h0
 obtain ⟨d,rfl,rfl,rfl,hw1⟩:=open_int (t:=3) Ib hv1 h1
 clear Sz
 simp only [List.append_nil] at hW'
 obtain ⟨hT,hN,hB⟩:=ZV hL
 refine (yju c d W hT hN hB (Mi hw).1 (Mi hw).2 (Mi hw1).1 (Mi hw1).2).mono fun e W' ⟨he,hg⟩=>?_
 subst he
 exact ⟨_,rfl,_,_,_,[],[],[],hW',trodAll_cons_mk (shut_bool Tryz.underlying4 _) trodAll_mk0,trodAll_cons_mk (shut_int Ib hw) (trodAll_cons_mk (shut_int Ib hw1) trodAll_mk0),rfl,ZG hg _,fun h=>by cases h⟩
theorem ypi (os:Os):laidMet Tryz.prog Rows.callsRow.laid ((Pg os).forCall (fun _ _=>0) ⟨#[],#[.int .i64 0,.int .i64 0],[]⟩).memory :=
 laidMet_of_run' 8 (by kernel_rfl) (by kernel_rfl)
theorem yje (os:Os) {H:Type} (enc:TypeId×Value->H):∃ places,DataW.whole enc Tryz.prog ((Pg os).forCall (fun _ _=>0) ⟨#[],#[.int .i64 0,.int .i64 0],[]⟩).memory Tryz.f5.params.toList Rows.callsSpec.vars false #[Value.int .i64 0,.int .i64 0].toList 8=some ([.lit (.int .i64 0),.lit (.int .i64 0)],[],places) :=
 ⟨[],by kernel_rfl⟩
set_option maxRecDepth 100000 in
theorem yjv (os:Os) (started:os.Started) (H:Type) (enc:TypeId×Value->H) (F:Stop.Interp) :
  ReturnsInHanded {} Tryz.checked os 5 .any ((OpenSpec.ofChange Rows.callsSpec).preRow enc Tryz.prog Tryz.f5 Rows.callsRow.domain false Rows.callsRow.laid) (((OpenSpec.ofChange Rows.callsSpec).at F).post enc Tryz.prog Tryz.f5 false true false false):=by
 obtain ⟨places,hx⟩:=yje os enc
 refine returnsInHanded_of_row (C:=Tryz.checked) (s:=OpenSpec.ofChange Rows.callsSpec) ylm started (by kernel_rfl) Tryz.func5
  (witness_row_at (enc:=enc) (C:=Tryz.checked) false (Pg os) #[.int .i64 0,.int .i64 0] rfl (by kernel_rfl) (by kernel_rfl) (by kernel_rfl)
   (OpenSpec.preRow_of_cond 8 hx (by kernel_rfl) (fun k hk=>by cases hk) (by kernel_rfl) (ypi os))) ?_
 intro W base args ds gs before hval hW _ _ _ hL _ _
 exact Zc H enc W base args ds gs before hval hW hL
theorem ymo:Rows.CallsSaid :=
 OpenClaim.holds_of_cond 5 Tryz.f5 rfl rfl rfl rfl rfl rfl rfl ⟨rfl,rfl,rfl,rfl,rfl⟩ rfl rfl rfl rfl rfl (by kernel_rfl) Tryz.func5 (by kernel_rfl)
  (of_decide_eq_true (by kernel_rfl)) (by unfold Func.isWrapper; first | (rw [if_pos (by decide +kernel)]; kernel_rfl) | (rw [if_neg (by decide +kernel)]; exact ⟨rfl,rfl⟩))
  (fun os started H enc _ F=>by rw [OpenClaim.pre_eq_preRow]; exact yjv os started H enc F)
theorem ykV (f : FuncId) (fn : Func) (hf : Tryz.pinned.checked.prog.funcNamed "linker/linkerkeep.Calls" = some f) (hfn : Tryz.pinned.checked.prog.funcs[f]? = some fn) :
  false=Tryz.pinned.checked.prog.looks []/\∀ (j:Nat) t,fn.params[j]?=some t->Tryz.pinned.checked.prog.wantsStandIn t=false:=by
 obtain rfl : f = 5 := Option.some.inj ((show Tryz.prog.funcNamed "linker/linkerkeep.Calls" = some 5 by kernel_rfl).symm.trans hf) |>.symm
 obtain rfl:fn=Tryz.f5:=(Option.some.inj (Tryz.func5.symm.trans hfn)).symm
 refine ⟨by kernel_rfl,fun j t ht=>?_⟩
 rw [Tryz.params5] at ht
 obtain rfl:t=3:=by have:=Array.mem_of_getElem? ht; simp at this; exact this
 exact (show Tryz.prog.wantsStandIn 3=false by kernel_rfl)
theorem calls_card:Rows.CallsCardSaid :=
 Claim7.holds_tied_plain_at .later [] _ _ _ _ ymo (fun _ h=>by cases h) (by kernel_rfl) (fun _ h=>by cases h) calls_row_tie rfl ⟨rfl,rfl⟩ (by kernel_rfl) rfl ykV (by kernel_rfl)
end Go.Proofs.YtpgklkhgfcjceaaGreatDoor
