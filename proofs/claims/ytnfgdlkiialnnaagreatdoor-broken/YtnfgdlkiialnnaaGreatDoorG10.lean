/- Linking: a file takes part. -/
/- Linking: all that takes part. -/
/- Linking: a program in memory. -/
/- The assembler in memory. -/
import Derived.Test.YtnfgdlkiialnnaaGreatDoorG09
import Derived.Test.YtnfgdlkiialnnaaGreatDoorG01
import Derived.Test.YtnfgdlkiialnnaaGreatDoorG04
import Derived.Maps.AppendAt
namespace Go.Proofs.YtnfgdlkiialnnaaGreatDoor
open Go.RowKit

namespace Ln
/-- what takes part once a file is taken -/
def takeFile (os:List Lk.Obj) (x:Bool×List Lk.Obj):List Lk.Obj:=if x.1 then takeArch (x.2.length+1) (fresh x.2) os else os ++ x.2
def takeAll (xs:List (Bool×List Lk.Obj)):List Lk.Obj:=xs.foldl takeFile []
end Ln

theorem fresh_len (os:List Lk.Obj):(fresh os).length=os.length:=by simp [fresh]
theorem untaken_fresh (os:List Lk.Obj):untaken (fresh os)=os.length:=by
 unfold untaken fresh
 rw [List.filter_eq_self.2 (by intro x hx; obtain ⟨o,_,rfl⟩:=List.mem_map.1 hx; rfl),List.length_map]

set_option maxRecDepth 100000 in
set_option maxHeartbeats 8000000 in
theorem takeFile_any (W0:World) (P:Nat) (bt bf bd:Int) (vm:Value) (bl gl:List Nat) (os:List Lk.Obj) (mg cm:Nat) (gs:List Nat) (a:Bool) (ms:List Lk.Obj) (W:World) (h:GatAt W0 P bt bf bd vm bl gl os W) (hm:MemsAt W mg gs (fresh ms)) (hc:bl.length+ms.length≤4096) (hml:W0.heap.size≤mg) (hcm:ms.length≤cm∧cm≤maxLen) :
  Calls Tryz.prog 60 #[ptrV P,.agg #[.bool a,.slice (some ⟨mg,0,none⟩) ms.length cm]] W fun e W'=>e = .returned (.tuple #[])∧(∃ vm' bl' gl',GatAt W0 P bt bf bd vm' bl' gl' (Ln.takeFile os (a,ms)) W'∧bl'.length≤bl.length+ms.length)∧FrameX [113,117] mg W W':=by
 have A0:=hid (World.grownBy_alloc W (.cells #[.bool a,.slice (some ⟨mg,0,none⟩) ms.length cm] 109) none)
 have B0:=hid (BlkAt.new W #[.bool a,.slice (some ⟨mg,0,none⟩) ms.length cm] 109)
 have H0:=hid (h.kept A0.out)
 have M0:=hid (hm.kept A0.out)
 have F0:=hid ((Frame.grown (ts:=[113,117]) A0.out).x mg)
 have hcm2:=hcm.2
 unfold maxLen at hcm2
 have hmm:mg < W.heap.size:=by
  obtain ⟨cur,hb,-⟩:=hm.row
  exact hb.lt
 clear h hm
 cases a with
 | true =>
  have cT:=hid (takeArchive_any W0 P bt bf bd vm bl gl os mg cm gs (fresh ms) _ H0.out M0.out (by rw [untaken_fresh]; omega) hml (by rw [fresh_len]; omega) (by rw [fresh_len]; exact hcm))
  rw [fresh_len,untaken_fresh] at cT
  have E:=hid (show Ln.takeFile os (true,ms)=Ln.takeArch (ms.length+1) (fresh ms) os from rfl)
  unfold ptrV at *
  go_enter Tryz.func60,Tryz.ntmps60
  go_wp2_with fail
  refine cT.out.mono ?_
  rintro e W5 ⟨rfl,hg,hf⟩
  have HG:=hid hg
  have HF:=hid (F0.out.trans hf)
  clear hg hf cT
  go_wp2
  (try simp only [Exit.inBlock,Exit.then]); refine bodyPost_ret (results_none rfl _ _ _) rfl ?_
  rw [E.out]
  exact ⟨rfl,HG.out,HF.out⟩
 | false =>
  have E:=hid (show Ln.takeFile os (false,ms)=os ++ ms from rfl)
  unfold ptrV at *
  go_enter Tryz.func60,Tryz.ntmps60
  go_wp2
  generalize W.alloc (.cells #[.bool false,.slice (some ⟨mg,0,none⟩) ms.length cm] 109)=W1 at *
  go_loopw [15] (fun i wr=>∃ (k:Nat) (bl2 gl2:List Nat) (vm2:Value),k≤ms.length∧i = .int .i64 k∧GatAt W0 P bt bf bd vm2 bl2 gl2 (os ++ ms.take k) wr∧MemsAt wr mg gs (fresh ms)∧bl2.length=bl.length+k∧FrameX [113,117] mg W wr) (fun i _=>ms.length - (intOf i).toNat)
  case atStart=>exact ⟨0,bl,gl,vm,Nat.zero_le _,rfl,by simpa using H0.out,M0.out,rfl,F0.out⟩
  case round =>
   obtain ⟨k,bl2,gl2,vm2,hk,rfl,hg,hm,hb,hf⟩:=hrel
   have HG:=hid hg
   have HM:=hid hm
   have HF:=hid hf
   clear hg hm hf H0 M0 F0
   by_cases hlt:k < ms.length
   ·have hk2:k < (fresh ms).length:=by rw [fresh_len]; exact hlt
    obtain ⟨m0,m1,-⟩:=HM.out.cells k hk2
    have OB:=hid (HM.out.objs k hk2)
    have SY:=HM.out.syms _ (List.getElem_mem hk2)
    have e1:(fresh ms)[k]=(ms[k],false):=by simp [fresh]
    rw [e1] at m1 OB SY
    dsimp only at m1 OB SY
    have TK:=hid (show ms.take (k+1)=ms.take k ++ [ms[k]] from List.take_succ_eq_append_getElem hlt)
    unfold ptrV at m0
    generalize gs[k]'_=gj at *
    generalize ms[k]=oj at *
    have g1:(k:Int) < (ms.length:Int):=by omega
    have AL:=hid (World.grownBy_alloc wr (.cells #[.pointer (some ⟨gj,0,none⟩),.bool false] 152) none)
    have cT:=hid (take_any W0 P bt bf bd vm2 bl2 gl2 (os ++ ms.take k) gj oj _ (HG.out.kept AL.out) (OB.out.kept AL.out) (by omega) SY)
    have HM2:=hid (HM.out.kept AL.out)
    have HF2:=hid (HF.out.trans ((Frame.grown AL.out).x mg))
    clear e1
    unfold ptrV at cT
    go_wp2_with fail
    refine cT.out.mono ?_
    rintro e W7 ⟨rfl,⟨vm7,b7,h7⟩,f7⟩
    have HG7:=hid h7
    have HM7:=hid (HM2.out.frame f7 (by decide) (by decide) (by decide) (by decide) (by decide))
    have HF7:=hid (HF2.out.trans (f7.x mg))
    clear h7 f7 cT m0 m1
    go_wp2
    go_roundw
    case rel=>exact ⟨k+1,_,_,_,by omega,by go_num,by rw [TK.out,← List.append_assoc]; exact HG7.out,HM7.out,by simp; omega,HF7.out⟩
    case measure=>simp [intOf]; omega
   ·obtain rfl:k=ms.length:=by omega
    have g3:decide ((ms.length:Int) < (ms.length:Int))=false:=by simp
    go_wp2
    go_end0
    rw [E.out]
    exact ⟨rfl,⟨vm2,bl2,gl2,by have:=HG.out; rw [List.take_length] at this; exact this,by omega⟩,HF.out⟩

end Go.Proofs.YtnfgdlkiialnnaaGreatDoor

namespace Go.Proofs.YtnfgdlkiialnnaaGreatDoor
open Go.RowKit

/-- a list of files -/
def LStrs (w:World) (ao:Option Addr) (fs:List (List UInt8)):Prop :=
 0 < fs.length→∃ g off,ao=some ⟨g,off,none⟩∧∀ i (h:i < fs.length),w.cell? ⟨g,off+i,none⟩=some (.string (bs fs[i]))
theorem LStrs.kept {w w':World} {ao:Option Addr} {fs:List (List UInt8)} (h:LStrs w ao fs) (hg:w.grownBy w' none):LStrs w' ao fs:=by
 intro hp
 obtain ⟨g,off,e,hc⟩:=h hp
 exact ⟨g,off,e,fun i hi=>gcell (hc i hi) hg⟩

theorem Tryz.infoFile:(Tryz.prog.info? 109).map (fun i=>(i.zero,i.size,i.bytes))=some (some (.agg #[.bool false,.slice none 0 0]),2,32):=by kernel_rfl
/-- a file as it lies in a list of files -/
structure FR where
 a:Bool
 mg:Nat
 n:Nat
 cap:Nat
def fileL (r:FR):List Value:=[.bool r.a,.slice (some ⟨r.mg,0,none⟩) r.n r.cap]
def FileR (W:World) (r:FR) (x:Bool×List Lk.Obj):Prop:=r.a=x.1∧r.n=x.2.length∧∃ gs,MemsAt W r.mg gs (fresh x.2)∧x.2.length≤r.cap∧r.cap≤maxLen
/-- the files that were read -/
structure FilesAt (W:World) (B:Nat) (v:Value) (fl:List FR) (xs:List (Bool×List Lk.Obj)):Prop where
 len:fl.length=xs.length
 row:W.ownsRow B 109 2 v xs.length (fl.flatMap fileL)
 at_:∀ i (h:i < xs.length),FileR W (fl[i]'(by rw [len]; exact h)) xs[i]
 pair:fl.Pairwise (fun r s=>r.mg < s.mg)
 bnd:∀ r∈fl,B≤r.mg∧r.mg < W.heap.size

section
variable {W W' w3:World} {B:Nat} {v v':Value} {r:FR} {fl:List FR} {xs:List (Bool×List Lk.Obj)} {x:Bool×List Lk.Obj}
theorem FileR.frame {ts:List TypeId} (h:FileR W r x) (hf:Frame ts W W') (h0:152 ∉ ts) (h1:90 ∉ ts) (h2:3 ∉ ts) (h3:124 ∉ ts) (h4:139 ∉ ts):FileR W' r x:=by
 obtain ⟨q0,q1,gs,q2,q3⟩:=h
 exact ⟨q0,q1,gs,q2.frame hf h0 h1 h2 h3 h4,q3⟩
theorem FileR.frameX {ts:List TypeId} {mg:Nat} (h:FileR W r x) (hf:FrameX ts mg W W') (hne:r.mg≠mg) (hO:∀ g o,ObjAt W g o→ObjAt W' g o) (h0:152 ∉ ts):FileR W' r x:=by
 obtain ⟨q0,q1,gs,q2,q3⟩:=h
 obtain ⟨cur,hb,hc⟩:=q2.row
 exact ⟨q0,q1,gs,⟨q2.len,⟨cur,hf _ _ _ hb h0 hne,hc⟩,fun i hi=>hO _ _ (q2.objs i hi),q2.syms⟩,q3⟩
theorem FrameX.frame {ts:List TypeId} {mg:Nat} {cur:Array Value} {t0:TypeId} (hf:FrameX ts mg W W') (hb:BlkAt W mg cur t0):Frame (t0 :: ts) W W':=fun k cs t hk ht=>hf k cs t hk (fun c=>ht (List.mem_cons_of_mem _ c)) (by
 rintro rfl
 have:=hb.symm.trans hk
 simp at this
 exact ht (by rw [this.2]; exact List.mem_cons_self))
theorem FileR.kept (h:FileR W r x) (hg:W.grownBy W' none):FileR W' r x:=h.frame (ts:=[]) (Frame.grown hg) (by simp) (by simp) (by simp) (by simp) (by simp)
theorem FilesAt.kept (h:FilesAt W B v fl xs) (hg:W.grownBy W' none):FilesAt W' B v fl xs :=
 ⟨h.len,h.row.kept hg (by cases v.ownBlock <;> simp),fun i hi=>(h.at_ i hi).kept hg,h.pair,fun m hm=>⟨(h.bnd m hm).1,Nat.lt_of_lt_of_le (h.bnd m hm).2 hg.size⟩⟩
theorem FilesAt.more (h:FilesAt W B v fl xs) (hf:FileR W r x) (hmg:∀ q∈fl,q.mg < r.mg) (hB:B≤r.mg) (hmw:r.mg < W.heap.size) (hown:w3.ownsRow B 109 2 v' (xs.length+1) (fl.flatMap fileL ++ fileL r)) (hg:W.grownBy w3 v.ownBlock):FilesAt w3 B v' (fl ++ [r]) (xs ++ [x]):=by
 have FR:Frame [109] W w3:=Frame.row hg (RowT.own h.row) (by simp)
 refine ⟨by simp [h.len],by simpa using hown,fun i hi=>?_,?_,fun m hm=>?_⟩
 ·by_cases hlt:i < xs.length
  ·rw [List.getElem_append_left (by rw [h.len]; exact hlt),List.getElem_append_left hlt]
   exact (h.at_ i hlt).frame FR (by decide) (by decide) (by decide) (by decide) (by decide)
  ·have hi2:i=xs.length:=by simp at hi; omega
   subst hi2
   have e2:(fl ++ [r])[xs.length]'(by simp [h.len])=r:=by simp [← h.len]
   have e3:(xs ++ [x])[xs.length]=x:=by simp
   rw [e2,e3]
   exact hf.frame FR (by decide) (by decide) (by decide) (by decide) (by decide)
 ·rw [List.pairwise_append]
  exact ⟨h.pair,List.pairwise_singleton _ _,fun y hy z hz=>by simp at hz; subst hz; exact hmg y hy⟩
 ·rcases List.mem_append.1 hm with hm | hm
  ·exact ⟨(h.bnd m hm).1,Nat.lt_of_lt_of_le (h.bnd m hm).2 hg.size⟩
  ·simp at hm; subst hm; exact ⟨hB,Nat.lt_of_lt_of_le hmw hg.size⟩
end
theorem newsF (U:World) (b:Bool) (sl_:Value):∀ j u,[Value.bool b,sl_][j]?=some u→(U.alloc (.cells #[.bool b,sl_] 109)).cell? ((⟨U.heap.size,0,none⟩:Addr).add j)=some u:=by
 intro j u hu
 have e:(⟨U.heap.size,0,none⟩:Addr).add j=⟨U.heap.size,j,none⟩:=by
  unfold Addr.add
  by_cases h0:j=0
  ·subst h0; simp
  ·simp [h0]
 rw [e,(BlkAt.new U #[.bool b,sl_] 109).cell j]
 simpa using hu

def GatherRet (W0:World) (bt bf bd:Int) (fs:List (List UInt8)) (e:Ending) (w':World):Prop :=
 (∃ f:Ln.Flt,f.e≠0∧e = .returned (.tuple #[.pointer none,lfA f]) ∧
  (f=baseFlt bt bf bd ∨
  (baseFlt bt bf bd=Ln.ok∧(fs.length < 1∨8 < fs.length)∧f=⟨31,0,[]⟩) ∨
  (baseFlt bt bf bd=Ln.ok∧1≤fs.length∧fs.length≤8∧∃ i,∃ h:i < fs.length,f=⟨32,i,[]⟩∧NoFile fs[i]∧∀ j (hj:j < i),∃ a os,FileIs (fs[j]'(by omega)) a os))) ∨
 (baseFlt bt bf bd=Ln.ok∧1≤fs.length∧fs.length≤8∧∃ (xs:List (Bool×List Lk.Obj)) (hx:xs.length=fs.length) (P:Nat) (vm:Value) (bl gl:List Nat),(∀ i (h:i < fs.length),FileIs fs[i] (xs[i]'(by omega)).1 (xs[i]'(by omega)).2)∧e = .returned (.tuple #[ptrV P,lfA Ln.ok])∧GatAt W0 P bt bf bd vm bl gl (Ln.takeAll xs) w')

theorem blk_drew {w:World} {g:Nat} {cs:Array Value} {t:TypeId} (h:BlkAt w g cs t):BlkAt w.drew g cs t:=h.drewN 1
theorem base_ok (bt bf bd:Int) (f:Ln.Flt) (h:f=baseFlt bt bf bd) (he:f.e=0):f=Ln.ok:=by
 subst h
 unfold baseFlt at he ⊢
 by_cases h1:¬ Im.Base bt
 ·rw [if_pos h1] at he; cases he
 rw [if_neg h1] at he ⊢
 by_cases h2:¬ Im.Base bf
 ·rw [if_pos h2] at he; cases he
 rw [if_neg h2] at he ⊢
 by_cases h3:¬ Im.Base bd
 ·rw [if_pos h3] at he; cases he
 rw [if_neg h3]

set_option maxRecDepth 100000 in
set_option maxHeartbeats 8000000 in
theorem gather_any (bt bf bd:Int) (af:Option Addr) (cf:Nat) (fs:List (List UInt8)) (w:World) (hin:LStrs w af fs) (hsz:∀ f∈fs,f.length≤1048576) (ht:Tabs w) (hn:fs.length≤1048576) :
  Calls Tryz.prog 41 #[.slice af fs.length cf,.agg #[.int .i64 bt,.int .i64 bf,.int .i64 bd]] w fun e w'=>GatherRet w bt bf bd fs e w'∧w.grownBy w' none:=by
 have cB:=hid (fun W=>checkBases_any bt bf bd W)
 have hs1:(w.alloc (.cells #[.int .i64 bt,.int .i64 bf,.int .i64 bd] 35)).heap.size=w.heap.size+1:=Array.size_push _
 have A1:=World.grownBy_alloc (w.alloc (.cells #[.int .i64 bt,.int .i64 bf,.int .i64 bd] 35)) (.cells #[.int .i64 0,.int .i64 0,.string ⟨#[]⟩] 45) none
 have G1:=hid (grown_trans (World.grownBy_alloc w (.cells #[.int .i64 bt,.int .i64 bf,.int .i64 bd] 35) none) A1)
 have BB:=hid ((BlkAt.new w #[.int .i64 bt,.int .i64 bf,.int .i64 bd] 35).grown A1 (by simp))
 have BF:=hid (BlkAt.new (w.alloc (.cells #[.int .i64 bt,.int .i64 bf,.int .i64 bd] 35)) #[.int .i64 0,.int .i64 0,.string ⟨#[]⟩] 45)
 rw [hs1] at BF
 have HI:=hid hin
 have HT:=hid ht
 clear hs1 A1 hin ht
 obtain ⟨f,hf⟩:∃ f,f=baseFlt bt bf bd:=⟨_,rfl⟩
 rw [← hf] at cB
 have HFL:=hid hf
 clear hf
 unfold lfA at cB
 go_enter Tryz.func41,Tryz.ntmps41
 go_wp2_with fail
 refine (cB.out _).mono ?_
 rintro e W2 ⟨rfl,h2⟩
 have G2:=hid (grown_trans G1.out h2)
 have BB2:=hid (BB.out.grown h2 (by simp))
 have BF2:=hid (BF.out.grown h2 (by simp))
 clear h2 cB BB BF G1
 have z0:W2.cell? ⟨w.heap.size+1,0,none⟩=some (.int .i64 0):=BF2.out.cell 0
 have z1:W2.cell? ⟨w.heap.size+1,1,none⟩=some (.int .i64 0):=BF2.out.cell 1
 have z2:W2.cell? ⟨w.heap.size+1,2,none⟩=some (.string ⟨#[]⟩):=BF2.out.cell 2
 have f0:=BF2.out.free 0
 have f1:=BF2.out.free 1
 have f2:=BF2.out.free 2
 have hlF:=BF2.out.lt
 have hnF:w.heap.size+1≠W2.heap.size:=by omega
 by_cases he:f.e=0
 case neg =>
  have d1:(f.e == 0)=false:=by simpa using he
  have HE:=hid he
  go_wp2
  have BX:=hid (BlkAt.new W2 #[.int .i64 f.e,.int .i64 f.at_,.string (bs f.name)] 45)
  have AX:=hid (World.grownBy_alloc W2 (.cells #[.int .i64 f.e,.int .i64 f.at_,.string (bs f.name)] 45) none)
  have BF3:=hid (BF2.out.grown AX.out (by simp))
  have G3:=hid (grown_trans G2.out AX.out)
  clear z0 z1 z2 f0 f1 f2
  generalize hV:W2.alloc (.cells #[.int .i64 f.e,.int .i64 f.at_,.string (bs f.name)] 45)=V at *
  generalize hX:W2.heap.size=X at *
  have z0:V.cell? ⟨w.heap.size+1,0,none⟩=some (.int .i64 0):=BF3.out.cell 0
  have z1:V.cell? ⟨w.heap.size+1,1,none⟩=some (.int .i64 0):=BF3.out.cell 1
  have z2:V.cell? ⟨w.heap.size+1,2,none⟩=some (.string ⟨#[]⟩):=BF3.out.cell 2
  have f0:=BF3.out.free 0
  have f1:=BF3.out.free 1
  have f2:=BF3.out.free 2
  have x0:V.cell? ⟨X,0,none⟩=some (.int .i64 f.e):=BX.out.cell 0
  have x1:V.cell? ⟨X,1,none⟩=some (.int .i64 f.at_):=BX.out.cell 1
  have x2:V.cell? ⟨X,2,none⟩=some (.string (bs f.name)):=BX.out.cell 2
  go_region_held3 (fun w'=>w'.cell? ⟨X,0,none⟩=some (.int .i64 f.e)∧w'.cell? ⟨X,1,none⟩=some (.int .i64 f.at_)∧w'.cell? ⟨X,2,none⟩=some (.string (bs f.name)))
   (go_keep)
   (fail)
  go_wp2
  have F:=blk_drew (((BF3.out.set 0 (.int .i64 f.e)).set 1 (.int .i64 f.at_)).set 2 (.string (bs f.name)))
  have h0:=F.cell 0
  have h1:=F.cell 1
  have h2:=F.cell 2
  simp only [List.setIfInBounds_toArray,List.set_cons_succ,List.set_cons_zero,List.getElem?_toArray,List.getElem?_cons_succ,List.getElem?_cons_zero] at h0 h1 h2
  refine bodyPost_ret (v:=.tuple #[.pointer none,lfA f]) ?_ rfl ⟨.inl ⟨f,HE.out,rfl,.inl HFL.out⟩,grown_drew (sets3_grown G3.out _ (by omega) _ _ _)⟩
  clear F z0 z1 z2 f0 f1 f2 x0 x1 x2 BF3 BX
  generalize World.drew _=WF at *
  simp [results,Tryz.results41,go_sem,lfA,h0,h1,h2]
 case pos =>
  have hok:f=Ln.ok:=base_ok bt bf bd f HFL.out he
  subst hok
  by_cases hc:1≤fs.length∧fs.length≤8
  case neg =>
   have FIN:=hid (show (fs.length < 1∨8 < fs.length) by omega)
   unfold Ln.ok
   by_cases h1:fs.length < 1
   ·have d2:decide ((fs.length:Int) < 1)=true:=by simp; omega
    go_wp2
    have F:=(((BF2.out.set 0 (.int .i64 31)).set 1 (.int .i64 0)).set 2 (.string ⟨#[]⟩)).grown (World.grownBy_alloc _ (.cells #[.int .i64 0,.int .i64 0,.string (bs [])] 45) none) (by simp)
    have h0:=F.cell 0
    have h1:=F.cell 1
    have h2:=F.cell 2
    simp only [List.setIfInBounds_toArray,List.set_cons_succ,List.set_cons_zero,List.getElem?_toArray,List.getElem?_cons_succ,List.getElem?_cons_zero] at h0 h1 h2
    refine bodyPost_ret (v:=.tuple #[.pointer none,lfA ⟨31,0,[]⟩]) ?_ rfl ⟨.inl ⟨⟨31,0,[]⟩,by decide,rfl,.inr (.inl ⟨HFL.out.symm,FIN.out,rfl⟩)⟩,grown_trans (sets3_grown G2.out _ (by omega) _ _ _) (World.grownBy_alloc _ _ none)⟩
    clear F z0 z1 z2 f0 f1 f2
    generalize World.alloc _ _=WF at *
    simp [results,Tryz.results41,go_sem,lfA,bs,h0,h1,h2]
   ·have d2:decide ((fs.length:Int) < 1)=false:=by simp; omega
    have d3:decide ((8:Int) < (fs.length:Int))=true:=by simp; omega
    go_wp2
    have F:=(((BF2.out.set 0 (.int .i64 31)).set 1 (.int .i64 0)).set 2 (.string ⟨#[]⟩)).grown (World.grownBy_alloc _ (.cells #[.int .i64 0,.int .i64 0,.string (bs [])] 45) none) (by simp)
    have h0:=F.cell 0
    have h1:=F.cell 1
    have h2:=F.cell 2
    simp only [List.setIfInBounds_toArray,List.set_cons_succ,List.set_cons_zero,List.getElem?_toArray,List.getElem?_cons_succ,List.getElem?_cons_zero] at h0 h1 h2
    refine bodyPost_ret (v:=.tuple #[.pointer none,lfA ⟨31,0,[]⟩]) ?_ rfl ⟨.inl ⟨⟨31,0,[]⟩,by decide,rfl,.inr (.inl ⟨HFL.out.symm,FIN.out,rfl⟩)⟩,grown_trans (sets3_grown G2.out _ (by omega) _ _ _) (World.grownBy_alloc _ _ none)⟩
    clear F z0 z1 z2 f0 f1 f2
    generalize World.alloc _ _=WF at *
    simp [results,Tryz.results41,go_sem,lfA,bs,h0,h1,h2]
  case pos =>
   have d2:decide ((fs.length:Int) < 1)=false:=by simp; omega
   have d3:decide ((8:Int) < (fs.length:Int))=false:=by simp; omega
   have AX:=hid (World.grownBy_alloc W2 (.cells #[.int .i64 0,.int .i64 0,.string (bs [])] 45) none)
   have BF3:=hid (BF2.out.grown AX.out (by simp))
   have BB3:=hid (BB2.out.grown AX.out (by simp))
   have G3:=hid (grown_trans G2.out AX.out)
   have hs3:(W2.alloc (.cells #[.int .i64 0,.int .i64 0,.string (bs [])] 45)).heap.size=W2.heap.size+1:=Array.size_push _
   have HS3:=hid hs3
   clear hs3 z0 z1 z2 f0 f1 f2
   obtain ⟨i0,hi,hz0,hz1,hz2⟩:=info_parts Tryz.infoFile
   unfold Ln.ok
   go_wp2
   generalize W2.alloc (.cells #[.int .i64 0,.int .i64 0,.string (bs [])] 45)=W3 at *
   go_loopw [7,32] (fun vl i wr=>∃ (k:Nat) (fl:List FR) (xs:List (Bool×List Lk.Obj)),k≤fs.length∧i = .int .i64 k∧xs.length=k∧(∀ j (h:j < k) (h1:j < fs.length) (h2:j < xs.length),FileIs fs[j] xs[j].1 xs[j].2)∧FilesAt wr w.heap.size vl fl xs∧BlkAt wr w.heap.size #[.int .i64 bt,.int .i64 bf,.int .i64 bd] 35∧BlkAt wr (w.heap.size+1) #[.int .i64 0,.int .i64 0,.string ⟨#[]⟩] 45∧w.grownBy wr none) (fun _ i _=>fs.length - (intOf i).toNat)
   case atStart=>exact ⟨0,[],[],Nat.zero_le _,rfl,rfl,fun j h=>by omega,⟨rfl,World.ownsRow_nil _ _ _ _,fun i h=>by simp at h,List.Pairwise.nil,fun m hm=>by simp at hm⟩,BB3.out,BF3.out,G3.out⟩
   case round =>
    obtain ⟨k,fl,xs,hk,rfl,hxl,hfi,hfa,hbb,hbf,hgw⟩:=hrel
    obtain ⟨al,cl,rfl⟩:=own_form hfa.row
    have HFI:=hid hfi
    have HFA:=hid hfa
    have HBB:=hid hbb
    have HBF:=hid hbf
    have HGW:=hid hgw
    clear hfi hfa hbb hbf hgw
    by_cases hlt:k < fs.length
    ·obtain ⟨sg,off,hsg,hsc⟩:=HI.out.kept HGW.out (by omega)
     have ck:=hsc k hlt
     have cR:=hid (readFile_any (bs fs[k]) wr (HT.out.grown HGW.out) (by rw [bs_size]; exact hsz _ (List.getElem_mem hlt)))
     rw [sl_bs] at cR
     have g1:(k:Int) < (fs.length:Int):=by omega
     generalize hfk:fs[k]=fk at *
     have HFK:=hid hfk
     clear hsc hfk
     subst hsg
     go_wp2_with fail
     refine cR.out.mono ?_
     rintro e U5 ⟨hr5,h5⟩
     rcases hr5 with ⟨v,a,os,q1,rfl,mg,cap,gs,rfl,q2,q3,q4,q5⟩ | ⟨q1,rfl⟩
     ·have FM:=hid (show FileR U5 ⟨a,mg,os.length,cap⟩ (a,os) from ⟨rfl,rfl,gs,q3,q4,q5⟩)
      have QI:=hid q1
      have hmU:mg < U5.heap.size:=by
       obtain ⟨cur,hb,-⟩:=q3.row
       exact hb.lt
      have hsz5:=h5.size
      have FA5:=hid (HFA.out.kept h5)
      have BB5:=hid (HBB.out.grown h5 (by simp))
      have BF5:=hid (HBF.out.grown h5 (by simp))
      have GW5:=hid (grown_trans HGW.out h5)
      have BN:=hid (fun (q:FR) (hq:q∈fl)=>show q.mg < (⟨a,mg,os.length,cap⟩:FR).mg from Nat.lt_of_lt_of_le (HFA.out.bnd q hq).2 q2)
      have hwl:=HGW.out.size
      clear q1 q3 h5 cR ck HFA HBB HBF HGW
      have A1:=hid (World.grownBy_alloc U5 (.cells #[.bool a,.slice (some ⟨mg,0,none⟩) os.length cap] 109) none)
      have SZ1:(U5.alloc (.cells #[.bool a,.slice (some ⟨mg,0,none⟩) os.length cap] 109)).heap.size=U5.heap.size+1:=Array.size_push _
      have A2:=hid (World.grownBy_alloc (U5.alloc (.cells #[.bool a,.slice (some ⟨mg,0,none⟩) os.length cap] 109)) (.cells #[.bool a,.slice (some ⟨mg,0,none⟩) os.length cap] 109) none)
      have CN:=hid (newsF (U5.alloc (.cells #[.bool a,.slice (some ⟨mg,0,none⟩) os.length cap] 109)) a (.slice (some ⟨mg,0,none⟩) os.length cap))
      rw [SZ1] at CN
      have FA6:=hid (FA5.out.kept (grown_trans A1.out A2.out))
      have HRA:=hid FA6.out.row
      have hcl:=own_cap HRA.out
      have hB6:w.heap.size≤((U5.alloc (.cells #[.bool a,.slice (some ⟨mg,0,none⟩) os.length cap] 109)).alloc (.cells #[.bool a,.slice (some ⟨mg,0,none⟩) os.length cap] 109)).heap.size:=Nat.le_trans GW5.out.size (grown_trans A1.out A2.out).size
      have HB6:=hid hB6
      rw [hxl] at HRA hcl
      have STEP:=hid (fun (v':Value) (w3:World) (hown':w3.ownsRow w.heap.size 109 2 v' (k+1) (fl.flatMap fileL ++ [.bool a,.slice (some ⟨mg,0,none⟩) os.length cap])) (hgrow:((U5.alloc (.cells #[.bool a,.slice (some ⟨mg,0,none⟩) os.length cap] 109)).alloc (.cells #[.bool a,.slice (some ⟨mg,0,none⟩) os.length cap] 109)).grownBy w3 (Value.ownBlock (.slice al k cl)))=>show FilesAt w3 w.heap.size v' (fl ++ [⟨a,mg,os.length,cap⟩]) (xs ++ [(a,os)])∧BlkAt w3 w.heap.size #[.int .i64 bt,.int .i64 bf,.int .i64 bd] 35∧BlkAt w3 (w.heap.size+1) #[.int .i64 0,.int .i64 0,.string ⟨#[]⟩] 45∧w.grownBy w3 none by
       have A:=grown_trans A1.out A2.out
       have RT:=RowT.own HRA.out
       refine ⟨?_,blk_ty (BB5.out.grown A (by simp)) hgrow RT (by decide),blk_ty (BF5.out.grown A (by simp)) hgrow RT (by decide),grown_hi (grown_trans GW5.out A) hgrow (fun b e=>(HRA.out.lt b e).1)⟩
       refine FilesAt.more FA6.out (FM.out.kept A) BN.out (show w.heap.size≤mg by omega) (show mg < _ from Nat.lt_of_lt_of_le hmU A.size) (by rw [hxl]; exact hown') (by rw [hxl]; exact hgrow))
      clear SZ1 hB6 FA5 BB5 BF5 GW5 FM BN FA6
      have FI2:=hid (show ∀ j (h:j < k+1) (h1:j < fs.length) (h2:j < (xs ++ [(a,os)]).length),FileIs fs[j] (xs ++ [(a,os)])[j].1 (xs ++ [(a,os)])[j].2 from fun j h h1 h2=>by
       by_cases hj:j < k
       ·rw [List.getElem_append_left (by omega)]
        exact HFI.out j hj h1 (by omega)
       ·obtain rfl:j=k:=by omega
        have e1:(xs ++ [(a,os)])[j]=(a,os):=by simp [← hxl]
        rw [e1,HFK.out]
        exact QI.out)
      rw [hxl]
      go_wp2_with (at_builtin; refine wpList_append_at _ rfl _ _ 106 rfl w.heap.size 109 i0 (.agg #[.bool false,.slice none 0 0]) 2 32 Tryz.underlying106 hi hz0 hz1 hz2 rfl (by decide) _ _ _ rfl HRA.out ⟨U5.heap.size+1,0,none⟩ 1 1 [.bool a,.slice (some ⟨mg,0,none⟩) os.length cap] rfl rfl CN.out (by intro u hu; simp at hu; rcases hu with rfl | rfl <;> rfl) (by unfold maxLen; omega) (by omega) HB6.out ?_; intro v' w3 hown' hgrow hblk; obtain ⟨av',cv',rfl⟩:=own_form hown'; obtain ⟨r1,r2,r3,r4⟩:=STEP.out _ _ hown' hgrow; have Q1:=hid r1; have Q2:=hid r2; have Q3:=hid r3; have Q4:=hid r4; clear hgrow hown' r1 r2 r3 r4 hblk)
      go_roundw
      case rel=>exact ⟨k+1,_,_,by omega,by go_num,by simp [hxl],FI2.out,Q1.out,Q2.out,Q3.out,Q4.out⟩
      case measure=>simp [intOf]; omega
     ·have N:=hid q1
      have BF5:=hid (HBF.out.grown h5 (by simp))
      have G5:=hid (grown_trans HGW.out h5)
      have hR5:=BF5.out.lt
      have hRn:w.heap.size+1≠U5.heap.size:=by omega
      have z0:U5.cell? ⟨w.heap.size+1,0,none⟩=some (.int .i64 0):=BF5.out.cell 0
      have z1:U5.cell? ⟨w.heap.size+1,1,none⟩=some (.int .i64 0):=BF5.out.cell 1
      have z2:U5.cell? ⟨w.heap.size+1,2,none⟩=some (.string ⟨#[]⟩):=BF5.out.cell 2
      have f0:=BF5.out.free 0
      have f1:=BF5.out.free 1
      have f2:=BF5.out.free 2
      clear q1 h5 cR ck
      go_wp2
      have F:=(((BF5.out.set 0 (.int .i64 32)).set 1 (.int .i64 k)).set 2 (.string ⟨#[]⟩)).grown (World.grownBy_alloc _ (.cells #[.bool false,.slice none 0 0] 109) none) (by simp)
      have h0:=F.cell 0
      have h1:=F.cell 1
      have h2:=F.cell 2
      simp only [List.setIfInBounds_toArray,List.set_cons_succ,List.set_cons_zero,List.getElem?_toArray,List.getElem?_cons_succ,List.getElem?_cons_zero] at h0 h1 h2
      refine bodyPost_ret (v:=.tuple #[.pointer none,lfA ⟨32,k,[]⟩]) ?_ rfl ⟨.inl ⟨⟨32,k,[]⟩,(show (32:Int)≠0 by decide),rfl,.inr (.inr ⟨HFL.out.symm,hc.1,hc.2,k,hlt,rfl,by rw [HFK.out]; exact N.out,fun j hj=>⟨_,_,HFI.out j hj (by omega) (by omega)⟩⟩)⟩,grown_trans (sets3_grown G5.out _ (by omega) _ _ _) (World.grownBy_alloc _ _ none)⟩
      clear F z0 z1 z2 f0 f1 f2
      generalize World.alloc _ _=WF at *
      simp [results,Tryz.results41,go_sem,lfA,bs,h0,h1,h2]
    ·obtain rfl:k=fs.length:=by omega
     have g3:decide ((fs.length:Int) < (fs.length:Int))=false:=by simp
     have b0:wr.cell? ⟨w.heap.size,0,none⟩=some (.int .i64 bt):=HBB.out.cell 0
     have b1:wr.cell? ⟨w.heap.size,1,none⟩=some (.int .i64 bf):=HBB.out.cell 1
     have b2:wr.cell? ⟨w.heap.size,2,none⟩=some (.int .i64 bd):=HBB.out.cell 2
     have AP:=hid (World.grownBy_alloc wr (.cells #[.int .i64 bt,.int .i64 bf,.int .i64 bd,.slice none 0 0,.pointer none,.int .i64 0,.int .i64 0,.int .i64 0] 117) none)
     have BP:=hid (BlkAt.new wr #[.int .i64 bt,.int .i64 bf,.int .i64 bd,.slice none 0 0,.pointer none,.int .i64 0,.int .i64 0,.int .i64 0] 117)
     have hwr:=HGW.out.size
     have GA0:=hid (show GatAt w wr.heap.size bt bf bd (.slice none 0 0) [] [] [] (wr.alloc (.cells #[.int .i64 bt,.int .i64 bf,.int .i64 bd,.slice none 0 0,.pointer none,.int .i64 0,.int .i64 0,.int .i64 0] 117)) from ⟨BP.out,World.ownsRow_nil _ _ _ _,rfl,rfl,fun i h=>by simp at h,fun i h=>by simp at h,by simp,fun o ho=>by simp at ho,hwr,fun b hb=>by simp at hb,grown_trans HGW.out AP.out,List.nodup_nil⟩)
     have FA0:=hid (HFA.out.kept AP.out)
     have BF0:=hid (HBF.out.grown AP.out (by simp))
     have LN:=hid (show ∀ i (h:i < xs.length),xs[i].2.length≤6 from fun i h=>by
      rcases HFI.out i (by omega) (by omega) h with ⟨-,-,e⟩ | ⟨-,-,ms,e,e2⟩
      ·rw [e]; simp
      ·rw [e2]; simpa using e.1.2)
     rw [hxl]
     go_wp2
     generalize wr.alloc (.cells #[.int .i64 bt,.int .i64 bf,.int .i64 bd,.slice none 0 0,.pointer none,.int .i64 0,.int .i64 0,.int .i64 0] 117)=W4 at *
     generalize hPP:wr.heap.size=P at *
     have HPP:=hid hPP
     clear hPP b0 b1 b2
     go_loopw [56] (fun i wr2=>∃ (k:Nat) (bl gl:List Nat) (vm:Value),k≤xs.length∧i = .int .i64 k∧GatAt w P bt bf bd vm bl gl (Ln.takeAll (xs.take k)) wr2∧bl.length≤6 * k∧(∀ i (h1:i < fl.length) (h:i < xs.length),k≤i→FileR wr2 fl[i] xs[i])∧wr2.ownsRow w.heap.size 109 2 (.slice al xs.length cl) xs.length (fl.flatMap fileL)∧BlkAt wr2 (w.heap.size+1) #[.int .i64 0,.int .i64 0,.string ⟨#[]⟩] 45) (fun i _=>xs.length - (intOf i).toNat)
     case atStart=>exact ⟨0,[],[],_,Nat.zero_le _,rfl,GA0.out,Nat.le_refl _,fun i h1 h _=>FA0.out.at_ i h,FA0.out.row,BF0.out⟩
     case round =>
      obtain ⟨k,bl,gl,vm,hk2,rfl,hga,hbl,hfr,hrw,hbf⟩:=hrel
      have HGA:=hid hga
      have HFR:=hid hfr
      have HRW:=hid hrw
      have HBF:=hid hbf
      clear hga hfr hrw hbf
      by_cases hlt:k < xs.length
      ·have hkl:k < fl.length:=by rw [FA0.out.len]; exact hlt
       obtain ⟨sg,hsg⟩:∃ sg,al=some ⟨sg,0,none⟩:=by
        rcases HRW.out.2 with ⟨h1,h2⟩ | ⟨g,cap',cur,hv,_⟩
        ·simp at h1; omega
        ·simp only [Value.slice.injEq] at hv
         exact ⟨g,hv.1⟩
       subst hsg
       have q:=fun j (hj:j < 2)=>(HRW.out.cellAt (k * 2+j) (by omega)).trans (flat_get fileL 2 (fun _=>rfl) fl k j hkl hj)
       have m0:wr.cell? ⟨sg,k * 2,none⟩=some (.bool fl[k].a):=q 0 (by omega)
       have m1:wr.cell? ⟨sg,k * 2+1,none⟩=some (.slice (some ⟨fl[k].mg,0,none⟩) fl[k].n fl[k].cap):=q 1 (by omega)
       clear q
       obtain ⟨e0,e1,gs,hm,hcm⟩:=HFR.out k hkl hlt (Nat.le_refl _)
       rw [e0] at m0
       rw [e1] at m1
       have HL:=LN.out k hlt
       have TK:=hid (show Ln.takeAll (xs.take (k+1))=Ln.takeFile (Ln.takeAll (xs.take k)) xs[k] by
        unfold Ln.takeAll
        rw [List.take_succ_eq_append_getElem hlt,List.foldl_append]
        rfl)
       have BND:=FA0.out.bnd _ (List.getElem_mem hkl)
       have NE:=hid (show ∀ i (h1:i < fl.length),k+1≤i→fl[i].mg≠fl[k].mg from fun i h1 hi=>by
        have:=(List.pairwise_iff_getElem.1 FA0.out.pair) k i hkl h1 (by omega)
        omega)
       generalize hr:fl[k]=r at *
       generalize hx:xs[k]=x at *
       obtain ⟨ra,rmg,rn,rcap⟩:=r
       obtain ⟨xa,xo⟩:=x
       dsimp only at *
       subst e0 e1
       have AL:=hid (World.grownBy_alloc wr (.cells #[.bool ra,.slice (some ⟨rmg,0,none⟩) xo.length rcap] 109) none)
       have cT:=hid (takeFile_any w P bt bf bd vm bl gl (Ln.takeAll (xs.take k)) rmg rcap gs ra xo _ (HGA.out.kept AL.out) (hm.kept AL.out) (by omega) BND.1 hcm)
       have HM:=hid (hm.kept AL.out)
       clear hm
       have g1:(k:Int) < (xs.length:Int):=by omega
       have hcm2:=hcm.2
       unfold maxLen at hcm2
       unfold ptrV at cT
       go_wp2_with fail
       refine cT.out.mono ?_
       rintro e W7 ⟨rfl,⟨vm7,b7,g7,h7,l7⟩,f7⟩
       have HG7:=hid h7
       obtain ⟨cur,hcb,-⟩:=HM.out.row
       have FR7:=f7.frame hcb
       have HF7:=hid (show ∀ i (h1:i < fl.length) (h:i < xs.length),k+1≤i→FileR W7 fl[i] xs[i] from fun i h1 h hi=>((HFR.out i h1 h (by omega)).kept AL.out).frameX f7 (NE.out i h1 hi) (fun g o ho=>FR7.obj ho (by decide) (by decide) (by decide) (by decide)) (by decide))
       have RW7:=hid (FR7.own (HRW.out.kept AL.out (Decidable.em _)) (by decide))
       have BF7:=hid (FR7 _ _ _ (HBF.out.grown AL.out (by simp)) (by decide))
       clear h7 f7 cT m0 m1 FR7
       go_wp2
       go_roundw
       case rel=>exact ⟨k+1,_,_,_,by omega,by go_num,by rw [TK.out]; exact HG7.out,by omega,HF7.out,RW7.out,BF7.out⟩
       case measure=>simp [intOf]; omega
      ·obtain rfl:k=xs.length:=by omega
       have g3:decide ((xs.length:Int) < (xs.length:Int))=false:=by simp
       have z0:wr.cell? ⟨w.heap.size+1,0,none⟩=some (.int .i64 0):=HBF.out.cell 0
       have z1:wr.cell? ⟨w.heap.size+1,1,none⟩=some (.int .i64 0):=HBF.out.cell 1
       have z2:wr.cell? ⟨w.heap.size+1,2,none⟩=some (.string ⟨#[]⟩):=HBF.out.cell 2
       have f0:=HBF.out.free 0
       have f1:=HBF.out.free 1
       have f2:=HBF.out.free 2
       have hR:=HBF.out.lt
       go_wp2
       have c0:=HBF.out.set 0 (.int .i64 0)
       have c1:=c0.set 1 (.int .i64 0)
       have F:=c1.set 2 (.string ⟨#[]⟩)
       have HLO:∀ b,some (w.heap.size+1)=some b→w.heap.size≤b:=fun b e=>by simp at e; omega
       have GF:=(((HGA.out.ty (grown_set _ _ 0 (.int .i64 0)) (RowT.blk HBF.out) HLO (by decide) (by decide) (by decide) (by decide) (by decide) (by decide) (by decide)).ty (grown_set _ _ 1 (.int .i64 0)) (RowT.blk c0) HLO (by decide) (by decide) (by decide) (by decide) (by decide) (by decide) (by decide)).ty (grown_set _ _ 2 (.string ⟨#[]⟩)) (RowT.blk c1) HLO (by decide) (by decide) (by decide) (by decide) (by decide) (by decide) (by decide))
       have h0:=F.cell 0
       have h1:=F.cell 1
       have h2:=F.cell 2
       simp only [List.setIfInBounds_toArray,List.set_cons_succ,List.set_cons_zero,List.getElem?_toArray,List.getElem?_cons_succ,List.getElem?_cons_zero] at h0 h1 h2
       refine bodyPost_ret (v:=.tuple #[ptrV P,lfA Ln.ok]) ?_ rfl ⟨.inr ⟨HFL.out.symm,hc.1,hc.2,xs,hxl,P,vm,bl,gl,fun i h=>HFI.out i h h (by omega),rfl,by have:=GF; rw [List.take_length] at this; exact this⟩,GF.gr⟩
       clear F GF z0 z1 z2 f0 f1 f2 c0 c1
       generalize World.setCell _ _ _=WF at *
       simp [results,Tryz.results41,go_sem,lfA,Ln.ok,ptrV,bs,h0,h1,h2]

end Go.Proofs.YtnfgdlkiialnnaaGreatDoor

namespace Go.Proofs.YtnfgdlkiialnnaaGreatDoor
open Go.RowKit

def spotL (bl:List Nat) (s:Ln.Spot):List Value:=[.pointer (ptrOf bl s.mod),.int .i64 s.sect,.int .i64 s.off]
/-- a module in memory -/
def ModAt (W:World) (bl:List Nat) (b g:Nat) (m:Ln.Mod):Prop :=
 ∃ vm vs vt vf,BlkAt W b #[ptrV g,vm,vs,vt,vf,.int .i64 m.data,.int .i64 m.bss] 122∧ObjAt W g m.obj ∧
  W.ownsRow 0 115 3 vm m.means.length (m.means.flatMap (spotL bl))∧W.ownsRow 0 4 1 vs m.short.length (m.short.map Value.bool) ∧
  W.ownsRow 0 3 1 vt m.text.length (m.text.map (Value.int .i64))∧W.ownsRow 0 3 1 vf m.far.length (m.far.map (Value.int .i64)) ∧
  (m.means=[]→vm = .slice none 0 0)∧(m.short=[]→vs = .slice none 0 0)

structure ProgAt (W0:World) (P:Nat) (bt bf bd:Int) (vm:Value) (bl gl:List Nat) (ms:List Ln.Mod) (st:Ln.Spot) (no:Int) (W:World):Prop where
 blk:BlkAt W P #[.int .i64 bt,.int .i64 bf,.int .i64 bd,vm,.pointer (ptrOf bl st.mod),.int .i64 st.sect,.int .i64 st.off,.int .i64 no] 117
 row:W.ownsRow W0.heap.size 113 1 vm bl.length (bl.map ptrV)
 lenG:gl.length=bl.length
 lenO:ms.length=bl.length
 mods:∀ i (h:i < bl.length),ModAt W bl bl[i] (gl[i]'(by rw [lenG]; exact h)) (ms[i]'(by rw [lenO]; exact h))
 few:bl.length≤4096
 syms:∀ m∈ms,m.obj.syms.length≤65535
 lo:W0.heap.size≤P
 los:∀ b∈bl,W0.heap.size≤b
 gr:W0.grownBy W none
 nd:bl.Nodup

theorem own_nought {W:World} {B size n:Nat} {e:TypeId} {v:Value} {xs:List Value} (h:W.ownsRow B e size v n xs):W.ownsRow 0 e size v n xs:=by
 refine ⟨h.1,?_⟩
 rcases h.2 with q | ⟨g,cap,cur,hv,_,r⟩
 ·exact .inl q
 ·exact .inr ⟨g,cap,cur,hv,Nat.zero_le _,r⟩

theorem nodup_ne {l:List Nat} (h:l.Nodup) {i j:Nat} (hi:i < l.length) (hj:j < l.length) (hne:i≠j):l[i]≠l[j]:=by
 rcases Nat.lt_or_gt_of_ne hne with q | q
 ·exact List.pairwise_iff_getElem.1 h i j hi hj q
 ·exact fun c=>List.pairwise_iff_getElem.1 h j i hj hi q c.symm

section
variable {W0 W W':World} {P:Nat} {bt bf bd:Int} {vm:Value} {bl gl:List Nat} {ms:List Ln.Mod} {st:Ln.Spot} {no:Int} {b g:Nat} {m:Ln.Mod}
theorem ModAt.kept (h:ModAt W bl b g m) (hg:W.grownBy W' none):ModAt W' bl b g m:=by
 obtain ⟨v1,v2,v3,v4,q0,q1,q2,q3,q4,q5,q6⟩:=h
 have k:∀ (v:Value),v.ownBlock=none∨v.ownBlock≠none:=fun v=>Decidable.em _
 exact ⟨v1,v2,v3,v4,q0.grown hg (by simp),q1.kept hg,q2.kept hg (k _),q3.kept hg (k _),q4.kept hg (k _),q5.kept hg (k _),q6⟩
/-- a block of another type is written -/
theorem ModAt.ty {row:Option Nat} {e:TypeId} (h:ModAt W bl b g m) (hg:W.grownBy W' row) (hr:RowT W row e) (h1:122≠e) (h2:90≠e) (h3:3≠e) (h4:124≠e) (h5:139≠e) (h6:115≠e) (h7:4≠e):ModAt W' bl b g m:=by
 obtain ⟨v1,v2,v3,v4,q0,q1,q2,q3,q4,q5,q6⟩:=h
 exact ⟨v1,v2,v3,v4,blk_ty q0 hg hr h1,obj_ty q1 hg hr h2 h3 h4 h5,own_ty q2 hg hr h6,own_ty q3 hg hr h7,own_ty q4 hg hr h3,own_ty q5 hg hr h3,q6⟩
/-- another module is written -/
theorem ModAt.other {k:Nat} {cur:Array Value} (h:ModAt W bl b g m) (hg:W.grownBy W' (some k)) (hr:BlkAt W k cur 122) (hne:b≠k):ModAt W' bl b g m:=by
 obtain ⟨v1,v2,v3,v4,q0,q1,q2,q3,q4,q5,q6⟩:=h
 have R:=RowT.blk hr
 exact ⟨v1,v2,v3,v4,q0.grown hg (by simp; omega),obj_ty q1 hg R (by decide) (by decide) (by decide) (by decide),own_ty q2 hg R (by decide),own_ty q3 hg R (by decide),own_ty q4 hg R (by decide),own_ty q5 hg R (by decide),q6⟩
theorem ProgAt.kept (h:ProgAt W0 P bt bf bd vm bl gl ms st no W) (hg:W.grownBy W' none):ProgAt W0 P bt bf bd vm bl gl ms st no W' :=
 ⟨h.blk.grown hg (by simp),h.row.kept hg (by cases vm.ownBlock <;> simp),h.lenG,h.lenO,fun i hi=>(h.mods i hi).kept hg,h.few,h.syms,h.lo,h.los,grown_trans h.gr hg,h.nd⟩
theorem ProgAt.ty {row:Option Nat} {e:TypeId} (h:ProgAt W0 P bt bf bd vm bl gl ms st no W) (hg:W.grownBy W' row) (hr:RowT W row e) (hlo:∀ k,row=some k→W0.heap.size≤k) (h0:117≠e) (h00:113≠e) (h1:122≠e) (h2:90≠e) (h3:3≠e) (h4:124≠e) (h5:139≠e) (h6:115≠e) (h7:4≠e):ProgAt W0 P bt bf bd vm bl gl ms st no W' :=
 ⟨blk_ty h.blk hg hr h0,own_ty h.row hg hr h00,h.lenG,h.lenO,fun i hi=>(h.mods i hi).ty hg hr h1 h2 h3 h4 h5 h6 h7,h.few,h.syms,h.lo,h.los,grown_hi h.gr hg hlo,h.nd⟩
/-- one module is written -/
theorem ProgAt.upd {k:Nat} {m':Ln.Mod} (h:ProgAt W0 P bt bf bd vm bl gl ms st no W) (hk:k < bl.length) (hk':k < ms.length) (hg:W.grownBy W' (some bl[k])) (hm:ModAt W' bl bl[k] (gl[k]'(by rw [h.lenG]; exact hk)) m') (ho:m'.obj=ms[k].obj):ProgAt W0 P bt bf bd vm bl gl (ms.set k m') st no W':=by
 obtain ⟨v1,v2,v3,v4,q0,-⟩:=h.mods k hk
 have R:=RowT.blk q0
 refine ⟨blk_ty h.blk hg R (by decide),own_ty h.row hg R (by decide),h.lenG,by rw [List.length_set]; exact h.lenO,fun i hi=>?_,h.few,fun x hx=>?_,h.lo,h.los,grown_hi h.gr hg (by intro j e; simp at e; subst e; exact h.los _ (List.getElem_mem hk)),h.nd⟩
 ·by_cases e:i=k
  ·subst e
   rw [List.getElem_set_self]
   exact hm
  ·rw [List.getElem_set_ne (by omega)]
   exact (h.mods i hi).other hg q0 (fun c=>nodup_ne h.nd hi hk e c)
 ·rcases List.mem_or_eq_of_mem_set hx with q | rfl
  ·exact h.syms x q
  ·rw [ho]; exact h.syms _ (List.getElem_mem hk')
theorem ProgAt.modsIn {am:Option Addr} {cm:Nat} (h:ProgAt W0 P bt bf bd (.slice am bl.length cm) bl gl ms st no W):ModsIn W am bl (ms.map Ln.Mod.obj):=by
 refine ⟨fun hp=>?_,by rw [List.length_map,h.lenO],fun i h1 h2=>?_,by rw [List.length_map,h.lenO]; exact h.few,fun o ho=>?_⟩
 ·obtain ⟨sg,hs,-,-,-,hc⟩:=own_some h.row hp
  refine ⟨sg,0,hs,fun i hi=>?_⟩
  rw [Nat.zero_add,hc i hi,List.getElem?_map,List.getElem?_eq_getElem hi]
  rfl
 ·obtain ⟨v1,v2,v3,v4,q0,q1,-⟩:=h.mods i h1
  refine ⟨_,q0.cell 0,?_⟩
  rw [List.getElem_map]
  exact q1
 ·obtain ⟨x,hx,rfl⟩:=List.mem_map.1 ho
  exact h.syms x hx
theorem ProgAt.spot {st':Ln.Spot} (h:ProgAt W0 P bt bf bd vm bl gl ms st no W):ProgAt W0 P bt bf bd vm bl gl ms st' no (((W.setCell ⟨P,4,none⟩ (.pointer (ptrOf bl st'.mod))).setCell ⟨P,5,none⟩ (.int .i64 st'.sect)).setCell ⟨P,6,none⟩ (.int .i64 st'.off)):=by
 have c1:=h.blk.set 4 (.pointer (ptrOf bl st'.mod))
 have c2:=c1.set 5 (.int .i64 st'.sect)
 have c3:=c2.set 6 (.int .i64 st'.off)
 have g1:=grown_set W P 4 (.pointer (ptrOf bl st'.mod))
 have g2:=grown_set (W.setCell ⟨P,4,none⟩ (.pointer (ptrOf bl st'.mod))) P 5 (.int .i64 st'.sect)
 have g3:=grown_set ((W.setCell ⟨P,4,none⟩ (.pointer (ptrOf bl st'.mod))).setCell ⟨P,5,none⟩ (.int .i64 st'.sect)) P 6 (.int .i64 st'.off)
 have G:=World.grownBy.trans (World.grownBy.trans g1 g2) g3
 have R:=RowT.blk h.blk
 refine ⟨?_,own_ty h.row G R (by decide),h.lenG,h.lenO,fun i hi=>(h.mods i hi).ty G R (by decide) (by decide) (by decide) (by decide) (by decide) (by decide) (by decide),h.few,h.syms,h.lo,h.los,grown_hi h.gr G (by intro j e; simp at e; have:=h.lo; omega),h.nd⟩
 simpa using c3
theorem ProgAt.nought {no':Int} (h:ProgAt W0 P bt bf bd vm bl gl ms st no W):ProgAt W0 P bt bf bd vm bl gl ms st no' (W.setCell ⟨P,7,none⟩ (.int .i64 no')):=by
 have c1:=h.blk.set 7 (.int .i64 no')
 have G:=grown_set W P 7 (.int .i64 no')
 have R:=RowT.blk h.blk
 refine ⟨?_,own_ty h.row G R (by decide),h.lenG,h.lenO,fun i hi=>(h.mods i hi).ty G R (by decide) (by decide) (by decide) (by decide) (by decide) (by decide) (by decide),h.few,h.syms,h.lo,h.los,grown_hi h.gr G (by intro j e; simp at e; have:=h.lo; omega),h.nd⟩
 simpa using c1
end

namespace Ln
def bare (o:Lk.Obj):Mod:=⟨o,[],[],[],[],0,0⟩
/-- module number i, once its names are resolved -/
def resOne (os:List Lk.Obj) (i:Nat) (m:Mod):Mod:={ m with means:=m.obj.syms.map (meaning os i) }
def resAll (os:List Lk.Obj) (ms:List Mod):List Mod:=ms.mapIdx (resOne os)
end Ln
theorem GatAt.prog {W0 W:World} {P:Nat} {bt bf bd:Int} {vm:Value} {bl gl:List Nat} {os:List Lk.Obj} (h:GatAt W0 P bt bf bd vm bl gl os W):ProgAt W0 P bt bf bd vm bl gl (os.map Ln.bare) Ln.none_ 0 W :=
 ⟨h.blk,h.row,h.lenG,by rw [List.length_map]; exact h.lenO,fun i hi=>by
  rw [List.getElem_map]
  exact ⟨_,_,_,_,h.mods i hi,h.objs i hi,World.ownsRow_nil _ _ _ _,World.ownsRow_nil _ _ _ _,World.ownsRow_nil _ _ _ _,World.ownsRow_nil _ _ _ _,fun _=>rfl,fun _=>rfl⟩,h.few,fun m hm=>by
  obtain ⟨o,ho,rfl⟩:=List.mem_map.1 hm
  exact h.syms o ho,h.lo,h.los,h.gr,h.nd⟩

/-- a list that goes over into another, one after the other -/
theorem step_list {α:Type} (xs ys:List α) (k:Nat) (hx:k < xs.length) (hy:k < ys.length) (_hl:ys.length=xs.length):(ys.take k ++ xs.drop k).set k ys[k]=ys.take (k+1) ++ xs.drop (k+1):=by
 rw [List.set_append_right _ _ (by rw [List.length_take]; omega)]
 have e:k - (ys.take k).length=0:=by rw [List.length_take]; omega
 rw [e,List.drop_eq_getElem_cons hx,List.set_cons_zero,List.take_succ_eq_append_getElem hy,List.append_assoc,List.singleton_append]
theorem step_at {α:Type} (xs ys:List α) (k:Nat) (hx:k < xs.length) (_hy:k≤ys.length) (h:k < (ys.take k ++ xs.drop k).length):(ys.take k ++ xs.drop k)[k]=xs[k]:=by
 rw [List.getElem_append_right (by rw [List.length_take]; omega)]
 simp [List.length_take,Nat.min_eq_left _hy]
/-- a program in memory, and the faults of an earlier world kept -/
structure ProgF (Wf W0:World) (P:Nat) (bt bf bd:Int) (vm:Value) (bl gl:List Nat) (ms:List Ln.Mod) (st:Ln.Spot) (no:Int) (W:World):Prop extends ProgAt W0 P bt bf bd vm bl gl ms st no W where
 kf:∀ k cs,BlkAt Wf k cs 45→BlkAt W k cs 45
 le:W0.heap.size≤Wf.heap.size
 sz:Wf.heap.size≤W.heap.size
section
variable {Wf W0 W W':World} {P:Nat} {bt bf bd:Int} {vm:Value} {bl gl:List Nat} {ms:List Ln.Mod} {st:Ln.Spot} {no:Int}
theorem ProgAt.f (h:ProgAt W0 P bt bf bd vm bl gl ms st no W):ProgF W W0 P bt bf bd vm bl gl ms st no W:=⟨h,fun _ _ q=>q,h.gr.size,Nat.le_refl _⟩
theorem ProgF.kept (h:ProgF Wf W0 P bt bf bd vm bl gl ms st no W) (hg:W.grownBy W' none):ProgF Wf W0 P bt bf bd vm bl gl ms st no W' :=
 ⟨h.toProgAt.kept hg,fun k cs q=>(h.kf k cs q).grown hg (by simp),h.le,Nat.le_trans h.sz hg.size⟩
theorem ProgF.upd {k:Nat} {m':Ln.Mod} (h:ProgF Wf W0 P bt bf bd vm bl gl ms st no W) (hk:k < bl.length) (hk':k < ms.length) (hg:W.grownBy W' (some bl[k])) (hm:ModAt W' bl bl[k] (gl[k]'(by rw [h.lenG]; exact hk)) m') (ho:m'.obj=ms[k].obj):ProgF Wf W0 P bt bf bd vm bl gl (ms.set k m') st no W':=by
 obtain ⟨v1,v2,v3,v4,q0,-⟩:=h.mods k hk
 exact ⟨h.toProgAt.upd hk hk' hg hm ho,fun k cs q=>blk_ty (h.kf k cs q) hg (RowT.blk q0) (by decide),h.le,Nat.le_trans h.sz hg.size⟩
theorem ProgF.spot {st':Ln.Spot} (h:ProgF Wf W0 P bt bf bd vm bl gl ms st no W):ProgF Wf W0 P bt bf bd vm bl gl ms st' no (((W.setCell ⟨P,4,none⟩ (.pointer (ptrOf bl st'.mod))).setCell ⟨P,5,none⟩ (.int .i64 st'.sect)).setCell ⟨P,6,none⟩ (.int .i64 st'.off)):=by
 have G:=World.grownBy.trans (World.grownBy.trans (grown_set W P 4 (.pointer (ptrOf bl st'.mod))) (grown_set _ P 5 (.int .i64 st'.sect))) (grown_set _ P 6 (.int .i64 st'.off))
 exact ⟨h.toProgAt.spot,fun k cs q=>blk_ty (h.kf k cs q) G (RowT.blk h.blk) (by decide),h.le,Nat.le_trans h.sz G.size⟩
theorem ProgF.nought {no':Int} (h:ProgF Wf W0 P bt bf bd vm bl gl ms st no W):ProgF Wf W0 P bt bf bd vm bl gl ms st no' (W.setCell ⟨P,7,none⟩ (.int .i64 no')) :=
 ⟨h.toProgAt.nought,fun k cs q=>blk_ty (h.kf k cs q) (grown_set W P 7 (.int .i64 no')) (RowT.blk h.blk) (by decide),h.le,Nat.le_trans h.sz (grown_set W P 7 (.int .i64 no')).size⟩
end

end Go.Proofs.YtnfgdlkiialnnaaGreatDoor

namespace Go.Proofs.YtnfgdlkiialnnaaGreatDoor
open Go.RowKit

/-- no two of these rows lie in one block -/
def Apart (vs:List Value):Prop:=vs.Pairwise fun u v=>∀ k,u.ownBlock=some k→v.ownBlock≠some k
def blkV (b:Nat):Value:=.slice (some ⟨b,0,none⟩) 0 0

/-- an object under construction: its rows lie at B or above, each in a block of its own -/
structure ObjOwn (B:Nat) (W:World) (b g:Nat) (o:Lk.Obj) (vt vf vd va vs vr:Value):Prop where
 blk:BlkAt W g #[vt,vf,vd,.int .i64 o.bss,va,vs,vr] 90
 text:W.ownsRow B 3 1 vt o.text.length (o.text.map (Value.int .i64))
 far:W.ownsRow B 3 1 vf o.far.length (o.far.map (Value.int .i64))
 data:W.ownsRow B 3 1 vd o.data.length (o.data.map (Value.int .i64))
 align:W.ownsRow B 3 1 va o.align.length (o.align.map (Value.int .i64))
 syms:W.ownsRow B 124 4 vs o.syms.length (o.syms.flatMap symV)
 rels:W.ownsRow B 139 5 vr o.rels.length (o.rels.flatMap relV)
 apart:Apart [blkV b,blkV g,vt,vf,vd,va,vs,vr]

structure TokOk (t:As.Tok):Prop where
 kind:t.kind≤4
 pos:t.pos≤1000
 text:t.text.length≤1000
 n:t.n≤9999999999

structure StOk (s:ByteArray) (st:As.St):Prop where
 size:s.size≤1000
 p:st.p≤s.size
 tok:TokOk st.tok
 fe:st.fe≤99
 fa:st.fa≤1000
 op:TokOk st.op
 sect:1≤st.sect∧st.sect≤4
 text:st.obj.text.length≤1200
 far:st.obj.far.length≤1200
 data:st.obj.data.length≤64
 bss:0≤st.obj.bss∧st.obj.bss≤64
 align:st.obj.align.length=4
 syms:st.obj.syms.length≤16
 rels:st.obj.rels.length≤32

def tokA (t:As.Tok):Value:=.agg #[.int .i64 t.kind,.int .i64 t.pos,.string (bs t.text),.int .i64 t.n]
def asmCells (s:ByteArray) (g:Nat) (st:As.St):Array Value :=
 #[.string s,.int .i64 st.p,.int .i64 st.tok.kind,.int .i64 st.tok.pos,.string (bs st.tok.text),.int .i64 st.tok.n,.int .i64 st.fe,.int .i64 st.fa,.string ⟨#[]⟩,
  .int .i64 st.op.kind,.int .i64 st.op.pos,.string (bs st.op.text),.int .i64 st.op.n,.int .i64 st.sect,.pointer (some ⟨g,0,none⟩)]

/-- the assembler lies in block b, its object in g -/
structure AsmAt (B:Nat) (s:ByteArray) (b g:Nat) (st:As.St) (W:World):Prop where
 blk:BlkAt W b (asmCells s g st) 86
 own:∃ vt vf vd va vs vr,ObjOwn B W b g st.obj vt vf vd va vs vr
 lo:3≤B∧B≤b∧B≤g∧b≠g
 ok:StOk s st
 tabs:Tabs W

section
variable {B:Nat} {s:ByteArray} {b g:Nat} {st:As.St} {W W':World} {o:Lk.Obj} {vt vf vd va vs vr:Value}

theorem ownsRow_keep {e:TypeId} {size n:Nat} {v:Value} {xs:List Value} (h:W.ownsRow B e size v n xs) (hk:∀ k,v.ownBlock=some k→W'.heap[k]?=W.heap[k]?):W'.ownsRow B e size v n xs:=by
 refine ⟨h.1,?_⟩
 rcases h.2 with hn | ⟨g,cap,cur,rfl,hb,hgg,rest⟩
 ·exact .inl hn
 ·exact .inr ⟨g,cap,cur,rfl,hb,(hk g rfl).trans hgg,rest⟩

/-- all that the rows own is kept where their blocks are -/
theorem ObjOwn.keep (h:ObjOwn B W b g o vt vf vd va vs vr) (hk:∀ k,k≠b→k < W.heap.size→W'.heap[k]?=W.heap[k]?):ObjOwn B W' b g o vt vf vd va vs vr:=by
 have ap:=h.apart
 unfold Apart at ap
 simp only [List.pairwise_cons,List.mem_cons,List.mem_nil_iff,or_false,forall_eq_or_imp,forall_eq] at ap
 have ne:∀ v:Value,(∀ k,Value.ownBlock (blkV b)=some k→v.ownBlock≠some k)→∀ k,v.ownBlock=some k→k≠b:=fun v hv k hk' hb=>hv b rfl (by rw [hk',hb])
 obtain ⟨⟨ag,at_,af,ad,aa,as_,ar⟩,-⟩:=ap
 have row:∀ {e:TypeId} {size n:Nat} {v:Value} {xs:List Value},W.ownsRow B e size v n xs→(∀ k,Value.ownBlock (blkV b)=some k→v.ownBlock≠some k)→W'.ownsRow B e size v n xs :=
  fun h hv=>ownsRow_keep h fun k hk'=>hk k (ne _ hv k hk') (h.lt k hk').2
 have hg:g≠b:=ne (blkV g) ag g rfl
 exact ⟨(hk g hg h.blk.lt).trans h.blk,row h.text at_,row h.far af,row h.data ad,row h.align aa,row h.syms as_,row h.rels ar,h.apart⟩

theorem AsmAt.grown (h:AsmAt B s b g st W) (hg:W.grownBy W' none):AsmAt B s b g st W':=by
 obtain ⟨vt,vf,vd,va,vs,vr,ho⟩:=h.own
 exact ⟨h.blk.grown hg (by simp),⟨vt,vf,vd,va,vs,vr,ho.keep fun k _ hk=>hg.block k hk (by simp)⟩,h.lo,h.ok,h.tabs.grown hg⟩

/-- the assembler's own cells are written, nothing else -/
theorem AsmAt.put (h:AsmAt B s b g st W) (st':As.St) (hb:BlkAt W' b (asmCells s g st') 86) (hg:W.grownBy W' (some b)) (hobj:st'.obj=st.obj) (hok:StOk s st'):AsmAt B s b g st' W':=by
 obtain ⟨vt,vf,vd,va,vs,vr,ho⟩:=h.own
 refine ⟨hb,⟨vt,vf,vd,va,vs,vr,?_⟩,h.lo,hok,h.tabs.grownAt hg (by have:=h.lo; omega)⟩
 rw [hobj]
 exact ho.keep fun k hk hlt=>hg.block k hlt (by simpa using hk)

theorem AsmAt.size (h:AsmAt B s b g st W):B≤W.heap.size:=by have:=h.blk.lt; have:=h.lo; omega
theorem AsmAt.below (h:AsmAt B s b g st W) {row:Option Nat} (hg:W.grownBy W' row) (hr:∀ k,row=some k→B≤k):Below B W W':=(Below.refl B W).grown hg h.size hr
theorem AsmAt.belowN (h:AsmAt B s b g st W) (hg:W.grownBy W' none):Below B W W':=h.below hg (by simp)
theorem AsmAt.belowB (h:AsmAt B s b g st W) (hg:W.grownBy W' (some b)):Below B W W':=h.below hg (by intro k hk; simp at hk; have:=h.lo; omega)
end

/-- cells of one block written one after another -/
def sets (W:World) (b:Nat) (l:List (Nat×Value)):World:=l.foldl (fun w q=>w.setCell ⟨b,q.1,none⟩ q.2) W
def setsA (cs:Array Value) (l:List (Nat×Value)):Array Value:=l.foldl (fun a q=>a.setIfInBounds q.1 q.2) cs
theorem sets_blk {W:World} {b:Nat} {cs:Array Value} {t:TypeId} (l:List (Nat×Value)) (h:BlkAt W b cs t):BlkAt (sets W b l) b (setsA cs l) t:=by
 induction l generalizing W cs with
 | nil=>exact h
 | cons q l ih=>exact ih (h.set q.1 q.2)
theorem sets_grown (W:World) (b:Nat) (l:List (Nat×Value)):W.grownBy (sets W b l) (some b):=by
 induction l generalizing W with
 | nil=>exact World.grownBy.refl _ _
 | cons q l ih=>exact grown_trans (grown_set W b q.1 q.2) (ih _)
/-- what a method on the assembler does that leaves the object alone -/
def DoesB (B:Nat) (s:ByteArray) (b g:Nat) (W:World) (st':As.St) (W':World):Prop:=AsmAt B s b g st' W'∧W.grownBy W' (some b)

/-- blocks of other types than the assembler's and its object's are kept -/
def KeepA (W W':World):Prop:=∀ k cs t,t≠86→t≠90→t≠3→t≠124→t≠139→BlkAt W k cs t→BlkAt W' k cs t
theorem KeepA.refl (W:World):KeepA W W:=fun _ _ _ _ _ _ _ _ h=>h
theorem KeepA.trans {a b c:World} (h:KeepA a b) (k:KeepA b c):KeepA a c:=fun i cs t h1 h2 h3 h4 h5 hb=>k i cs t h1 h2 h3 h4 h5 (h i cs t h1 h2 h3 h4 h5 hb)
theorem KeepA.none {W W':World} (h:W.grownBy W' none):KeepA W W':=fun _ _ _ _ _ _ _ _ hb=>hb.grown h (by simp)

/-- what a method on the assembler does -/
def Does (B:Nat) (s:ByteArray) (b g:Nat) (W:World) (st':As.St) (W':World):Prop:=AsmAt B s b g st' W'∧Below B W W'∧KeepA W W'

section
variable {B:Nat} {s:ByteArray} {b g:Nat} {st st':As.St} {W V V':World}
theorem KeepA.row (h:AsmAt B s b g st W) (hg:W.grownBy V (some b)):KeepA W V:=by
 intro k cs t h1 _ _ _ _ hb
 refine hb.grown hg ?_
 intro e
 obtain rfl:k=b:=by simpa using e
 have:=hb.symm.trans h.blk
 simp at this
 exact h1 this.2
theorem DoesB.does (k:DoesB B s b g W st' V) (h:AsmAt B s b g st W):Does B s b g W st' V:=⟨k.1,h.belowB k.2,KeepA.row h k.2⟩
theorem DoesB.grown (h:DoesB B s b g W st V) (hg:V.grownBy V' none):DoesB B s b g W st V':=⟨h.1.grown hg,grown_trans h.2 (grown_any hg)⟩
theorem DoesB.alloc (h:DoesB B s b g W st V) (o:Obj):DoesB B s b g W st (V.alloc o):=h.grown (World.grownBy_alloc V o none)
theorem DoesB.drewN (h:DoesB B s b g W st V) (n:Nat):DoesB B s b g W st (V.drewN n):=h.grown (grown_drewN (World.grownBy.refl _ _) n)
theorem DoesB.after (h:DoesB B s b g W st V) (k:DoesB B s b g V st' V'):DoesB B s b g W st' V':=⟨k.1,grown_trans h.2 k.2⟩
theorem DoesB.sets (h:DoesB B s b g W st V) (l:List (Nat×Value)) (st':As.St) (hc:setsA (asmCells s g st) l=asmCells s g st') (hobj:st'.obj=st.obj) (hok:StOk s st'):DoesB B s b g W st' (sets V b l) :=
 ⟨h.1.put st' (by rw [← hc]; exact sets_blk l h.1.blk) (sets_grown V b l) hobj hok,grown_trans h.2 (sets_grown V b l)⟩
theorem AsmAt.doesB (h:AsmAt B s b g st W):DoesB B s b g W st W:=⟨h,World.grownBy.refl _ _⟩
theorem AsmAt.does (h:AsmAt B s b g st W):Does B s b g W st W:=⟨h,Below.refl _ _,KeepA.refl _⟩
theorem Does.grown (h:Does B s b g W st V) (hg:V.grownBy V' none):Does B s b g W st V':=⟨h.1.grown hg,h.2.1.trans (h.1.belowN hg),h.2.2.trans (KeepA.none hg)⟩
theorem Does.alloc (h:Does B s b g W st V) (o:Obj):Does B s b g W st (V.alloc o):=h.grown (World.grownBy_alloc V o none)
theorem Does.drewN (h:Does B s b g W st V) (n:Nat):Does B s b g W st (V.drewN n):=h.grown (grown_drewN (World.grownBy.refl _ _) n)
theorem Does.after (h:Does B s b g W st V) (k:Does B s b g V st' V'):Does B s b g W st' V':=⟨k.1,h.2.1.trans k.2.1,h.2.2.trans k.2.2⟩
theorem Does.afterB (h:Does B s b g W st V) (k:DoesB B s b g V st' V'):Does B s b g W st' V':=h.after (k.does h.1)
end

/-- the type of a local's cells, that is none of the assembler's and its object's -/
def LocT (t:TypeId):Prop:=t≠86∧t≠90∧t≠3∧t≠124∧t≠139
section
variable {B:Nat} {s:ByteArray} {b g r:Nat} {st st':As.St} {W V V':World} {cs:Array Value} {t:TypeId} {o:Lk.Obj} {vt vf vd va vs vr:Value}
theorem ownsRow_local {e:TypeId} {size n:Nat} {v:Value} {xs:List Value} (h:W.ownsRow B e size v n xs) (hr:BlkAt W r cs t) (ht:t≠e) (l:List (Nat×Value)):(sets W r l).ownsRow B e size v n xs:=by
 refine ownsRow_keep h fun k hk=>?_
 refine (sets_grown W r l).block k (h.lt k hk).2 ?_
 intro e'
 obtain rfl:k=r:=by simpa using e'
 rcases h.2 with ⟨rfl,_⟩ | ⟨g',cap,cur,rfl,_,hg,_⟩
 ·simp [Value.ownBlock] at hk
 ·obtain rfl:g'=k:=by simpa [Value.ownBlock] using hk
  have:=hg.symm.trans hr
  simp at this
  exact ht this.2.symm
theorem AsmAt.local (h:AsmAt B s b g st V) (hr:BlkAt V r cs t) (ht:LocT t) (hB:B≤r) (l:List (Nat×Value)):AsmAt B s b g st (Proofs.YtnfgdlkiialnnaaGreatDoor.sets V r l):=by
 obtain ⟨t1,t2,t3,t4,t5⟩:=ht
 obtain ⟨vt,vf,vd,va,vs,vr,ho⟩:=h.own
 have other:∀ {k:Nat} {cs':Array Value} {t':TypeId},BlkAt V k cs' t'→t≠t'→BlkAt (Proofs.YtnfgdlkiialnnaaGreatDoor.sets V r l) k cs' t':=fun hb hne=>hb.grown (sets_grown V r l) (by
  intro e
  have e':=Option.some.inj e
  subst e'
  have:=hb.symm.trans hr
  simp at this
  exact hne this.2.symm)
 refine ⟨other h.blk t1,⟨vt,vf,vd,va,vs,vr,other ho.blk t2,ownsRow_local ho.text hr t3 l,ownsRow_local ho.far hr t3 l,ownsRow_local ho.data hr t3 l,ownsRow_local ho.align hr t3 l,ownsRow_local ho.syms hr t4 l,ownsRow_local ho.rels hr t5 l,ho.apart⟩,h.lo,h.ok,h.tabs.grownAt (sets_grown V r l) (by have:=h.lo; omega)⟩
theorem DoesB.local (h:DoesB B s b g W st V) (hr:BlkAt V r cs t) (ht:LocT t) (hB:B≤W.heap.size) (hw:W.heap.size≤r) (l:List (Nat×Value)):DoesB B s b g W st (Proofs.YtnfgdlkiialnnaaGreatDoor.sets V r l):=by
 refine ⟨h.1.local hr ht (by omega) l,?_⟩
 have g:=sets_grown V r l
 exact ⟨g.os.trans h.2.os,g.tape.trans h.2.tape,g.output.trans h.2.output,Nat.le_trans h.2.size g.size,fun i hi hne=>(g.block i (Nat.lt_of_lt_of_le hi h.2.size) (by simp; omega)).trans (h.2.block i hi hne)⟩
theorem Does.local (h:Does B s b g W st V) (hr:BlkAt V r cs t) (ht:LocT t) (hB:B≤W.heap.size) (hw:W.heap.size≤r) (l:List (Nat×Value)):Does B s b g W st (Proofs.YtnfgdlkiialnnaaGreatDoor.sets V r l):=by
 have g:=sets_grown V r l
 have hV:B≤V.heap.size:=Nat.le_trans hB h.2.1.size
 refine ⟨h.1.local hr ht (by omega) l,h.2.1.trans ((Below.refl B V).grown g hV (by intro k hk; simp at hk; omega)),fun k cs t' h1 h2 h3 h4 h5 hb=>(h.2.2 k cs t' h1 h2 h3 h4 h5 hb).grown g ?_⟩
 intro e
 have:=hb.lt
 have e':=Option.some.inj e
 omega
end

theorem StOk.tok' {s:ByteArray} {st:As.St} (h:StOk s st) (t:As.Tok) (ht:TokOk t) (fe fa:Nat) (h1:fe≤99) (h2:fa≤1000):StOk s { st with tok:=t,fe:=fe,fa:=fa } :=
 ⟨h.size,h.p,ht,h1,h2,h.op,h.sect,h.text,h.far,h.data,h.bss,h.align,h.syms,h.rels⟩
theorem tokNil_ok:TokOk As.Tok.nil:=⟨by decide,by decide,by decide,by decide⟩

set_option maxHeartbeats 400000 in
theorem failed_any (B:Nat) (s:ByteArray) (b g:Nat) (st:As.St) (W:World) (h:AsmAt B s b g st W) :
  Calls Tryz.prog 49 #[.pointer (some ⟨b,0,none⟩)] W fun e W'=>e = .returned (.bool (As.failed st))∧W'=W:=by
 have k:=h.blk.cell 6
 simp only [asmCells,List.getElem?_toArray,List.getElem?_cons_succ,List.getElem?_cons_zero] at k
 clear h
 have e:(!((st.fe:Int) == 0))=As.failed st:=by unfold As.failed; congr 1; rw [Bool.eq_iff_iff]; simp
 go_enter Tryz.func49,Tryz.ntmps49
 go_wp2
 go_ret
 exact ⟨by rw [← e]; rfl,rfl⟩

theorem asm_cell {B:Nat} {s:ByteArray} {b g:Nat} {st:As.St} {W:World} (h:AsmAt B s b g st W) (i:Nat):W.cell? ⟨b,i,none⟩=(asmCells s g st)[i]?:=h.blk.cell i

set_option maxHeartbeats 1000000 in
theorem refuse_any (B:Nat) (s:ByteArray) (b g:Nat) (st:As.St) (e pos:Nat) (W:World) (h:AsmAt B s b g st W) (he:e≤99) (hp:pos≤1000) :
  Calls Tryz.prog 78 #[.pointer (some ⟨b,0,none⟩),.int .i64 e,.int .i64 pos] W fun en W'=>en = .returned (.tuple #[])∧DoesB B s b g W (As.refuse e pos st) W':=by
 have cF:=hid (failed_any B s b g st W h)
 have H:=hid h
 clear h
 cases hf:As.failed st
 ·have R:=hid (show As.refuse e pos st={ st with fe:=e,fa:=pos,tok:=As.Tok.nil } by unfold As.refuse; rw [hf]; rfl)
  rw [hf] at cF
  clear hf
  have k2:=H.out.blk.free 2
  have k3:=H.out.blk.free 3
  have k4:=H.out.blk.free 4
  have k5:=H.out.blk.free 5
  have k6:=H.out.blk.free 6
  have k7:=H.out.blk.free 7
  have k8:=H.out.blk.free 8
  have c2:=asm_cell H.out 2
  have c3:=asm_cell H.out 3
  have c4:=asm_cell H.out 4
  have c5:=asm_cell H.out 5
  have c6:=asm_cell H.out 6
  have c7:=asm_cell H.out 7
  have c8:=asm_cell H.out 8
  simp only [asmCells,List.getElem?_toArray,List.getElem?_cons_succ,List.getElem?_cons_zero] at c2 c3 c4 c5 c6 c7 c8
  go_enter Tryz.func78,Tryz.ntmps78
  go_wp2_with fail
  refine cF.out.mono ?_
  rintro e w1 ⟨rfl,rfl⟩
  go_wp2
  go_end0
  rw [R.out]
  exact ⟨rfl,H.out.doesB.sets [(6,.int .i64 e),(7,.int .i64 pos),(8,.string ⟨#[]⟩),(2,.int .i64 0),(3,.int .i64 0),(4,.string ⟨#[]⟩),(5,.int .i64 0)] _ (by simp only [setsA,asmCells,List.foldl_cons,List.foldl_nil,List.setIfInBounds_toArray,List.set_cons_succ,List.set_cons_zero]; rfl) rfl (H.out.ok.tok' _ tokNil_ok _ _ he hp)⟩
 ·have R:=hid (show As.refuse e pos st=st by unfold As.refuse; rw [hf]; rfl)
  rw [hf] at cF
  clear hf
  go_enter Tryz.func78,Tryz.ntmps78
  go_wp2_with fail
  refine cF.out.mono ?_
  rintro e w1 ⟨rfl,rfl⟩
  go_wp2
  (try simp only [Exit.inBlock,Exit.then]); refine bodyPost_ret (results_none rfl _ _ _) rfl ?_
  rw [R.out]
  exact ⟨rfl,H.out.doesB⟩

end Go.Proofs.YtnfgdlkiialnnaaGreatDoor
