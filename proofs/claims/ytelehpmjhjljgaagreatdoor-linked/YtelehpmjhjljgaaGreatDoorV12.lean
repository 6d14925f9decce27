
import Derived.Test.YtelehpmjhjljgaaGreatDoorV11
set_option maxHeartbeats 16000000
set_option maxRecDepth 100000
namespace Go.Proofs.YtelehpmjhjljgaaGreatDoor
open Go.RowKit
theorem Ab (w:World) (l:List Value) (t:TypeId):∀ j u,l[j]?=some u->(w.alloc (.cells l.toArray t)).cell? ((⟨w.heap.size,0,none⟩:Addr).add j)=some u:=by
 intro j u hj
 have:=(ye.new w l.toArray t).cell (0+j)
 rw [show (⟨w.heap.size,0,none⟩:Addr).add j=⟨w.heap.size,0+j,none⟩ from by simp [Addr.add]; omega,this];simpa using hj
def lW (f:Nat->Int) (a:Nat):Nat->List Int
 | 0=>[]
 | k+1=>lW f a k ++ [((a+k:Nat):Int),f (a+k)]
theorem Kk (f:Nat->Int) (a k:Nat):(lW f a k).length=k * 2:=by
 induction k with
 | zero=>rfl
 | succ k ih=>simp [lW,ih]; omega
def fU (i:Nat):Int:=12+(i:Int)
def fI (i:Nat):Int:=20+(i:Int)
def fS (i:Nat):Int:=if 5<=i then 20+(i:Int) else 7+(i:Int)
def fJ (i:Nat):Int:=if i=11 then 20 else if 12<=i then (i:Int) else 20+(i:Int)
def yM (form:Int):List Int:=if form=1 then lW fU 0 20 else if form=2 then lW fJ 1 19 ++ [20,31] else if form=3 then lW fI 0 12 else if form=4 then lW fS 1 10 ++ [11,7,12,31] else if form=5 then lW fS 0 12 else []
theorem Ac {w wr w3:World} {v:Value} {n:Nat} {xs:List Value} {o:Obj} (HG:w.grownBy wr none) (hown:wr.ownsRow w.heap.size 3 1 v n xs) (hgrow:(wr.alloc o).grownBy w3 v.ownBlock):w.grownBy w3 none:=by
 have hsz:=HG.size;exact ⟨hgrow.os.trans HG.os,hgrow.tape.trans HG.tape,hgrow.output.trans HG.output,by have:=hgrow.size; simp at this; omega,fun i hi' _ =>
  (hgrow.block i (by simp; omega) (fun e=>by have:=(hown.lt i e.symm).1; omega)).trans ((Below.heap_alloc _ _ i (by omega)).trans (HG.block i hi' (by simp)))⟩
theorem ynH (w:World) :
  Calls Tryz.prog 115 #[.int .u8 85] w fun e w'=>∃ v,e = .returned v/\w'.ownsRow w.heap.size 3 1 v ((yM 1).length) ((yM 1).map (Value.int .i64))/\w.grownBy w' none:=by
 obtain ⟨i0,hi,hz0,hz1,hz2⟩:=info_parts Tryz.fP;have HX:=hid (fun k=>show lW fU 0 (k+1)=lW fU 0 k ++ [((0+k:Nat):Int),fU (0+k)] from rfl);have HL:=hid (show yM 1=lW fU 0 20 from rfl);go_enter Tryz.func115,Tryz.ntmps115;go_wp2
 go_loopw [3,4] (fun v i wr=>∃ k:Nat,k<=20/\i = .int .i64 ((0+k:Nat):Int)/\wr.ownsRow w.heap.size 3 1 v (k * 2) ((lW fU 0 k).map (Value.int .i64))/\w.grownBy wr none) (fun _ i _=>20 - (intOf i).toNat)
 case atStart=>exact ⟨0,Nat.zero_le _,rfl,World.ownsRow_nil _ _ _ _,World.grownBy.refl _ _⟩
 case round =>
  obtain ⟨k,hk,rfl,hown,hgr⟩:=hrel;have HG:=hid hgr;have hsz:=hgr.size;clear hgr;by_cases hlt:k < 20
  ·generalize hj:0+k=j at *;have HJ:=hid hj;have hj1:j < 20:=by omega
   have HF:=hid (show fU j=12+(j:Int) from rfl);clear hj;go_wp2_with (at_builtin; refine wpList_append_own _ rfl _ _ 35 rfl w.heap.size 3 i0 (.int .i64 0) 1 8 Tryz.underlying35 hi hz0 hz1 hz2 rfl (by decide) _ _ _ rfl (hown.alloc _) ⟨wr.heap.size,0,none⟩ 2 2 [.int .i64 (j:Int),.int .i64 (12+(j:Int))] rfl rfl (Ab _ _ _) (by intro u hu; simp at hu; first | (subst hu; rfl) | (rcases hu with hu | hu <;> (subst hu; rfl))) (by unfold maxLen; omega) (by omega) (by simp; omega) ?_; intro v' w3 hown' hgrow _)
   have G3:=hid (Ac HG.o hown hgrow);clear hgrow hown;go_wp2
   go_roundw
   case rel=>exact ⟨k+1,by omega,by have:=HJ.o; go_num,by rw [HX.o k,HJ.o,HF.o]; simpa [Nat.succ_mul] using hown',G3.o⟩
   case measure=>simp [intOf]; omega
  ·have ek:k=20:=by omega
   subst ek;go_wp2;go_ret;rw [HL.o];exact ⟨_,rfl,by simpa [Kk] using hown,HG.o⟩
theorem ynD (w:World) :
  Calls Tryz.prog 115 #[.int .u8 73] w fun e w'=>∃ v,e = .returned v/\w'.ownsRow w.heap.size 3 1 v ((yM 3).length) ((yM 3).map (Value.int .i64))/\w.grownBy w' none:=by
 obtain ⟨i0,hi,hz0,hz1,hz2⟩:=info_parts Tryz.fP;have HX:=hid (fun k=>show lW fI 0 (k+1)=lW fI 0 k ++ [((0+k:Nat):Int),fI (0+k)] from rfl);have HL:=hid (show yM 3=lW fI 0 12 from rfl);go_enter Tryz.func115,Tryz.ntmps115;go_wp2
 go_loopw [3,5] (fun v i wr=>∃ k:Nat,k<=12/\i = .int .i64 ((0+k:Nat):Int)/\wr.ownsRow w.heap.size 3 1 v (k * 2) ((lW fI 0 k).map (Value.int .i64))/\w.grownBy wr none) (fun _ i _=>12 - (intOf i).toNat)
 case atStart=>exact ⟨0,Nat.zero_le _,rfl,World.ownsRow_nil _ _ _ _,World.grownBy.refl _ _⟩
 case round =>
  obtain ⟨k,hk,rfl,hown,hgr⟩:=hrel;have HG:=hid hgr;have hsz:=hgr.size;clear hgr;by_cases hlt:k < 12
  ·generalize hj:0+k=j at *;have HJ:=hid hj;have hj1:j < 12:=by omega
   have HF:=hid (show fI j=20+(j:Int) from rfl);clear hj;go_wp2_with (at_builtin; refine wpList_append_own _ rfl _ _ 35 rfl w.heap.size 3 i0 (.int .i64 0) 1 8 Tryz.underlying35 hi hz0 hz1 hz2 rfl (by decide) _ _ _ rfl (hown.alloc _) ⟨wr.heap.size,0,none⟩ 2 2 [.int .i64 (j:Int),.int .i64 (20+(j:Int))] rfl rfl (Ab _ _ _) (by intro u hu; simp at hu; first | (subst hu; rfl) | (rcases hu with hu | hu <;> (subst hu; rfl))) (by unfold maxLen; omega) (by omega) (by simp; omega) ?_; intro v' w3 hown' hgrow _)
   have G3:=hid (Ac HG.o hown hgrow);clear hgrow hown;go_wp2
   go_roundw
   case rel=>exact ⟨k+1,by omega,by have:=HJ.o; go_num,by rw [HX.o k,HJ.o,HF.o]; simpa [Nat.succ_mul] using hown',G3.o⟩
   case measure=>simp [intOf]; omega
  ·have ek:k=12:=by omega
   subst ek;go_wp2;go_ret;rw [HL.o];exact ⟨_,rfl,by simpa [Kk] using hown,HG.o⟩
theorem ynG (w:World) :
  Calls Tryz.prog 115 #[.int .u8 83] w fun e w'=>∃ v,e = .returned v/\w'.ownsRow w.heap.size 3 1 v ((yM 5).length) ((yM 5).map (Value.int .i64))/\w.grownBy w' none:=by
 obtain ⟨i0,hi,hz0,hz1,hz2⟩:=info_parts Tryz.fP;have HX:=hid (fun k=>show lW fS 0 (k+1)=lW fS 0 k ++ [((0+k:Nat):Int),fS (0+k)] from rfl);have HL:=hid (show yM 5=lW fS 0 12 from rfl);go_enter Tryz.func115,Tryz.ntmps115;go_wp2
 go_loopw [3,6] (fun v i wr=>∃ k:Nat,k<=12/\i = .int .i64 ((0+k:Nat):Int)/\wr.ownsRow w.heap.size 3 1 v (k * 2) ((lW fS 0 k).map (Value.int .i64))/\w.grownBy wr none) (fun _ i _=>12 - (intOf i).toNat)
 case atStart=>exact ⟨0,Nat.zero_le _,rfl,World.ownsRow_nil _ _ _ _,World.grownBy.refl _ _⟩
 case round =>
  obtain ⟨k,hk,rfl,hown,hgr⟩:=hrel;have HG:=hid hgr;have hsz:=hgr.size;clear hgr;by_cases hlt:k < 12
  ·generalize hj:0+k=j at *;have HJ:=hid hj;have hj1:j < 12:=by omega
   rcases (show (j < 5)\/(5<=j) from by omega) with c1 | c1
   ·have HF:=hid (show fS j=7+(j:Int) from if_neg (by omega));clear hj;go_wp2_with (at_builtin; refine wpList_append_own _ rfl _ _ 35 rfl w.heap.size 3 i0 (.int .i64 0) 1 8 Tryz.underlying35 hi hz0 hz1 hz2 rfl (by decide) _ _ _ rfl (hown.alloc _) ⟨wr.heap.size,0,none⟩ 2 2 [.int .i64 (j:Int),.int .i64 (7+(j:Int))] rfl rfl (Ab _ _ _) (by intro u hu; simp at hu; first | (subst hu; rfl) | (rcases hu with hu | hu <;> (subst hu; rfl))) (by unfold maxLen; omega) (by omega) (by simp; omega) ?_; intro v' w3 hown' hgrow _)
    have G3:=hid (Ac HG.o hown hgrow);clear hgrow hown;go_wp2
    go_roundw
    case rel=>exact ⟨k+1,by omega,by have:=HJ.o; go_num,by rw [HX.o k,HJ.o,HF.o]; simpa [Nat.succ_mul] using hown',G3.o⟩
    case measure=>simp [intOf]; omega
   ·have HF:=hid (show fS j=20+(j:Int) from if_pos (by omega));clear hj;go_wp2_with (at_builtin; refine wpList_append_own _ rfl _ _ 35 rfl w.heap.size 3 i0 (.int .i64 0) 1 8 Tryz.underlying35 hi hz0 hz1 hz2 rfl (by decide) _ _ _ rfl (hown.alloc _) ⟨wr.heap.size,0,none⟩ 2 2 [.int .i64 (j:Int),.int .i64 (20+(j:Int))] rfl rfl (Ab _ _ _) (by intro u hu; simp at hu; first | (subst hu; rfl) | (rcases hu with hu | hu <;> (subst hu; rfl))) (by unfold maxLen; omega) (by omega) (by simp; omega) ?_; intro v' w3 hown' hgrow _)
    have G3:=hid (Ac HG.o hown hgrow);clear hgrow hown;go_wp2
    go_roundw
    case rel=>exact ⟨k+1,by omega,by have:=HJ.o; go_num,by rw [HX.o k,HJ.o,HF.o]; simpa [Nat.succ_mul] using hown',G3.o⟩
    case measure=>simp [intOf]; omega
  ·have ek:k=12:=by omega
   subst ek;go_wp2;go_ret;rw [HL.o];exact ⟨_,rfl,by simpa [Kk] using hown,HG.o⟩
theorem ynB (w:World) :
  Calls Tryz.prog 115 #[.int .u8 66] w fun e w'=>∃ v,e = .returned v/\w'.ownsRow w.heap.size 3 1 v ((yM 4).length) ((yM 4).map (Value.int .i64))/\w.grownBy w' none:=by
 obtain ⟨i0,hi,hz0,hz1,hz2⟩:=info_parts Tryz.fP;have HX:=hid (fun k=>show lW fS 1 (k+1)=lW fS 1 k ++ [((1+k:Nat):Int),fS (1+k)] from rfl);have HL:=hid (show yM 4=lW fS 1 10 ++ [11,7,12,31] from rfl);go_enter Tryz.func115,Tryz.ntmps115;go_wp2
 go_loopw [3,8] (fun v i wr=>∃ k:Nat,k<=10/\i = .int .i64 ((1+k:Nat):Int)/\wr.ownsRow w.heap.size 3 1 v (k * 2) ((lW fS 1 k).map (Value.int .i64))/\w.grownBy wr none) (fun _ i _=>11 - (intOf i).toNat)
 case atStart=>exact ⟨0,Nat.zero_le _,rfl,World.ownsRow_nil _ _ _ _,World.grownBy.refl _ _⟩
 case round =>
  obtain ⟨k,hk,rfl,hown,hgr⟩:=hrel;have HG:=hid hgr;have hsz:=hgr.size;clear hgr;by_cases hlt:k < 10
  ·generalize hj:1+k=j at *;have HJ:=hid hj;have hj1:j < 11:=by omega
   rcases (show (j < 5)\/(5<=j) from by omega) with c1 | c1
   ·have HF:=hid (show fS j=7+(j:Int) from if_neg (by omega));clear hj;go_wp2_with (at_builtin; refine wpList_append_own _ rfl _ _ 35 rfl w.heap.size 3 i0 (.int .i64 0) 1 8 Tryz.underlying35 hi hz0 hz1 hz2 rfl (by decide) _ _ _ rfl (hown.alloc _) ⟨wr.heap.size,0,none⟩ 2 2 [.int .i64 (j:Int),.int .i64 (7+(j:Int))] rfl rfl (Ab _ _ _) (by intro u hu; simp at hu; first | (subst hu; rfl) | (rcases hu with hu | hu <;> (subst hu; rfl))) (by unfold maxLen; omega) (by omega) (by simp; omega) ?_; intro v' w3 hown' hgrow _)
    have G3:=hid (Ac HG.o hown hgrow);clear hgrow hown;go_wp2
    go_roundw
    case rel=>exact ⟨k+1,by omega,by have:=HJ.o; go_num,by rw [HX.o k,HJ.o,HF.o]; simpa [Nat.succ_mul] using hown',G3.o⟩
    case measure=>simp [intOf]; omega
   ·have HF:=hid (show fS j=20+(j:Int) from if_pos (by omega));clear hj;go_wp2_with (at_builtin; refine wpList_append_own _ rfl _ _ 35 rfl w.heap.size 3 i0 (.int .i64 0) 1 8 Tryz.underlying35 hi hz0 hz1 hz2 rfl (by decide) _ _ _ rfl (hown.alloc _) ⟨wr.heap.size,0,none⟩ 2 2 [.int .i64 (j:Int),.int .i64 (20+(j:Int))] rfl rfl (Ab _ _ _) (by intro u hu; simp at hu; first | (subst hu; rfl) | (rcases hu with hu | hu <;> (subst hu; rfl))) (by unfold maxLen; omega) (by omega) (by simp; omega) ?_; intro v' w3 hown' hgrow _)
    have G3:=hid (Ac HG.o hown hgrow);clear hgrow hown;go_wp2
    go_roundw
    case rel=>exact ⟨k+1,by omega,by have:=HJ.o; go_num,by rw [HX.o k,HJ.o,HF.o]; simpa [Nat.succ_mul] using hown',G3.o⟩
    case measure=>simp [intOf]; omega
  ·have ek:k=10:=by omega
   subst ek;go_wp2_with (at_builtin; refine wpList_append_own _ rfl _ _ 35 rfl w.heap.size 3 i0 (.int .i64 0) 1 8 Tryz.underlying35 hi hz0 hz1 hz2 rfl (by decide) _ _ _ rfl (hown.alloc _) ⟨wr.heap.size,0,none⟩ 4 4 [.int .i64 11,.int .i64 7,.int .i64 12,.int .i64 31] rfl rfl (Ab _ _ _) (by intro u hu; simp at hu; first | (subst hu; rfl) | (rcases hu with hu | hu | hu | hu <;> (subst hu; rfl))) (by unfold maxLen; omega) (by omega) (by simp; omega) ?_; intro v' w3 hown' hgrow _)
   have G3:=hid (Ac HG.o hown hgrow);clear hgrow hown;go_wp2;go_ret;rw [HL.o];exact ⟨_,rfl,by simpa [Kk] using hown',G3.o⟩
theorem ynE (w:World) :
  Calls Tryz.prog 115 #[.int .u8 74] w fun e w'=>∃ v,e = .returned v/\w'.ownsRow w.heap.size 3 1 v ((yM 2).length) ((yM 2).map (Value.int .i64))/\w.grownBy w' none:=by
 obtain ⟨i0,hi,hz0,hz1,hz2⟩:=info_parts Tryz.fP;have HX:=hid (fun k=>show lW fJ 1 (k+1)=lW fJ 1 k ++ [((1+k:Nat):Int),fJ (1+k)] from rfl);have HL:=hid (show yM 2=lW fJ 1 19 ++ [20,31] from rfl);go_enter Tryz.func115,Tryz.ntmps115;go_wp2
 go_loopw [3,10] (fun v i wr=>∃ k:Nat,k<=19/\i = .int .i64 ((1+k:Nat):Int)/\wr.ownsRow w.heap.size 3 1 v (k * 2) ((lW fJ 1 k).map (Value.int .i64))/\w.grownBy wr none) (fun _ i _=>20 - (intOf i).toNat)
 case atStart=>exact ⟨0,Nat.zero_le _,rfl,World.ownsRow_nil _ _ _ _,World.grownBy.refl _ _⟩
 case round =>
  obtain ⟨k,hk,rfl,hown,hgr⟩:=hrel;have HG:=hid hgr;have hsz:=hgr.size;clear hgr;by_cases hlt:k < 19
  ·generalize hj:1+k=j at *;have HJ:=hid hj;have hj1:j < 20:=by omega
   rcases (show (j < 11)\/(11<=j/\j<=11)\/(12<=j) from by omega) with c1 | ⟨c1,c2⟩ | c1
   ·have HF:=hid (show fJ j=20+(j:Int) from by unfold fJ; rw [if_neg (by omega),if_neg (by omega)]);clear hj;go_wp2_with (at_builtin; refine wpList_append_own _ rfl _ _ 35 rfl w.heap.size 3 i0 (.int .i64 0) 1 8 Tryz.underlying35 hi hz0 hz1 hz2 rfl (by decide) _ _ _ rfl (hown.alloc _) ⟨wr.heap.size,0,none⟩ 2 2 [.int .i64 (j:Int),.int .i64 (20+(j:Int))] rfl rfl (Ab _ _ _) (by intro u hu; simp at hu; first | (subst hu; rfl) | (rcases hu with hu | hu <;> (subst hu; rfl))) (by unfold maxLen; omega) (by omega) (by simp; omega) ?_; intro v' w3 hown' hgrow _)
    have G3:=hid (Ac HG.o hown hgrow);clear hgrow hown;go_wp2
    go_roundw
    case rel=>exact ⟨k+1,by omega,by have:=HJ.o; go_num,by rw [HX.o k,HJ.o,HF.o]; simpa [Nat.succ_mul] using hown',G3.o⟩
    case measure=>simp [intOf]; omega
   ·have HF:=hid (show fJ j=20 from if_pos (by omega));clear hj;go_wp2_with (at_builtin; refine wpList_append_own _ rfl _ _ 35 rfl w.heap.size 3 i0 (.int .i64 0) 1 8 Tryz.underlying35 hi hz0 hz1 hz2 rfl (by decide) _ _ _ rfl (hown.alloc _) ⟨wr.heap.size,0,none⟩ 2 2 [.int .i64 (j:Int),.int .i64 (20)] rfl rfl (Ab _ _ _) (by intro u hu; simp at hu; first | (subst hu; rfl) | (rcases hu with hu | hu <;> (subst hu; rfl))) (by unfold maxLen; omega) (by omega) (by simp; omega) ?_; intro v' w3 hown' hgrow _)
    have G3:=hid (Ac HG.o hown hgrow);clear hgrow hown;go_wp2
    go_roundw
    case rel=>exact ⟨k+1,by omega,by have:=HJ.o; go_num,by rw [HX.o k,HJ.o,HF.o]; simpa [Nat.succ_mul] using hown',G3.o⟩
    case measure=>simp [intOf]; omega
   ·have HF:=hid (show fJ j=(j:Int) from by unfold fJ; rw [if_neg (by omega),if_pos (by omega)]);clear hj;go_wp2_with (at_builtin; refine wpList_append_own _ rfl _ _ 35 rfl w.heap.size 3 i0 (.int .i64 0) 1 8 Tryz.underlying35 hi hz0 hz1 hz2 rfl (by decide) _ _ _ rfl (hown.alloc _) ⟨wr.heap.size,0,none⟩ 2 2 [.int .i64 (j:Int),.int .i64 ((j:Int))] rfl rfl (Ab _ _ _) (by intro u hu; simp at hu; first | (subst hu; rfl) | (rcases hu with hu | hu <;> (subst hu; rfl))) (by unfold maxLen; omega) (by omega) (by simp; omega) ?_; intro v' w3 hown' hgrow _)
    have G3:=hid (Ac HG.o hown hgrow);clear hgrow hown;go_wp2
    go_roundw
    case rel=>exact ⟨k+1,by omega,by have:=HJ.o; go_num,by rw [HX.o k,HJ.o,HF.o]; simpa [Nat.succ_mul] using hown',G3.o⟩
    case measure=>simp [intOf]; omega
  ·have ek:k=19:=by omega
   subst ek;go_wp2_with (at_builtin; refine wpList_append_own _ rfl _ _ 35 rfl w.heap.size 3 i0 (.int .i64 0) 1 8 Tryz.underlying35 hi hz0 hz1 hz2 rfl (by decide) _ _ _ rfl (hown.alloc _) ⟨wr.heap.size,0,none⟩ 2 2 [.int .i64 20,.int .i64 31] rfl rfl (Ab _ _ _) (by intro u hu; simp at hu; first | (subst hu; rfl) | (rcases hu with hu | hu <;> (subst hu; rfl))) (by unfold maxLen; omega) (by omega) (by simp; omega) ?_; intro v' w3 hown' hgrow _)
   have G3:=hid (Ac HG.o hown hgrow);clear hgrow hown;go_wp2;go_ret;rw [HL.o];exact ⟨_,rfl,by simpa [Kk] using hown',G3.o⟩
theorem ynF (w:World) :
  Calls Tryz.prog 115 #[.int .u8 82] w fun e w'=>∃ v,e = .returned v/\w'.ownsRow w.heap.size 3 1 v ((yM 6).length) ((yM 6).map (Value.int .i64))/\w.grownBy w' none:=by
 go_enter Tryz.func115,Tryz.ntmps115;go_wp2;go_ret;exact ⟨_,rfl,World.ownsRow_nil _ _ _ _,World.grownBy.refl _ _⟩
theorem ynC (w:World) :
  Calls Tryz.prog 115 #[.int .u8 69] w fun e w'=>∃ v,e = .returned v/\w'.ownsRow w.heap.size 3 1 v ((yM 7).length) ((yM 7).map (Value.int .i64))/\w.grownBy w' none:=by
 go_enter Tryz.func115,Tryz.ntmps115;go_wp2;go_ret;exact ⟨_,rfl,World.ownsRow_nil _ _ _ _,World.grownBy.refl _ _⟩
theorem Ye (form:Int) (w:World) (hf:1<=form/\form<=7) :
  Calls Tryz.prog 115 #[.int .u8 (oZ form)] w fun e w'=>∃ v,e = .returned v/\w'.ownsRow w.heap.size 3 1 v ((yM form).length) ((yM form).map (Value.int .i64))/\w.grownBy w' none:=by
 rcases (show form=1\/form=2\/form=3\/form=4\/form=5\/form=6\/form=7 from by omega) with rfl | rfl | rfl | rfl | rfl | rfl | rfl
 ·exact ynH w
 ·exact ynE w
 ·exact ynD w
 ·exact ynB w
 ·exact ynG w
 ·exact ynF w
 ·exact ynC w
theorem yhF (N a m:Nat):(∀ i,i < m->N / 2 ^ (a+i) % 2=0)↔N / 2 ^ a % 2 ^ m=0:=by
 induction m with
 | zero=>simp [Nat.mod_one]
 | succ m ih =>
  have e:N / 2 ^ a % 2 ^ (m+1)=N / 2 ^ a % 2 ^ m+2 ^ m * (N / 2 ^ (a+m) % 2):=by
   rw [Nat.pow_succ,Nat.mod_mul,Nat.div_div_eq_div_mul,<- Nat.pow_add]
  have hp:0 < 2 ^ m:=Nat.two_pow_pos m;constructor
  ·intro h;rw [e,ih.1 (fun i hi=>h i (by omega)),h m (by omega)];simp
  ·intro h i hi;rw [e] at h;have h1:N / 2 ^ a % 2 ^ m=0:=by omega
   have h2:2 ^ m * (N / 2 ^ (a+m) % 2)=0:=by omega
   rcases (Nat.lt_succ_iff_lt_or_eq.1 hi) with hi | rfl
   ·exact ih.2 h1 i hi
   ·rcases Nat.mul_eq_zero.1 h2 with h | h
    ·omega
    ·exact h
theorem Q9 (n:Int) (h0:0<=n) (a m:Nat):(∀ i,i < m->n / 2 ^ (a+i) % 2=0)↔n / 2 ^ a % 2 ^ m=0:=by
 obtain ⟨N,rfl⟩:=Int.eq_ofNat_of_zero_le h0;have e:=yhF N a m;have c:∀ k:Nat,((N:Int) / 2 ^ k)=((N / 2 ^ k:Nat):Int):=fun k=>by simp
 constructor
 ·intro h
  have:=e.1 (fun i hi=>by have:=h i hi; rw [c] at this; omega)
  rw [c,show (2:Int) ^ m=((2 ^ m:Nat):Int) from by simp,<- Int.natCast_emod,this];rfl
 ·intro h i hi;rw [c,show (2:Int) ^ m=((2 ^ m:Nat):Int) from by simp,<- Int.natCast_emod] at h
  have:=e.2 (by omega) i hi
  rw [c];omega
def je (form:Int) (a:Nat):Nat:=((yM form).getD (a * 2+1) 0).toNat
def ji (form:Int) (a:Nat):Nat:=((yM form).getD (a * 2) 0).toNat
def kE (form:Int):Nat:=(yM form).length / 2
def ER (form n:Int) (k:Nat):Prop:=∀ a,a < k->n / 2 ^ je form a % 2=0
theorem Ry (form n:Int) (h0:0<=n) (k a m:Nat) (hk:kE form=k) (h1:∀ i,i < m->∃ x∈List.range k,je form x=a+i) (h2:∀ x,x < k->∃ i∈List.range m,je form x=a+i):ER form n (kE form)↔n / 2 ^ a % 2 ^ m=0:=by
 rw [<- Q9 n h0 a m,hk];constructor
 ·intro h i hi;obtain ⟨x,hx,e⟩:=h1 i hi;rw [<- e];exact h x (List.mem_range.1 hx)
 ·intro h x hx;obtain ⟨i,hi,e⟩:=h2 x hx;rw [e];exact h i (List.mem_range.1 hi)
theorem Yg (form n:Int) (h0:0<=n) (k a m b l:Nat) (hk:kE form=k) (h1:∀ i,i < m->∃ x∈List.range k,je form x=a+i) (h1':∀ i,i < l->∃ x∈List.range k,je form x=b+i) (h2:∀ x,x < k->(∃ i∈List.range m,je form x=a+i)\/∃ i∈List.range l,je form x=b+i):ER form n (kE form)↔n / 2 ^ a % 2 ^ m=0/\n / 2 ^ b % 2 ^ l=0:=by
 rw [<- Q9 n h0 a m,<- Q9 n h0 b l,hk];constructor
 ·intro h;refine ⟨fun i hi=>?_,fun i hi=>?_⟩
  ·obtain ⟨x,hx,e⟩:=h1 i hi;rw [<- e];exact h x (List.mem_range.1 hx)
  ·obtain ⟨x,hx,e⟩:=h1' i hi;rw [<- e];exact h x (List.mem_range.1 hx)
 ·rintro ⟨h,h'⟩ x hx;rcases h2 x hx with ⟨i,hi,e⟩ | ⟨i,hi,e⟩
  ·rw [e];exact h i (List.mem_range.1 hi)
  ·rw [e];exact h' i (List.mem_range.1 hi)
theorem ypT (form n:Int) (h0:0<=n) (h1:n<=4294967295) (hf:1<=form/\form<=7):ER form n (kE form)↔yk form n:=by
 rcases (show form=1\/form=2\/form=3\/form=4\/form=5\/form=6\/form=7 from by omega) with rfl | rfl | rfl | rfl | rfl | rfl | rfl
 ·rw [Ry 1 n h0 20 12 20 (by decide) (by decide) (by decide)];simp [yk]; omega
 ·rw [Ry 2 n h0 20 12 20 (by decide) (by decide) (by decide)];simp [yk]; omega
 ·rw [Ry 3 n h0 12 20 12 (by decide) (by decide) (by decide)];simp [yk]; omega
 ·rw [Yg 4 n h0 12 7 5 25 7 (by decide) (by decide) (by decide) (by decide)];simp [yk]; omega
 ·rw [Yg 5 n h0 12 7 5 25 7 (by decide) (by decide) (by decide) (by decide)];simp [yk]; omega
 ·simp [ER,kE,yM,yk]
 ·simp [ER,kE,yM,yk]
theorem Q8 (form:Int) (hf:1<=form/\form<=7):(yM form).length=kE form * 2/\kE form<=20/\∀ a,a < kE form->(yM form).getD (a * 2) 0=(ji form a:Int)/\(yM form).getD (a * 2+1) 0=(je form a:Int)/\ji form a < qV form/\je form a<=31:=by
 rcases (show form=1\/form=2\/form=3\/form=4\/form=5\/form=6\/form=7 from by omega) with rfl | rfl | rfl | rfl | rfl | rfl | rfl <;> decide
theorem ypS (form n v:Int) (K a:Nat) (hK:K<=21) (hp:ji form a < K) (hv0:0<=v) (hv1:v < 2 ^ K) (hv:v=0↔ER form n a) :
  ∀ x,x=bits .or .i64 v (n / 2 ^ je form a % 2 * 2 ^ ji form a)->0<=x/\x < 2 ^ K/\(x=0↔ER form n (a+1)):=by
 rintro x rfl;have hb:n / 2 ^ je form a % 2=0\/n / 2 ^ je form a % 2=1:=by omega
 have hpos:(0:Int) < 2 ^ ji form a:=Int.pow_pos (by decide);have hle:(2:Int) ^ ji form a < 2 ^ K:=Int.pow_lt_pow_of_lt (by decide) hp;have hK2:(2:Int) ^ K<=2097152:=by
  have:=Nat.pow_le_pow_right (show 0 < 2 by decide) hK
  rw [show (2:Int) ^ K=((2 ^ K:Nat):Int) from by simp];omega
 have hy:0<=n / 2 ^ je form a % 2 * 2 ^ ji form a/\n / 2 ^ je form a % 2 * 2 ^ ji form a < 2 ^ K/\(n / 2 ^ je form a % 2 * 2 ^ ji form a=0↔n / 2 ^ je form a % 2=0):=by
  rcases hb with hb | hb <;> rw [hb] <;> simp <;> omega
 have z:=or_zero v (n / 2 ^ je form a % 2 * 2 ^ ji form a) hv0 (by omega) hy.1 (by omega);refine ⟨z.1,Dc _ _ K (by omega) hv0 hv1 hy.1 hy.2.1,?_⟩;rw [z.2,hy.2.2,hv];constructor
 ·rintro ⟨h1,h2⟩ i hi;rcases (Nat.lt_succ_iff_lt_or_eq.1 hi) with hi | rfl
  ·exact h1 i hi
  ·exact h2
 ·intro h;exact ⟨fun i hi=>h i (by omega),h a (by omega)⟩
def Gn (k:Nat) (w:World) (b:Nat):Prop:=w.cell? ⟨b,k * 5+1,none⟩=some (.int .i64 ((k:Int)+1))/\w.cell? ⟨b,k * 5+2,none⟩=some (.int .i64 (xu.getD (k+1) 0))/\w.cell? ⟨b,k * 5+3,none⟩=some (.int .i64 (xw (mR.getD (k+1) 0)))/\w.cell? ⟨b,k * 5+4,none⟩=some (.int .u8 (oZ (mR.getD (k+1) 0)))
theorem Ro (w:World) :
  Calls Tryz.prog 114 #[] w fun e w'=>e = .returned (.slice (some ⟨w.heap.size,0,none⟩) 25 25)/\(∀ k,k < 25->Gn k w' w.heap.size)/\w.heap.size < w'.heap.size/\w.grownBy w' none:=by
 have G:=hid (fun o:Obj=>aH w o none);go_enter Tryz.func114,Tryz.ntmps114;go_wp2;go_ret;refine ⟨rfl,fun k hk=>?_,by simp,G.o _⟩;refine ⟨((ye.new w _ _).cell _).trans ?_,((ye.new w _ _).cell _).trans ?_,((ye.new w _ _).cell _).trans ?_,((ye.new w _ _).cell _).trans ?_⟩
 all_goals
  clear G;rcases (show k=0\/k=1\/k=2\/k=3\/k=4\/k=5\/k=6\/k=7\/k=8\/k=9\/k=10\/k=11\/k=12\/k=13\/k=14\/k=15\/k=16\/k=17\/k=18\/k=19\/k=20\/k=21\/k=22\/k=23\/k=24 from by omega) with rfl | rfl | rfl | rfl | rfl | rfl | rfl | rfl | rfl | rfl | rfl | rfl | rfl | rfl | rfl | rfl | rfl | rfl | rfl | rfl | rfl | rfl | rfl | rfl | rfl <;> rfl
def dR (op rd dP fq m fb:Int):Value:=.agg #[.int .i64 op,.int .i64 rd,.int .i64 dP,.int .i64 fq,.int .i64 m,.int .u8 fb]
def ypo (e:Ending) (n:Int):Prop:=∃ op rd dP fq m fb ok,e = .returned (.tuple #[dR op rd dP fq m fb,.bool ok])/\Dec n op rd dP m/\(ok=true↔op≠0)/\(fb=66↔(5<=op/\op<=10))
theorem Gn.grown {k:Nat} {w w':World} {b:Nat} (h:Gn k w b) (hg:w.grownBy w' none):Gn k w' b:=⟨yc h.1 hg,yc h.2.1 hg,yc h.2.2.1 hg,yc h.2.2.2 hg⟩
theorem ypl (b:Int) (p:Nat) (h0:0<=b) (h1:b<=1) (hp:p<=20):wrap64 (b * 2 ^ p)=b * 2 ^ p:=by
 have:(2:Int) ^ p<=1048576:=by
  have:=Nat.pow_le_pow_right (show 0 < 2 by decide) hp
  rw [show (2:Int) ^ p=((2 ^ p:Nat):Int) from by simp];omega
 have h2:(0:Int) < 2 ^ p:=Int.pow_pos (by decide);rcases (show b=0\/b=1 from by omega) with rfl | rfl
 ·rw [Int.zero_mul]; exact IntWalk.wrap64_in _ ⟨by omega,by omega⟩
 ·exact IntWalk.wrap64_in _ ⟨by omega,by omega⟩
theorem yli {w W:World} {X:Nat} (h:w.grownBy W (some X)) (o:Nat) (v:Value):w.grownBy (W.setCell ⟨X,o,none⟩ v) (some X) :=
 ⟨h.os,h.tape,h.output,by simpa [World.setCell] using h.size,fun i hi hne=>(Below.heap_setCell W ⟨X,o,none⟩ v i (by simp at hne ⊢; omega)).trans (h.block i hi hne)⟩
theorem Gj (v:Int) (j:Nat) (m:Int) (hm:m=(j:Int)) (w:World) (hv:0<=v) (hv':v<=4294967295) (hj:j<=31) :
  Calls Tryz.prog 116 #[.int .i64 v,.int .i64 m] w fun e w'=>e = .returned (.int .i64 (v / 2 ^ j % 2))/\w'=w:=by
 subst hm; exact Zj v j w hv hv' hj
theorem yP {W:World} {R X:Nat} {cs:Array Value} {t:TypeId} (h:ye W R cs t) (hne:X≠R) (o:Nat) (v:Value):ye (W.setCell ⟨X,o,none⟩ v) R cs t:=(Below.heap_setCell W ⟨X,o,none⟩ v R (by simp; omega)).trans h
theorem lK {w W:World} {a0 a1 a2 a3 a4 a5:Value} (h:w.grownBy W none) (hB:ye W w.heap.size #[a0,a1,a2,a3,a4,a5] 167) (b0 b1 b2 b3 b4 b5:Value) :
  ye ((((((W.setCell ⟨w.heap.size,0,none⟩ b0).setCell ⟨w.heap.size,1,none⟩ b1).setCell ⟨w.heap.size,2,none⟩ b2).setCell ⟨w.heap.size,3,none⟩ b3).setCell ⟨w.heap.size,4,none⟩ b4).setCell ⟨w.heap.size,5,none⟩ b5) w.heap.size #[b0,b1,b2,b3,b4,b5] 167 /\
  w.grownBy ((((((W.setCell ⟨w.heap.size,0,none⟩ b0).setCell ⟨w.heap.size,1,none⟩ b1).setCell ⟨w.heap.size,2,none⟩ b2).setCell ⟨w.heap.size,3,none⟩ b3).setCell ⟨w.heap.size,4,none⟩ b4).setCell ⟨w.heap.size,5,none⟩ b5) none :=
 ⟨(((((hB.set 0 b0).set 1 b1).set 2 b2).set 3 b3).set 4 b4).set 5 b5,yB (yB (yB (yB (yB (yB h (Nat.le_refl _) _ _) (Nat.le_refl _) _ _) (Nat.le_refl _) _ _) (Nat.le_refl _) _ _) (Nat.le_refl _) _ _) (Nat.le_refl _) _ _⟩
theorem ypU (k:Nat) (hk:k < 25) (f:Int) (hf:mR.getD (k+1) 0=f):f=4↔(5<=(k:Int)+1/\(k:Int)+1<=10):=by
 have:∀ k,k < 25->(mR.getD (k+1) 0=4↔(4<=k/\k<=9)):=by decide
 rw [<- hf,this k hk];omega
theorem ye.drew {w:World} {g:Nat} {cs:Array Value} {t:TypeId} (h:ye w g cs t):ye w.drew g cs t:=h.drewN 1
theorem Nq (form:Int) (hf:1<=form/\form<=7):qV form<=21:=by
 rcases (show form=1\/form=2\/form=3\/form=4\/form=5\/form=6\/form=7 from by omega) with rfl | rfl | rfl | rfl | rfl | rfl | rfl <;> decide
def xO (form n:Int):Nat->Int
 | 0=>0
 | a+1=>xO form n a+n / 2 ^ je form a % 2 * 2 ^ ji form a
def kC (n:Int) (a p:Nat) (acc:Int):Nat->Int
 | 0=>acc
 | m+1=>kC n a p acc m+n / 2 ^ (a+m) % 2 * 2 ^ (p+m)
theorem yms (N a m:Nat):N / 2 ^ a % 2 ^ (m+1)=N / 2 ^ a % 2 ^ m+2 ^ m * (N / 2 ^ (a+m) % 2):=by
 rw [Nat.pow_succ,Nat.mod_mul,Nat.div_div_eq_div_mul,<- Nat.pow_add]
theorem ymh (n:Int) (h0:0<=n) (a m:Nat):n / 2 ^ a % 2 ^ (m+1)=n / 2 ^ a % 2 ^ m+n / 2 ^ (a+m) % 2 * 2 ^ m:=by
 obtain ⟨N,rfl⟩:=Int.eq_ofNat_of_zero_le h0;have e:=yms N a m;rw [Nat.mul_comm] at e
 exact_mod_cast e
theorem xU (n:Int) (h0:0<=n) (a p:Nat) (acc:Int) (m:Nat):kC n a p acc m=acc+n / 2 ^ a % 2 ^ m * 2 ^ p:=by
 induction m with
 | zero=>simp [kC,Int.emod_one]
 | succ m ih =>
  rw [kC,ih,ymh n h0 a m,Int.add_mul,Int.add_assoc,Int.mul_assoc,<- Int.pow_add,Nat.add_comm m p]
def sH (form n:Int):Int:=if form=1 then n / 4096 % 1048576 else if form=2 then Mc.v2 n else if form=3 then n / 1048576 % 4096 else if form=4 then Mc.v4 n else if form=5 then Mc.v5 n else 0
theorem yow (form n:Int) (h0:0<=n) (hf:1<=form/\form<=7):xO form n (kE form)=sH form n:=by
 rcases (show form=1\/form=2\/form=3\/form=4\/form=5\/form=6\/form=7 from by omega) with rfl | rfl | rfl | rfl | rfl | rfl | rfl
 ·show kC n 12 0 0 20=n / 4096 % 1048576;rw [xU n h0]; simp only [Int.reducePow]; omega
 ·show kC n 31 20 (kC n 12 12 (kC n 20 11 (kC n 21 1 0 10) 1) 8) 1=Mc.v2 n;rw [xU n h0,xU n h0,xU n h0,xU n h0]; unfold Mc.v2; simp only [Int.reducePow]; omega
 ·show kC n 20 0 0 12=n / 1048576 % 4096;rw [xU n h0]; simp only [Int.reducePow]; omega
 ·show kC n 31 12 (kC n 7 11 (kC n 25 5 (kC n 8 1 0 4) 6) 1) 1=Mc.v4 n;rw [xU n h0,xU n h0,xU n h0,xU n h0]; unfold Mc.v4; simp only [Int.reducePow]; omega
 ·show kC n 25 5 (kC n 7 0 0 5) 7=Mc.v5 n;rw [xU n h0,xU n h0]; unfold Mc.v5; simp only [Int.reducePow]; omega
 ·rfl
 ·rfl
theorem Y4 (form:Int) (hf:1<=form/\form<=7):∀ c,c < kE form->∀ a,a < c->ji form a < ji form c:=by
 rcases (show form=1\/form=2\/form=3\/form=4\/form=5\/form=6\/form=7 from by omega) with rfl | rfl | rfl | rfl | rfl | rfl | rfl <;> decide
theorem Zn (a b:Nat) (h:a<=b):(2:Int) ^ a<=2 ^ b:=by
 have:=Nat.pow_le_pow_right (show 0 < 2 by decide) h
 exact_mod_cast this
theorem Yv (form n:Int) (hf:1<=form/\form<=7):∀ a,a<=kE form->0<=xO form n a/\∀ K:Nat,(∀ i,i < a->ji form i < K)->xO form n a < 2 ^ K:=by
 intro a
 induction a with
 | zero=>intro _; exact ⟨Int.le_refl _,fun K _=>Int.pow_pos (by decide)⟩
 | succ a ih =>
  intro ha;obtain ⟨i0,i1⟩:=ih (by omega);have hlt:=i1 (ji form a) (fun i hi=>Y4 form hf a (by omega) i hi);have hb:n / 2 ^ je form a % 2=0\/n / 2 ^ je form a % 2=1:=by omega
  have hpos:(0:Int) < 2 ^ ji form a:=Int.pow_pos (by decide);have hs:(2:Int) ^ (ji form a+1)=2 ^ ji form a * 2:=Int.pow_succ _ _;refine ⟨?_,fun K hK=>?_⟩
  ·rw [xO]; rcases hb with hb | hb <;> rw [hb] <;> omega
  ·have hk:=Zn (ji form a+1) K (hK a (by omega));rw [xO]; rcases hb with hb | hb <;> rw [hb] <;> omega
theorem ymA (a b:Int):bits .or .i64 a b=bits .or .i64 b a:=by
 show IntKind.i64.wrap ((BitVec.ofInt 64 a ||| BitVec.ofInt 64 b).toNat:Nat)=IntKind.i64.wrap ((BitVec.ofInt 64 b ||| BitVec.ofInt 64 a).toNat:Nat);rw [BitVec.or_comm]
theorem ynw (form n:Int) (a:Nat) (hf:1<=form/\form<=7) (ha:a < kE form):bits .or .i64 (xO form n a) (n / 2 ^ je form a % 2 * 2 ^ ji form a)=xO form n (a+1):=by
 obtain ⟨i0,i1⟩:=Yv form n hf a (by omega);have hlt:=i1 (ji form a) (fun i hi=>Y4 form hf a ha i hi);have hb:n / 2 ^ je form a % 2=0\/n / 2 ^ je form a % 2=1:=by omega
 have hpos:(0:Int) < 2 ^ ji form a:=Int.pow_pos (by decide);obtain ⟨-,-,L⟩:=Q8 form hf;obtain ⟨-,-,hw,-⟩:=L a ha;have hw2:=Nq form hf;have hp2:=Zn (ji form a) 20 (by omega);simp only [Int.reducePow] at hp2;rw [ymA,Da _ _ (ji form a) (by rcases hb with hb | hb <;> rw [hb] <;> omega) (by rcases hb with hb | hb <;> rw [hb] <;> omega) (by rcases hb with hb | hb <;> rw [hb] <;> simp) i0 hlt (by omega),xO,Int.add_comm]
theorem Zt (n v:Int) (e:v=sH 2 n) (h0:0<=v) (h1:v < 2097152):(v / 2 ^ 20 % 2=1->Mc.fA 2 n=v - 2097152)/\(¬ v / 2 ^ 20 % 2=1->Mc.fA 2 n=v):=by
 have e':v=Mc.v2 n:=e;unfold Mc.fA;rw [if_neg (by decide),if_pos rfl,<- e'];simp only [Int.reducePow];exact ⟨fun h=>if_neg (by omega),fun h=>if_pos (by omega)⟩
theorem Zu (n v:Int) (e:v=sH 3 n) (h0:0<=v) (h1:v < 4096):(v / 2 ^ 11 % 2=1->Mc.fA 3 n=v - 4096)/\(¬ v / 2 ^ 11 % 2=1->Mc.fA 3 n=v):=by
 have e':v=n / 1048576 % 4096:=e;unfold Mc.fA;rw [if_neg (by decide),if_neg (by decide),if_pos rfl,<- e'];simp only [Int.reducePow];exact ⟨fun h=>if_neg (by omega),fun h=>if_pos (by omega)⟩
theorem Zv (n v:Int) (e:v=sH 4 n) (h0:0<=v) (h1:v < 8192):(v / 2 ^ 12 % 2=1->Mc.fA 4 n=v - 8192)/\(¬ v / 2 ^ 12 % 2=1->Mc.fA 4 n=v):=by
 have e':v=Mc.v4 n:=e;unfold Mc.fA;rw [if_neg (by decide),if_neg (by decide),if_neg (by decide),if_pos rfl,<- e'];simp only [Int.reducePow];exact ⟨fun h=>if_neg (by omega),fun h=>if_pos (by omega)⟩
theorem Zw (n v:Int) (e:v=sH 5 n) (h0:0<=v) (h1:v < 4096):(v / 2 ^ 11 % 2=1->Mc.fA 5 n=v - 4096)/\(¬ v / 2 ^ 11 % 2=1->Mc.fA 5 n=v):=by
 have e':v=Mc.v5 n:=e;unfold Mc.fA;rw [if_neg (by decide),if_neg (by decide),if_neg (by decide),if_neg (by decide),if_pos rfl,<- e'];simp only [Int.reducePow];exact ⟨fun h=>if_neg (by omega),fun h=>if_pos (by omega)⟩
theorem Zx (n v:Int) (e:v=sH 6 n) (h0:0<=v) (h1:v < 4096):(v / 2 ^ 11 % 2=1->Mc.fA 6 n=v - 4096)/\(¬ v / 2 ^ 11 % 2=1->Mc.fA 6 n=v):=by
 have e':v=0:=e;subst e';exact ⟨fun h=>absurd h (by decide),fun _=>rfl⟩
theorem Zy (n v:Int) (e:v=sH 7 n) (h0:0<=v) (h1:v < 4096):(v / 2 ^ 11 % 2=1->Mc.fA 7 n=v - 4096)/\(¬ v / 2 ^ 11 % 2=1->Mc.fA 7 n=v):=by
 have e':v=0:=e;subst e';exact ⟨fun h=>absurd h (by decide),fun _=>rfl⟩
def Jr (form:Int):Int:=if form=0 then 0 else oZ form
def FK (n:Int):Value:=.tuple #[dR (Mc.jq n) (eY (Mc.aI n) n) (bE (Mc.aI n) n) (iQ (Mc.aI n) n) (Mc.fA (Mc.aI n) n) (Jr (Mc.aI n)),.bool (decide (Mc.jq n≠0))]
theorem ypj (n:Int) (k:Nat) (f:Int) (hk:k < 25) (hI:Is (k+1) n) (hall:∀ j,1<=j->j < k+1->¬ Is j n) (hF:mR.getD (k+1) 0=f) (hfr:1<=f/\f<=7) :
  ∀ x1 x2 x3 x4 fb,eY f n=x1->bE f n=x2->iQ f n=x3->Mc.fA f n=x4->oZ f=fb->Ending.returned (.tuple #[dR ((k:Int)+1) x1 x2 x3 x4 fb,.bool true]) = .returned (FK n):=by
 rintro _ _ _ _ _ rfl rfl rfl rfl rfl;have OP:=Mc.qL n (k+1) (by omega) (by omega) hI hall;have FO:Mc.aI n=f:=by unfold Mc.aI; rw [OP]; exact hF
 unfold FK;rw [OP,FO];unfold Jr;rw [if_neg (by omega)]
 congr 3
theorem R6 (n:Int) (w:World) (h0:0<=n) (h1:n<=4294967295) :
  Calls Tryz.prog 92 #[.int .i64 n] w fun e w'=>e = .returned (FK n)/\w.grownBy w' none:=by
 have G:=hid (fun o:Obj=>aH w o none);have cT:=hid Ro;go_enter Tryz.func92,Tryz.ntmps92;go_wp2_with fail;refine (cT.o _).mono ?_;rintro e w1 ⟨rfl,htab,hlt,hg1⟩;have BR:=hid (((ye.new w _ _).grown hg1 (by simp)):ye w1 w.heap.size #[.int .i64 0,.int .i64 0,.int .i64 0,.int .i64 0,.int .i64 0,.int .u8 0] 167);have G1:=hid (ya (G.o _) hg1);generalize (w.alloc _).heap.size=TB at *;have Ak:=hid htab;clear htab hg1 hlt;go_wp2
 go_loopw [5] (fun i wr=>∃ k:Nat,k<=25/\i = .int .i64 k/\(∀ j,1<=j->j < k+1->¬ Is j n)/\w1.grownBy wr none) (fun i _=>25 - (intOf i).toNat)
 case atStart=>exact ⟨0,Nat.zero_le _,rfl,fun j h1 h2=>by omega,World.grownBy.refl _ _⟩
 case round =>
  obtain ⟨k,hk1,rfl,hall,hgr⟩:=hrel;have HA:=hid hall;have HG:=hid hgr;clear hall hgr;by_cases hlt:k < 25
  ·obtain ⟨q1,q2,q3,q4⟩:=(Ak.o k hlt).grown HG.o;have hfr:=Ke (k+1) (by omega) (by omega);have Cw:=hid (show Is (k+1) n↔bits .and .i64 n (xw (mR.getD (k+1) 0))=xu.getD (k+1) 0 from Iff.rfl);generalize hF:mR.getD (k+1) 0=f at *;generalize xu.getD (k+1) 0=x at *;have HF:=hid hF;clear hF;have g2:(k:Int) < 25:=by omega
   by_cases hI:Is (k+1) n
   ·have d:(bits .and .i64 n (xw f) == x)=true:=beq_iff_eq.2 (Cw.o.1 hI);have HI:=hid hI;clear hI;go_wp2
    go_quiet (fail)
    have T2:=(Ak.o k hlt).grown (yd HG.o nq);unfold Gn at T2;rw [HF.o] at T2;have HG2:=hid (yd HG.o nq);clear q1 q2 q3 q4;generalize wr.drewN nq=w2 at *;obtain ⟨q1,-,-,q4⟩:=T2;have cP:=hid (fun W=>Ye f W hfr);go_wp2_with fail;refine (cP.o _).mono ?_;rintro e w3 ⟨v,rfl,hown,hg3⟩;obtain ⟨ao,cap,rfl⟩:=yj hown;have BX:=hid (((ye.new w2 _ _).grown hg3 (by simp)):ye w3 w2.heap.size #[.int .i64 ((k:Int)+1),.int .i64 0,.int .i64 0,.int .i64 0,.int .i64 0,.int .u8 (oZ f)] 167);have G3:=hid (ya (ya HG2.o (aH _ _ _)) hg3);have II:=hid (ym.aB hown);have Ah:=hid (show ∀ g off,ao=some ⟨g,off,none⟩->w2.heap.size < g from fun g off h=>by subst h; have:=(hown.lt g rfl).1; simp at this; omega)
    have hcap:=yZ hown;have hXs:=hid (ya G1.o HG2.o).size;obtain ⟨L1,L2,L3⟩:=Q8 f hfr;rw [L1] at hcap;have HL:=hid L3;have Eh:=BX.o.lt;clear hown hg3 L3 q1 q4;have hcap1:=hcap.1;have hcap2:=hcap.2;unfold maxLen at hcap2;clear hcap;rw [L1];have qD:=hid L1;clear L1;generalize hX:w2.heap.size=X at *;have HX:=hid hX;clear hX;go_wp2
    go_loopw [9] (fun i wr=>∃ a:Nat,∃ v:Int,a<=kE f/\i = .int .i64 ((a * 2:Nat):Int)/\0<=v/\v < 2 ^ qV f/\v=xO f n a/\ye wr X #[.int .i64 ((k:Int)+1),.int .i64 0,.int .i64 0,.int .i64 0,.int .i64 v,.int .u8 (oZ f)] 167/\w3.grownBy wr (some X)) (fun i _=>kE f * 2 - (intOf i).toNat)
    case atStart=>exact ⟨0,0,Nat.zero_le _,rfl,by omega,Int.pow_pos (by decide),rfl,BX.o,World.grownBy.refl _ _⟩
    case round =>
     obtain ⟨a,v,ha,rfl,hv0,hv1,hv2,hbx,hgr⟩:=hrel;have Uk:=hid hv2;have pV:=hid hbx;have zf:=hid hgr;clear hv2 hbx hgr;by_cases hla:a < kE f
     ·obtain ⟨e1,e2,e3,e4⟩:=HL.o a hla;obtain ⟨g',off',hao,hcell⟩:=II.o (by have:=qD.o; omega);have hne:=Ah.o g' off' hao;subst hao;have s1:a * 2 < (yM f).length:=by have:=qD.o; omega
      have s2:a * 2+1 < (yM f).length:=by have:=qD.o; omega
      have c1:=zf.o.cell (hcell (a * 2) s1) (by simp; omega);have c2:=zf.o.cell (hcell (a * 2+1) s2) (by simp; omega);rw [show (yM f)[a * 2]=(ji f a:Int) from by rw [<- e1,iJ,gy s1]; rfl] at c1;rw [show (yM f)[a * 2+1]=(je f a:Int) from by rw [<- e2,iJ,gy s2]; rfl] at c2;have b4:=pV.o.cell 4;have b4f:=pV.o.free 4;have hXg:X≠g':=by omega
      have cB:=hid (fun W=>Zj n (je f a) W h0 h1 e4);have Px:=Nq f hfr;have STEP:=hid (show ∀ x,x=bits .or .i64 v (n / 2 ^ je f a % 2 * 2 ^ ji f a)->0<=x/\x < 2 ^ qV f/\x=xO f n (a+1) from fun x hx=>by
       have hx2:x=xO f n (a+1):=by rw [hx,Uk.o]; exact ynw f n a hfr hla
       obtain ⟨r0,r1⟩:=Yv f n hfr (a+1) (by omega);rw [hx2];exact ⟨r0,r1 _ (fun i hi=>(HL.o i (by omega)).2.2.1),rfl⟩)
      clear hcell e1 e2 s1 s2;generalize hbb:n / 2 ^ je f a % 2=b at *;have hb0:0<=b:=by omega
      have hb1:b<=1:=by omega
      clear hbb;generalize je f a=q at *;generalize ji f a=p at *;have g3:(a * 2:Int) < (kE f * 2:Int):=by omega
      have g4:((a * 2:Nat):Int)+1 < ((kE f * 2:Nat):Int):=by omega
      have g5:p<=20:=by omega
      go_wp2_with fail;refine (cB.o _).mono ?_;rintro e w4 ⟨rfl,rfl⟩;go_wp2
      go_region
      go_wp2;have F:=STEP.o _ rfl;have es:=ypl b p hb0 hb1 g5;rw [es];refine ⟨⟨a+1,bits .or .i64 v (b * 2 ^ p),by omega,by go_num,F.1,F.2.1,F.2.2,(pV.o.set 4 _).drewN 1,yd (yli zf.o 4 _) 1⟩,?_⟩;simp [intOf]; omega
     ·have ea:a=kE f:=by omega
      have vW:=hid (show v=sH f n from by rw [Uk.o,ea]; exact yow f n h0 hfr);have OX:=hid (ypj n k f hlt HI.o HA.o HF.o hfr);have cW:=hid (fun W=>ynW f W hfr);have Px:=Nq f hfr;subst ea;go_wp2_with fail;refine (cW.o _).mono ?_;rintro e w4 ⟨rfl,rfl⟩;have hXlt:=pV.o.lt;have Jv:w.heap.size < X:=by have h1:=BR.o.lt; have h2:=HG2.o.size; have h3:=HX.o; omega
      have bZ:=hid ((((BR.o.grown G3.o (by simp)).grown zf.o (by simp; omega))):ye w4 w.heap.size #[.int .i64 0,.int .i64 0,.int .i64 0,.int .i64 0,.int .i64 0,.int .u8 0] 167);have GW:=hid (Aa (ya G1.o G3.o) zf.o (by omega));have x0:=pV.o.cell 0;have x1:=pV.o.cell 1;have x2:=pV.o.cell 2;have x3:=pV.o.cell 3;have x4:=pV.o.cell 4;have y1:=pV.o.free 1;have y2:=pV.o.free 2;have y3:=pV.o.free 3;have y4:=pV.o.free 4;have z0:=bZ.o.cell 0;have z1:=bZ.o.cell 1;have z2:=bZ.o.cell 2;have z3:=bZ.o.cell 3;have z4:=bZ.o.cell 4;have z5:=bZ.o.cell 5;have t0:=bZ.o.free 0;have t1:=bZ.o.free 1;have t2:=bZ.o.free 2
      have t3:=bZ.o.free 3;have t4:=bZ.o.free 4;have t5:=bZ.o.free 5;have hne:X≠w.heap.size:=by omega
      rcases (show f=1\/f=2\/f=3\/f=4\/f=5\/f=6\/f=7 from by omega) with rfl | rfl | rfl | rfl | rfl | rfl | rfl
      ·rw [show oZ 1=85 from rfl,show qV 1=20 from rfl];have x5:w4.cell? ⟨X,5,none⟩=some (.int .u8 85):=pV.o.cell 5;go_wp2;have F:=lK (W:=(w4.setCell ⟨X,1,none⟩ (.int .i64 (bits .and .i64 (n / 128) 31)))) (yB GW.o (by omega) _ _) (yP bZ.o hne _ _) (.int .i64 ((k:Int)+1)) (.int .i64 (bits .and .i64 (n / 128) 31)) (.int .i64 0) (.int .i64 0) (.int .i64 v) (.int .u8 85);have e0:=(F.1).cell 0;have e1:=(F.1).cell 1;have e2:=(F.1).cell 2;have e3:=(F.1).cell 3;have e4:=(F.1).cell 4;have e5:=(F.1).cell 5;refine bodyPost_ret (v:=.tuple #[dR ((k:Int)+1) (bits .and .i64 (n / 128) 31) 0 0 v 85,.bool true]) ?_ rfl ⟨OX.o _ _ _ _ _ rfl rfl rfl vW.o.symm rfl,F.2⟩
       clear F x0 x1 x2 x3 x4 x5 y1 y2 y3 y4 z0 z1 z2 z3 z4 z5 t0 t1 t2 t3 t4 t5;simp [results,Tryz.results92,go_sem,dR,e0,e1,e2,e3,e4,e5]
      ·rw [show oZ 2=74 from rfl,show qV 2=21 from rfl];have x5:w4.cell? ⟨X,5,none⟩=some (.int .u8 74):=pV.o.cell 5;rw [show qV 2=21 from rfl] at hv1;simp only [Int.reducePow] at hv1;have cB:=hid (fun W=>Gj v 20 20 rfl W hv0 (by omega) (by decide));by_cases hsb:v / 2 ^ 20 % 2=1
       ·have d1:(v / 2 ^ 20 % 2 == 1)=true:=beq_iff_eq.2 hsb;have HN:=hid ((Zt n v vW.o hv0 hv1).1 hsb);clear hsb;generalize v / 2 ^ 20 % 2=sb at *;go_wp2_with fail;refine (cB.o _).mono ?_;rintro e w5 ⟨rfl,rfl⟩;go_wp2
        go_region
        go_wp2;have F:=lK (W:=((w5.setCell ⟨X,4,none⟩ (.int .i64 (v - 2097152))).setCell ⟨X,1,none⟩ (.int .i64 (bits .and .i64 (n / 128) 31)))) (yB (yB GW.o (by omega) _ _) (by omega) _ _) (yP (yP bZ.o hne _ _) hne _ _) (.int .i64 ((k:Int)+1)) (.int .i64 (bits .and .i64 (n / 128) 31)) (.int .i64 0) (.int .i64 0) (.int .i64 (v - 2097152)) (.int .u8 74);have e0:=(ye.drew F.1).cell 0;have e1:=(ye.drew F.1).cell 1;have e2:=(ye.drew F.1).cell 2;have e3:=(ye.drew F.1).cell 3;have e4:=(ye.drew F.1).cell 4;have e5:=(ye.drew F.1).cell 5;refine bodyPost_ret (v:=.tuple #[dR ((k:Int)+1) (bits .and .i64 (n / 128) 31) 0 0 (v - 2097152) 74,.bool true]) ?_ rfl ⟨OX.o _ _ _ _ _ rfl rfl rfl HN.o rfl,(yf F.2)⟩
        clear F x0 x1 x2 x3 x4 x5 y1 y2 y3 y4 z0 z1 z2 z3 z4 z5 t0 t1 t2 t3 t4 t5;generalize World.drew _=WF at *;simp [results,Tryz.results92,go_sem,dR,e0,e1,e2,e3,e4,e5]
       ·have d1:(v / 2 ^ 20 % 2 == 1)=false:=beq_eq_false_iff_ne.2 hsb;have HN:=hid ((Zt n v vW.o hv0 hv1).2 hsb);clear hsb;generalize v / 2 ^ 20 % 2=sb at *;go_wp2_with fail;refine (cB.o _).mono ?_;rintro e w5 ⟨rfl,rfl⟩;go_wp2;have F:=lK (W:=(w5.setCell ⟨X,1,none⟩ (.int .i64 (bits .and .i64 (n / 128) 31)))) (yB GW.o (by omega) _ _) (yP bZ.o hne _ _) (.int .i64 ((k:Int)+1)) (.int .i64 (bits .and .i64 (n / 128) 31)) (.int .i64 0) (.int .i64 0) (.int .i64 v) (.int .u8 74);have e0:=(F.1).cell 0;have e1:=(F.1).cell 1;have e2:=(F.1).cell 2;have e3:=(F.1).cell 3;have e4:=(F.1).cell 4;have e5:=(F.1).cell 5
        refine bodyPost_ret (v:=.tuple #[dR ((k:Int)+1) (bits .and .i64 (n / 128) 31) 0 0 v 74,.bool true]) ?_ rfl ⟨OX.o _ _ _ _ _ rfl rfl rfl HN.o rfl,F.2⟩;clear F x0 x1 x2 x3 x4 x5 y1 y2 y3 y4 z0 z1 z2 z3 z4 z5 t0 t1 t2 t3 t4 t5;simp [results,Tryz.results92,go_sem,dR,e0,e1,e2,e3,e4,e5]
      ·rw [show oZ 3=73 from rfl,show qV 3=12 from rfl];have x5:w4.cell? ⟨X,5,none⟩=some (.int .u8 73):=pV.o.cell 5;rw [show qV 3=12 from rfl] at hv1;simp only [Int.reducePow] at hv1;have cB:=hid (fun W=>Gj v 11 11 rfl W hv0 (by omega) (by decide));by_cases hsb:v / 2 ^ 11 % 2=1
       ·have d1:(v / 2 ^ 11 % 2 == 1)=true:=beq_iff_eq.2 hsb;have HN:=hid ((Zu n v vW.o hv0 hv1).1 hsb);clear hsb;generalize v / 2 ^ 11 % 2=sb at *;go_wp2_with fail;refine (cB.o _).mono ?_;rintro e w5 ⟨rfl,rfl⟩;go_wp2
        go_region
        go_wp2;have F:=lK (W:=(((w5.setCell ⟨X,4,none⟩ (.int .i64 (v - 4096))).setCell ⟨X,1,none⟩ (.int .i64 (bits .and .i64 (n / 128) 31))).setCell ⟨X,2,none⟩ (.int .i64 (bits .and .i64 (n / 32768) 31)))) (yB (yB (yB GW.o (by omega) _ _) (by omega) _ _) (by omega) _ _) (yP (yP (yP bZ.o hne _ _) hne _ _) hne _ _) (.int .i64 ((k:Int)+1)) (.int .i64 (bits .and .i64 (n / 128) 31)) (.int .i64 (bits .and .i64 (n / 32768) 31)) (.int .i64 0) (.int .i64 (v - 4096)) (.int .u8 73);have e0:=(ye.drew F.1).cell 0;have e1:=(ye.drew F.1).cell 1;have e2:=(ye.drew F.1).cell 2;have e3:=(ye.drew F.1).cell 3;have e4:=(ye.drew F.1).cell 4
        have e5:=(ye.drew F.1).cell 5;refine bodyPost_ret (v:=.tuple #[dR ((k:Int)+1) (bits .and .i64 (n / 128) 31) (bits .and .i64 (n / 32768) 31) 0 (v - 4096) 73,.bool true]) ?_ rfl ⟨OX.o _ _ _ _ _ rfl rfl rfl HN.o rfl,(yf F.2)⟩;clear F x0 x1 x2 x3 x4 x5 y1 y2 y3 y4 z0 z1 z2 z3 z4 z5 t0 t1 t2 t3 t4 t5;generalize World.drew _=WF at *;simp [results,Tryz.results92,go_sem,dR,e0,e1,e2,e3,e4,e5]
       ·have d1:(v / 2 ^ 11 % 2 == 1)=false:=beq_eq_false_iff_ne.2 hsb;have HN:=hid ((Zu n v vW.o hv0 hv1).2 hsb);clear hsb;generalize v / 2 ^ 11 % 2=sb at *;go_wp2_with fail;refine (cB.o _).mono ?_;rintro e w5 ⟨rfl,rfl⟩;go_wp2;have F:=lK (W:=((w5.setCell ⟨X,1,none⟩ (.int .i64 (bits .and .i64 (n / 128) 31))).setCell ⟨X,2,none⟩ (.int .i64 (bits .and .i64 (n / 32768) 31)))) (yB (yB GW.o (by omega) _ _) (by omega) _ _) (yP (yP bZ.o hne _ _) hne _ _) (.int .i64 ((k:Int)+1)) (.int .i64 (bits .and .i64 (n / 128) 31)) (.int .i64 (bits .and .i64 (n / 32768) 31)) (.int .i64 0) (.int .i64 v) (.int .u8 73)
        have e0:=(F.1).cell 0;have e1:=(F.1).cell 1;have e2:=(F.1).cell 2;have e3:=(F.1).cell 3;have e4:=(F.1).cell 4;have e5:=(F.1).cell 5;refine bodyPost_ret (v:=.tuple #[dR ((k:Int)+1) (bits .and .i64 (n / 128) 31) (bits .and .i64 (n / 32768) 31) 0 v 73,.bool true]) ?_ rfl ⟨OX.o _ _ _ _ _ rfl rfl rfl HN.o rfl,F.2⟩;clear F x0 x1 x2 x3 x4 x5 y1 y2 y3 y4 z0 z1 z2 z3 z4 z5 t0 t1 t2 t3 t4 t5;simp [results,Tryz.results92,go_sem,dR,e0,e1,e2,e3,e4,e5]
      ·rw [show oZ 4=66 from rfl,show qV 4=13 from rfl];have x5:w4.cell? ⟨X,5,none⟩=some (.int .u8 66):=pV.o.cell 5;rw [show qV 4=13 from rfl] at hv1;simp only [Int.reducePow] at hv1;have cB:=hid (fun W=>Gj v 12 12 rfl W hv0 (by omega) (by decide));by_cases hsb:v / 2 ^ 12 % 2=1
       ·have d1:(v / 2 ^ 12 % 2 == 1)=true:=beq_iff_eq.2 hsb;have HN:=hid ((Zv n v vW.o hv0 hv1).1 hsb);clear hsb;generalize v / 2 ^ 12 % 2=sb at *;go_wp2_with fail;refine (cB.o _).mono ?_;rintro e w5 ⟨rfl,rfl⟩;go_wp2
        go_region
        go_wp2;have F:=lK (W:=(((w5.setCell ⟨X,4,none⟩ (.int .i64 (v - 8192))).setCell ⟨X,2,none⟩ (.int .i64 (bits .and .i64 (n / 32768) 31))).setCell ⟨X,3,none⟩ (.int .i64 (bits .and .i64 (n / 1048576) 31)))) (yB (yB (yB GW.o (by omega) _ _) (by omega) _ _) (by omega) _ _) (yP (yP (yP bZ.o hne _ _) hne _ _) hne _ _) (.int .i64 ((k:Int)+1)) (.int .i64 0) (.int .i64 (bits .and .i64 (n / 32768) 31)) (.int .i64 (bits .and .i64 (n / 1048576) 31)) (.int .i64 (v - 8192)) (.int .u8 66);have e0:=(ye.drew F.1).cell 0;have e1:=(ye.drew F.1).cell 1;have e2:=(ye.drew F.1).cell 2;have e3:=(ye.drew F.1).cell 3
        have e4:=(ye.drew F.1).cell 4;have e5:=(ye.drew F.1).cell 5;refine bodyPost_ret (v:=.tuple #[dR ((k:Int)+1) 0 (bits .and .i64 (n / 32768) 31) (bits .and .i64 (n / 1048576) 31) (v - 8192) 66,.bool true]) ?_ rfl ⟨OX.o _ _ _ _ _ rfl rfl rfl HN.o rfl,(yf F.2)⟩;clear F x0 x1 x2 x3 x4 x5 y1 y2 y3 y4 z0 z1 z2 z3 z4 z5 t0 t1 t2 t3 t4 t5;generalize World.drew _=WF at *;simp [results,Tryz.results92,go_sem,dR,e0,e1,e2,e3,e4,e5]
       ·have d1:(v / 2 ^ 12 % 2 == 1)=false:=beq_eq_false_iff_ne.2 hsb;have HN:=hid ((Zv n v vW.o hv0 hv1).2 hsb);clear hsb;generalize v / 2 ^ 12 % 2=sb at *;go_wp2_with fail;refine (cB.o _).mono ?_;rintro e w5 ⟨rfl,rfl⟩;go_wp2;have F:=lK (W:=((w5.setCell ⟨X,2,none⟩ (.int .i64 (bits .and .i64 (n / 32768) 31))).setCell ⟨X,3,none⟩ (.int .i64 (bits .and .i64 (n / 1048576) 31)))) (yB (yB GW.o (by omega) _ _) (by omega) _ _) (yP (yP bZ.o hne _ _) hne _ _) (.int .i64 ((k:Int)+1)) (.int .i64 0) (.int .i64 (bits .and .i64 (n / 32768) 31)) (.int .i64 (bits .and .i64 (n / 1048576) 31)) (.int .i64 v) (.int .u8 66)
        have e0:=(F.1).cell 0;have e1:=(F.1).cell 1;have e2:=(F.1).cell 2;have e3:=(F.1).cell 3;have e4:=(F.1).cell 4;have e5:=(F.1).cell 5;refine bodyPost_ret (v:=.tuple #[dR ((k:Int)+1) 0 (bits .and .i64 (n / 32768) 31) (bits .and .i64 (n / 1048576) 31) v 66,.bool true]) ?_ rfl ⟨OX.o _ _ _ _ _ rfl rfl rfl HN.o rfl,F.2⟩;clear F x0 x1 x2 x3 x4 x5 y1 y2 y3 y4 z0 z1 z2 z3 z4 z5 t0 t1 t2 t3 t4 t5;simp [results,Tryz.results92,go_sem,dR,e0,e1,e2,e3,e4,e5]
      ·rw [show oZ 5=83 from rfl,show qV 5=12 from rfl];have x5:w4.cell? ⟨X,5,none⟩=some (.int .u8 83):=pV.o.cell 5;rw [show qV 5=12 from rfl] at hv1;simp only [Int.reducePow] at hv1;have cB:=hid (fun W=>Gj v 11 11 rfl W hv0 (by omega) (by decide));by_cases hsb:v / 2 ^ 11 % 2=1
       ·have d1:(v / 2 ^ 11 % 2 == 1)=true:=beq_iff_eq.2 hsb;have HN:=hid ((Zw n v vW.o hv0 hv1).1 hsb);clear hsb;generalize v / 2 ^ 11 % 2=sb at *;go_wp2_with fail;refine (cB.o _).mono ?_;rintro e w5 ⟨rfl,rfl⟩;go_wp2
        go_region
        go_wp2;have F:=lK (W:=(((w5.setCell ⟨X,4,none⟩ (.int .i64 (v - 4096))).setCell ⟨X,2,none⟩ (.int .i64 (bits .and .i64 (n / 32768) 31))).setCell ⟨X,3,none⟩ (.int .i64 (bits .and .i64 (n / 1048576) 31)))) (yB (yB (yB GW.o (by omega) _ _) (by omega) _ _) (by omega) _ _) (yP (yP (yP bZ.o hne _ _) hne _ _) hne _ _) (.int .i64 ((k:Int)+1)) (.int .i64 0) (.int .i64 (bits .and .i64 (n / 32768) 31)) (.int .i64 (bits .and .i64 (n / 1048576) 31)) (.int .i64 (v - 4096)) (.int .u8 83);have e0:=(ye.drew F.1).cell 0;have e1:=(ye.drew F.1).cell 1;have e2:=(ye.drew F.1).cell 2;have e3:=(ye.drew F.1).cell 3
        have e4:=(ye.drew F.1).cell 4;have e5:=(ye.drew F.1).cell 5;refine bodyPost_ret (v:=.tuple #[dR ((k:Int)+1) 0 (bits .and .i64 (n / 32768) 31) (bits .and .i64 (n / 1048576) 31) (v - 4096) 83,.bool true]) ?_ rfl ⟨OX.o _ _ _ _ _ rfl rfl rfl HN.o rfl,(yf F.2)⟩;clear F x0 x1 x2 x3 x4 x5 y1 y2 y3 y4 z0 z1 z2 z3 z4 z5 t0 t1 t2 t3 t4 t5;generalize World.drew _=WF at *;simp [results,Tryz.results92,go_sem,dR,e0,e1,e2,e3,e4,e5]
       ·have d1:(v / 2 ^ 11 % 2 == 1)=false:=beq_eq_false_iff_ne.2 hsb;have HN:=hid ((Zw n v vW.o hv0 hv1).2 hsb);clear hsb;generalize v / 2 ^ 11 % 2=sb at *;go_wp2_with fail;refine (cB.o _).mono ?_;rintro e w5 ⟨rfl,rfl⟩;go_wp2;have F:=lK (W:=((w5.setCell ⟨X,2,none⟩ (.int .i64 (bits .and .i64 (n / 32768) 31))).setCell ⟨X,3,none⟩ (.int .i64 (bits .and .i64 (n / 1048576) 31)))) (yB (yB GW.o (by omega) _ _) (by omega) _ _) (yP (yP bZ.o hne _ _) hne _ _) (.int .i64 ((k:Int)+1)) (.int .i64 0) (.int .i64 (bits .and .i64 (n / 32768) 31)) (.int .i64 (bits .and .i64 (n / 1048576) 31)) (.int .i64 v) (.int .u8 83)
        have e0:=(F.1).cell 0;have e1:=(F.1).cell 1;have e2:=(F.1).cell 2;have e3:=(F.1).cell 3;have e4:=(F.1).cell 4;have e5:=(F.1).cell 5;refine bodyPost_ret (v:=.tuple #[dR ((k:Int)+1) 0 (bits .and .i64 (n / 32768) 31) (bits .and .i64 (n / 1048576) 31) v 83,.bool true]) ?_ rfl ⟨OX.o _ _ _ _ _ rfl rfl rfl HN.o rfl,F.2⟩;clear F x0 x1 x2 x3 x4 x5 y1 y2 y3 y4 z0 z1 z2 z3 z4 z5 t0 t1 t2 t3 t4 t5;simp [results,Tryz.results92,go_sem,dR,e0,e1,e2,e3,e4,e5]
      ·rw [show oZ 6=82 from rfl,show qV 6=12 from rfl];have x5:w4.cell? ⟨X,5,none⟩=some (.int .u8 82):=pV.o.cell 5;rw [show qV 6=12 from rfl] at hv1;simp only [Int.reducePow] at hv1;have cB:=hid (fun W=>Gj v 11 11 rfl W hv0 (by omega) (by decide));by_cases hsb:v / 2 ^ 11 % 2=1
       ·have d1:(v / 2 ^ 11 % 2 == 1)=true:=beq_iff_eq.2 hsb;have HN:=hid ((Zx n v vW.o hv0 hv1).1 hsb);clear hsb;generalize v / 2 ^ 11 % 2=sb at *;go_wp2_with fail;refine (cB.o _).mono ?_;rintro e w5 ⟨rfl,rfl⟩;go_wp2
        go_region
        go_wp2;have F:=lK (W:=((((w5.setCell ⟨X,4,none⟩ (.int .i64 (v - 4096))).setCell ⟨X,1,none⟩ (.int .i64 (bits .and .i64 (n / 128) 31))).setCell ⟨X,2,none⟩ (.int .i64 (bits .and .i64 (n / 32768) 31))).setCell ⟨X,3,none⟩ (.int .i64 (bits .and .i64 (n / 1048576) 31)))) (yB (yB (yB (yB GW.o (by omega) _ _) (by omega) _ _) (by omega) _ _) (by omega) _ _) (yP (yP (yP (yP bZ.o hne _ _) hne _ _) hne _ _) hne _ _) (.int .i64 ((k:Int)+1)) (.int .i64 (bits .and .i64 (n / 128) 31)) (.int .i64 (bits .and .i64 (n / 32768) 31)) (.int .i64 (bits .and .i64 (n / 1048576) 31)) (.int .i64 (v - 4096)) (.int .u8 82)
        have e0:=(ye.drew F.1).cell 0;have e1:=(ye.drew F.1).cell 1;have e2:=(ye.drew F.1).cell 2;have e3:=(ye.drew F.1).cell 3;have e4:=(ye.drew F.1).cell 4;have e5:=(ye.drew F.1).cell 5;refine bodyPost_ret (v:=.tuple #[dR ((k:Int)+1) (bits .and .i64 (n / 128) 31) (bits .and .i64 (n / 32768) 31) (bits .and .i64 (n / 1048576) 31) (v - 4096) 82,.bool true]) ?_ rfl ⟨OX.o _ _ _ _ _ rfl rfl rfl HN.o rfl,(yf F.2)⟩;clear F x0 x1 x2 x3 x4 x5 y1 y2 y3 y4 z0 z1 z2 z3 z4 z5 t0 t1 t2 t3 t4 t5;generalize World.drew _=WF at *;simp [results,Tryz.results92,go_sem,dR,e0,e1,e2,e3,e4,e5]
       ·have d1:(v / 2 ^ 11 % 2 == 1)=false:=beq_eq_false_iff_ne.2 hsb;have HN:=hid ((Zx n v vW.o hv0 hv1).2 hsb);clear hsb;generalize v / 2 ^ 11 % 2=sb at *;go_wp2_with fail;refine (cB.o _).mono ?_;rintro e w5 ⟨rfl,rfl⟩;go_wp2;have F:=lK (W:=(((w5.setCell ⟨X,1,none⟩ (.int .i64 (bits .and .i64 (n / 128) 31))).setCell ⟨X,2,none⟩ (.int .i64 (bits .and .i64 (n / 32768) 31))).setCell ⟨X,3,none⟩ (.int .i64 (bits .and .i64 (n / 1048576) 31)))) (yB (yB (yB GW.o (by omega) _ _) (by omega) _ _) (by omega) _ _) (yP (yP (yP bZ.o hne _ _) hne _ _) hne _ _) (.int .i64 ((k:Int)+1)) (.int .i64 (bits .and .i64 (n / 128) 31)) (.int .i64 (bits .and .i64 (n / 32768) 31)) (.int .i64 (bits .and .i64 (n / 1048576) 31)) (.int .i64 v) (.int .u8 82)
        have e0:=(F.1).cell 0;have e1:=(F.1).cell 1;have e2:=(F.1).cell 2;have e3:=(F.1).cell 3;have e4:=(F.1).cell 4;have e5:=(F.1).cell 5;refine bodyPost_ret (v:=.tuple #[dR ((k:Int)+1) (bits .and .i64 (n / 128) 31) (bits .and .i64 (n / 32768) 31) (bits .and .i64 (n / 1048576) 31) v 82,.bool true]) ?_ rfl ⟨OX.o _ _ _ _ _ rfl rfl rfl HN.o rfl,F.2⟩;clear F x0 x1 x2 x3 x4 x5 y1 y2 y3 y4 z0 z1 z2 z3 z4 z5 t0 t1 t2 t3 t4 t5;simp [results,Tryz.results92,go_sem,dR,e0,e1,e2,e3,e4,e5]
      ·rw [show oZ 7=69 from rfl,show qV 7=12 from rfl];have x5:w4.cell? ⟨X,5,none⟩=some (.int .u8 69):=pV.o.cell 5;rw [show qV 7=12 from rfl] at hv1;simp only [Int.reducePow] at hv1;have cB:=hid (fun W=>Gj v 11 11 rfl W hv0 (by omega) (by decide));by_cases hsb:v / 2 ^ 11 % 2=1
       ·have d1:(v / 2 ^ 11 % 2 == 1)=true:=beq_iff_eq.2 hsb;have HN:=hid ((Zy n v vW.o hv0 hv1).1 hsb);clear hsb;generalize v / 2 ^ 11 % 2=sb at *;go_wp2_with fail;refine (cB.o _).mono ?_;rintro e w5 ⟨rfl,rfl⟩;go_wp2
        go_region
        go_wp2;have F:=lK (W:=(w5.setCell ⟨X,4,none⟩ (.int .i64 (v - 4096)))) (yB GW.o (by omega) _ _) (yP bZ.o hne _ _) (.int .i64 ((k:Int)+1)) (.int .i64 0) (.int .i64 0) (.int .i64 0) (.int .i64 (v - 4096)) (.int .u8 69);have e0:=(ye.drew F.1).cell 0;have e1:=(ye.drew F.1).cell 1;have e2:=(ye.drew F.1).cell 2;have e3:=(ye.drew F.1).cell 3;have e4:=(ye.drew F.1).cell 4;have e5:=(ye.drew F.1).cell 5;refine bodyPost_ret (v:=.tuple #[dR ((k:Int)+1) 0 0 0 (v - 4096) 69,.bool true]) ?_ rfl ⟨OX.o _ _ _ _ _ rfl rfl rfl HN.o rfl,(yf F.2)⟩;clear F x0 x1 x2 x3 x4 x5 y1 y2 y3 y4 z0 z1 z2 z3 z4 z5 t0 t1 t2 t3 t4 t5
        generalize World.drew _=WF at *;simp [results,Tryz.results92,go_sem,dR,e0,e1,e2,e3,e4,e5]
       ·have d1:(v / 2 ^ 11 % 2 == 1)=false:=beq_eq_false_iff_ne.2 hsb;have HN:=hid ((Zy n v vW.o hv0 hv1).2 hsb);clear hsb;generalize v / 2 ^ 11 % 2=sb at *;go_wp2_with fail;refine (cB.o _).mono ?_;rintro e w5 ⟨rfl,rfl⟩;go_wp2;have F:=lK (W:=w5) GW.o bZ.o (.int .i64 ((k:Int)+1)) (.int .i64 0) (.int .i64 0) (.int .i64 0) (.int .i64 v) (.int .u8 69);have e0:=(F.1).cell 0;have e1:=(F.1).cell 1;have e2:=(F.1).cell 2;have e3:=(F.1).cell 3;have e4:=(F.1).cell 4;have e5:=(F.1).cell 5;refine bodyPost_ret (v:=.tuple #[dR ((k:Int)+1) 0 0 0 v 69,.bool true]) ?_ rfl ⟨OX.o _ _ _ _ _ rfl rfl rfl HN.o rfl,F.2⟩
        clear F x0 x1 x2 x3 x4 x5 y1 y2 y3 y4 z0 z1 z2 z3 z4 z5 t0 t1 t2 t3 t4 t5;simp [results,Tryz.results92,go_sem,dR,e0,e1,e2,e3,e4,e5]
   ·have d:(bits .and .i64 n (xw f) == x)=false:=beq_eq_false_iff_ne.2 (fun h=>hI (Cw.o.2 h));have HI:=hid hI;clear hI;go_wp2
    go_quiet (fail)
    go_wp2
    go_roundw
    case rel=>exact ⟨k+1,by omega,by go_num,fun j hj hjk=>(Nat.lt_succ_iff_lt_or_eq.1 hjk).elim (fun h=>HA.o j hj h) (fun h=>by subst h; exact HI.o),yd HG.o _⟩
    case measure=>simp [intOf]; omega
  ·have z0:=(BR.o.grown HG.o (by simp)).cell 0;have z1:=(BR.o.grown HG.o (by simp)).cell 1;have z2:=(BR.o.grown HG.o (by simp)).cell 2;have z3:=(BR.o.grown HG.o (by simp)).cell 3;have z4:=(BR.o.grown HG.o (by simp)).cell 4;have z5:=(BR.o.grown HG.o (by simp)).cell 5;have t0:=(BR.o.grown HG.o (by simp)).free 0;have t1:=(BR.o.grown HG.o (by simp)).free 1;have t2:=(BR.o.grown HG.o (by simp)).free 2;have t3:=(BR.o.grown HG.o (by simp)).free 3;have t4:=(BR.o.grown HG.o (by simp)).free 4;have t5:=(BR.o.grown HG.o (by simp)).free 5;go_wp2;have F:=lK (W:=wr) (ya G1.o HG.o) (BR.o.grown HG.o (by simp)) (.int .i64 0) (.int .i64 0) (.int .i64 0) (.int .i64 0) (.int .i64 0) (.int .u8 0)
   have e0:=F.1.cell 0;have e1:=F.1.cell 1;have e2:=F.1.cell 2;have e3:=F.1.cell 3;have e4:=F.1.cell 4;have e5:=F.1.cell 5;have OP:=Mc.mM n (fun j h1 h2=>HA.o j h1 (by omega));have FO:Mc.aI n=0:=by unfold Mc.aI; rw [OP]; rfl
   refine bodyPost_ret (v:=.tuple #[dR 0 0 0 0 0 0,.bool false]) ?_ rfl ⟨by unfold FK; rw [OP,FO]; rfl,F.2⟩;clear F z0 z1 z2 z3 z4 z5 t0 t1 t2 t3 t4 t5;generalize World.setCell _ _ _=WF at *;simp [results,Tryz.results92,go_sem,dR,e0,e1,e2,e3,e4,e5]
theorem ylB (form n:Int) (hf:1<=form/\form<=7) (h0:0<=n) (h1:n<=4294967295):Mc.fA form n=0↔yk form n:=by
 unfold Mc.fA yk Mc.v2 Mc.v4 Mc.v5;rcases (show form=1\/form=2\/form=3\/form=4\/form=5\/form=6\/form=7 by omega) with rfl | rfl | rfl | rfl | rfl | rfl | rfl
 ·simp only [true_or,if_true]; omega
 ·simp only [Int.reduceEq,if_false,if_true,or_true]; split <;> omega
 ·simp only [Int.reduceEq,if_false,if_true,or_self]; split <;> omega
 ·simp only [Int.reduceEq,if_false,if_true,or_self,true_or]; split <;> omega
 ·simp only [Int.reduceEq,if_false,if_true,or_self,or_true]; split <;> omega
 ·simp
 ·simp
theorem ynk (P:Nat->Prop):∀ k,P k->∃ m,P m/\∀ j,j < m->¬ P j:=by
 intro k
 induction k using Nat.strongRecOn with
 | ind k ih =>
  intro hk;by_cases h:∃ j,j < k/\P j
  ·obtain ⟨j,hj,hp⟩:=h;exact ih j hj hp
  ·exact ⟨k,hk,fun j hj hp=>h ⟨j,hj,hp⟩⟩
theorem ype (n:Int) (h0:0<=n) (h1:n<=4294967295):Dec n (Mc.jq n) (eY (Mc.aI n) n) (bE (Mc.aI n) n) (Mc.fA (Mc.aI n) n)/\Mc.jq n < 26:=by
 by_cases h:∃ k,1<=k/\k<=25/\Is k n
 ·obtain ⟨k,hk⟩:=h;obtain ⟨m,⟨a,b,c⟩,hm⟩:=ynk (fun k=>1<=k/\k<=25/\Is k n) k hk;have al:∀ j,1<=j->j < m->¬ Is j n:=fun j q hj hI=>hm j hj ⟨q,by omega,hI⟩
  have e:=Mc.qL n m a b c al;have ef:Mc.aI n=mR.getD m 0:=by unfold Mc.aI; rw [e]
  rw [ef,e];exact ⟨.inr ⟨m,a,b,c,al,rfl,rfl,rfl,ylB _ n (Ke m a b) h0 h1⟩,by omega⟩
 ·have al:∀ j,1<=j->j<=25->¬ Is j n:=fun j q hj hI=>h ⟨j,q,hj,hI⟩
  have e:=Mc.mM n al;have ef:Mc.aI n=0:=by unfold Mc.aI; rw [e]; rfl
  rw [ef,e];exact ⟨.inl ⟨rfl,rfl,rfl,rfl,al⟩,by omega⟩
theorem ypA:∀ k,k < 26->(Jr (mR.getD k 0)=66↔(5<=k/\k<=10)):=by decide
theorem Sv (n:Int) (w:World) (h0:0<=n) (h1:n<=4294967295) :
  Calls Tryz.prog 92 #[.int .i64 n] w fun e w'=>ypo e n/\w.grownBy w' none:=by
 refine (R6 n w h0 h1).mono ?_;rintro e w' ⟨rfl,hg⟩;have d:=ype n h0 h1;have f:=ypA _ d.2;exact ⟨⟨_,_,_,_,_,_,_,rfl,d.1,by simp,by unfold Mc.aI; rw [f]; omega⟩,hg⟩
end Go.Proofs.YtelehpmjhjljgaaGreatDoor
