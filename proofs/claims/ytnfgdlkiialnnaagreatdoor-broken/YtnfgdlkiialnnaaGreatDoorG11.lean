/- The scanner: characters, blanks, words, lines. -/
/- The scanner. -/
/- The scanner. -/
/- The scanner: numbers. -/
/- The scanner: the next token. -/
/- The scanner. -/
import Derived.Test.YtnfgdlkiialnnaaGreatDoorG10
import Derived.BigQuiet
import Derived.BigRegion
namespace Go.Proofs.YtnfgdlkiialnnaaGreatDoor
open Go.RowKit

theorem tells_bool {e:Ending} {P:Prop} {x:Bool} (h:Tells e P) (k:x=true↔P):e = .returned (.bool x):=by
 obtain ⟨y,rfl,h2⟩:=h
 have:y=x:=by rw [Bool.eq_iff_iff,h2,k]
 rw [this]

theorem chr_iff (c:UInt8):Chr (c.toNat:Int)↔((97≤c.toNat∧c.toNat≤122)∨c.toNat=95∨(48≤c.toNat∧c.toNat≤57)):=by unfold Chr; omega

set_option maxHeartbeats 1000000 in
theorem inWord_any (c:UInt8) (w:World) :
  Calls Tryz.prog 146 #[.int .u8 c.toNat] w fun e w'=>e = .returned (.bool (As.inWord c))∧w'=w:=by
 have cM:=hid (mayHave_any (c.toNat:Int) w (by omega))
 have hI:=hid (chr_iff c)
 by_cases c1:c.toNat=46
 ·have N:=hid (show As.inWord c=true from by unfold As.inWord As.isDig; simp [c1])
  have hN:¬ Chr (c.toNat:Int):=by unfold Chr; omega
  have d:((c.toNat:Int) == 46)=true:=by simp; omega
  clear c1
  go_enter Tryz.func146,Tryz.ntmps146
  go_wp2_with fail
  refine cM.out.mono ?_
  rintro e w1 ⟨t1,rfl⟩
  obtain rfl:=tells_bool (x:=false) t1 (by simp [hN])
  go_wp2
  go_ret
  exact ⟨by rw [N.out]; rfl,rfl⟩
 ·have N:=hid (show As.inWord c=true↔Chr (c.toNat:Int) from by
   rw [hI.out]
   unfold As.inWord As.isDig
   simp only [Bool.or_eq_true,Bool.and_eq_true,decide_eq_true_eq,beq_iff_eq]
   omega)
  have d:((c.toNat:Int) == 46)=false:=by simp; omega
  clear c1
  go_enter Tryz.func146,Tryz.ntmps146
  go_wp2_with fail
  refine cM.out.mono ?_
  rintro e w1 ⟨t1,rfl⟩
  rcases t1.split with ⟨rfl,p1⟩ | ⟨rfl,p1⟩ <;> clear t1 cM
  ·have P:=hid (show As.inWord c=false from by rw [← Bool.not_eq_true,N.out]; exact p1.out)
   go_wp2
   go_ret
   exact ⟨by rw [P.out]; rfl,rfl⟩
  ·have P:=hid (show As.inWord c=true from N.out.2 p1.out)
   go_wp2
   go_ret
   exact ⟨by rw [P.out]; rfl,rfl⟩

set_option maxHeartbeats 1000000 in
theorem isSign_any (c:UInt8) (w:World) :
  Calls Tryz.prog 148 #[.int .u8 c.toNat] w fun e w'=>e = .returned (.bool (As.isSign c))∧w'=w:=by
 have N:=hid (show As.isSign c=(c.toNat == 44 || c.toNat == 58 || c.toNat == 40 || c.toNat == 41 || c.toNat == 43 || c.toNat == 45) from rfl)
 generalize As.isSign c=x at *
 generalize hc:c.toNat=n at *
 clear hc
 have dec:∀ m:Nat,((n:Int) == (m:Int))=(n == m):=fun m=>by rw [Bool.eq_iff_iff,beq_iff_eq,beq_iff_eq]; omega
 have d1:=dec 44
 have d2:=dec 58
 have d3:=dec 40
 have d4:=dec 41
 have d5:=dec 43
 have d6:=dec 45
 clear dec
 simp only [Int.cast_ofNat_Int] at d1 d2 d3 d4 d5 d6
 generalize (n == 44)=b1 at *
 generalize (n == 58)=b2 at *
 generalize (n == 40)=b3 at *
 generalize (n == 41)=b4 at *
 generalize (n == 43)=b5 at *
 generalize (n == 45)=b6 at *
 cases b1
 ·cases b2
  ·cases b3
   ·cases b4
    ·cases b5
     ·go_enter Tryz.func148,Tryz.ntmps148
      go_wp2
      go_ret
      exact ⟨by rw [N.out]; rfl,rfl⟩
     ·go_enter Tryz.func148,Tryz.ntmps148
      go_wp2
      go_ret
      exact ⟨by rw [N.out]; rfl,rfl⟩
    ·go_enter Tryz.func148,Tryz.ntmps148
     go_wp2
     go_ret
     exact ⟨by rw [N.out]; rfl,rfl⟩
   ·go_enter Tryz.func148,Tryz.ntmps148
    go_wp2
    go_ret
    exact ⟨by rw [N.out]; rfl,rfl⟩
  ·go_enter Tryz.func148,Tryz.ntmps148
   go_wp2
   go_ret
   exact ⟨by rw [N.out]; rfl,rfl⟩
 ·go_enter Tryz.func148,Tryz.ntmps148
  go_wp2
  go_ret
  exact ⟨by rw [N.out]; rfl,rfl⟩

theorem digit_any (c:UInt8) (w:World) :
  Calls Tryz.prog 144 #[.int .u8 c.toNat] w fun e w'=>e = .returned (.bool (As.isDig c))∧w'=w:=by
 by_cases h:48≤c.toNat∧c.toNat≤57
 ·have e:As.isDig c=true:=by unfold As.isDig; simp [h]
  rw [e]
  exact isDigit_yes _ w (by omega) (by omega)
 ·have e:As.isDig c=false:=by unfold As.isDig; simp; omega
  rw [e]
  exact isDigit_no _ w (by omega)

/-- a scanner in the assembler's block b: it stands at p -/
def ScAt (s:ByteArray) (b:Nat) (tail:List Value) (p:Nat) (W:World):Prop:=BlkAt W b (.string s :: .int .i64 p :: tail).toArray 86
section
variable {s:ByteArray} {b:Nat} {tail:List Value} {p:Nat} {W W':World}
theorem ScAt.c0 (h:ScAt s b tail p W):W.cell? ⟨b,0,none⟩=some (.string s):=by rw [BlkAt.cell h]; simp
theorem ScAt.c1 (h:ScAt s b tail p W):W.cell? ⟨b,1,none⟩=some (.int .i64 p):=by rw [BlkAt.cell h]; simp
theorem ScAt.f1 (h:ScAt s b tail p W):W.frozen? ⟨b,1,none⟩=false:=BlkAt.free h 1
theorem ScAt.drewN (h:ScAt s b tail p W) (n:Nat):ScAt s b tail p (W.drewN n):=BlkAt.drewN h n
theorem ScAt.set (h:ScAt s b tail p W) (q:Nat):ScAt s b tail q (W.setCell ⟨b,1,none⟩ (.int .i64 q)):=by
 have:=BlkAt.set h 1 (.int .i64 q)
 simpa [ScAt] using this
theorem ScAt.grown (h:ScAt s b tail p W) (hg:W.grownBy W' none):ScAt s b tail p W':=BlkAt.grown h hg (by simp)
theorem ScAt.step (h:ScAt s b tail p W) (n:Nat) (q:Nat):ScAt s b tail q ((W.drewN n).setCell ⟨b,1,none⟩ (.int .i64 q)):=(h.drewN n).set q
end
theorem grown_step {w W:World} {b:Nat} (h:w.grownBy W (some b)) (n:Nat) (v:Value):w.grownBy ((W.drewN n).setCell ⟨b,1,none⟩ v) (some b) :=
 grown_trans (grown_drewN h n) (grown_set _ _ _ _)

def posOf (b:Nat) (W:World):Nat:=match W.cell? ⟨b,1,none⟩ with
 | some (.int _ i)=>i.toNat
 | _=>0
theorem ScAt.pos {s:ByteArray} {b:Nat} {tail:List Value} {p:Nat} {W:World} (h:ScAt s b tail p W):posOf b W=p:=by unfold posOf; rw [h.c1]; simp

theorem meas_step {s:ByteArray} {b:Nat} {tail:List Value} {k:Nat} {W:World} (h:ScAt s b tail k W) (n:Nat) (hlt:k < s.size):s.size - posOf b ((W.drewN n).setCell ⟨b,1,none⟩ (.int .i64 ((k:Int)+1))) < s.size - posOf b W:=by
 rw [h.pos,show ((k:Int)+1)=((k+1:Nat):Int) from by omega,(h.step n (k+1)).pos]; omega

theorem skip_go {f:UInt8→Bool} {s:List UInt8} {k:Nat} (h:k < s.length) (hf:f s[k]=true):As.skip f s k=As.skip f s (k+1):=by
 unfold As.skip
 rw [List.drop_eq_getElem_cons h,List.takeWhile_cons_of_pos hf]
 simp; omega
theorem skip_stop {f:UInt8→Bool} {s:List UInt8} {k:Nat} (h:k < s.length) (hf:f s[k]=false):As.skip f s k=k:=by
 unfold As.skip
 rw [List.drop_eq_getElem_cons h,List.takeWhile_cons_of_neg (by simp [hf])]
 simp
theorem skip_end {f:UInt8→Bool} {s:List UInt8} {k:Nat} (h:s.length≤k):As.skip f s k=k:=by
 unfold As.skip
 rw [List.drop_eq_nil_of_le h]
 simp
theorem skip_le {f:UInt8→Bool} {s:List UInt8} {k:Nat} (h:k≤s.length):As.skip f s k≤s.length:=by
 unfold As.skip
 have h1:=(List.takeWhile_prefix f (l:=s.drop k)).length_le
 rw [List.length_drop] at h1
 omega
theorem skip_ge (f:UInt8→Bool) (s:List UInt8) (k:Nat):k≤As.skip f s k:=by unfold As.skip; omega
theorem skip_at {f:UInt8→Bool} {s:List UInt8} {k:Nat} (h:As.skip f s k < s.length):f (s[As.skip f s k])=false:=by
 generalize hn:s.length - k=n
 induction n generalizing k with
 | zero =>
  have:As.skip f s k=k:=skip_end (by omega)
  omega
 | succ n ih =>
  by_cases hk:k < s.length
  ·cases hf:f s[k]
   ·have e:=skip_stop hk hf
    simp only [e]; exact hf
   ·have e:=skip_go hk hf
    simp only [e] at h ⊢
    exact ih h (by omega)
  ·omega
theorem sl_get (s:ByteArray) (k:Nat) (h:k < s.size):(sl s)[k]'(by rw [sl_length]; exact h)=s[k]:=rfl

set_option maxHeartbeats 2000000 in
theorem passBlanks_any (s:ByteArray) (b:Nat) (tail:List Value) (p:Nat) (w:World) (h:ScAt s b tail p w) (hs:s.size≤1000) (hp:p≤s.size) :
  Calls Tryz.prog 142 #[.pointer (some ⟨b,0,none⟩)] w fun e w'=>e = .returned (.tuple #[])∧ScAt s b tail (As.skip As.blank (sl s) p) w'∧w.grownBy w' (some b):=by
 have H:=hid h
 clear h
 have SL:=hid (sl_length s)
 go_enter Tryz.func142,Tryz.ntmps142
 go_wp2
 go_loopw [] (fun wr=>∃ k:Nat,k≤s.size∧ScAt s b tail k wr∧As.skip As.blank (sl s) k=As.skip As.blank (sl s) p∧w.grownBy wr (some b)) (fun wr=>s.size - posOf b wr)
 case atStart=>exact ⟨p,hp,H.out,rfl,World.grownBy.refl _ _⟩
 case round =>
  obtain ⟨k,hk,hsc,hsk,hgr⟩:=hrel
  have c0:=hsc.c0
  have c1:=hsc.c1
  have f1:=hsc.f1
  have HS:=hid hsc
  have HK:=hid hsk
  have HG:=hid hgr
  have HP:=hid hsc.pos
  clear hsc hsk hgr
  by_cases hlt:k < s.size
  ·have d:decide ((k:Int) < (s.size:Int))=true:=by simp; omega
   have g1:(0:Int)≤(k:Int):=by omega
   have g2:(k:Int) < (s.size:Int):=by omega
   have HL:=hid (show k < (sl s).length by rw [SL.out]; exact hlt)
   have GET:=hid (sl_get s k hlt)
   by_cases e1:(s[k]'hlt).toNat=32
   ·have d1:(((s[k]'hlt).toNat:Int) == 32)=true:=by simp; omega
    have E:=hid (skip_go (f:=As.blank) HL.out (by rw [GET.out]; unfold As.blank; rw [e1]; rfl))
    clear e1
    go_wp2
    go_quiet (fail)
    go_wp2
    go_roundw
    case rel=>exact ⟨k+1,by omega,HS.out.step _ (k+1),by rw [← E.out,HK.out],grown_step HG.out _ _⟩
    case measure=>exact meas_step HS.out _ hlt
   ·by_cases e2:(s[k]'hlt).toNat=9
    ·have d1:(((s[k]'hlt).toNat:Int) == 32)=false:=by simp; omega
     have d2:(((s[k]'hlt).toNat:Int) == 9)=true:=by simp; omega
     have E:=hid (skip_go (f:=As.blank) HL.out (by rw [GET.out]; unfold As.blank; rw [e2]; rfl))
     clear e1 e2
     go_wp2
     go_quiet (fail)
     go_wp2
     go_roundw
     case rel=>exact ⟨k+1,by omega,HS.out.step _ (k+1),by rw [← E.out,HK.out],grown_step HG.out _ _⟩
     case measure=>exact meas_step HS.out _ hlt
    ·have d1:(((s[k]'hlt).toNat:Int) == 32)=false:=by simp; omega
     have d2:(((s[k]'hlt).toNat:Int) == 9)=false:=by simp; omega
     have E:=hid (skip_stop (f:=As.blank) HL.out (by rw [GET.out]; unfold As.blank; rw [Bool.or_eq_false_iff,beq_eq_false_iff_ne,beq_eq_false_iff_ne]; exact ⟨e1,e2⟩))
     clear e1 e2
     go_wp2
     go_quiet (fail)
     go_wp2
     go_end0
     exact ⟨rfl,by rw [← HK.out,E.out]; exact HS.out.drewN _,grown_drewN HG.out _⟩
  ·have d:decide ((k:Int) < (s.size:Int))=false:=by simp; omega
   have E:=hid (skip_end (f:=As.blank) (s:=sl s) (k:=k) (by rw [SL.out]; omega))
   go_wp2
   go_quiet (fail)
   go_wp2
   go_end0
   exact ⟨rfl,by rw [← HK.out,E.out]; exact HS.out.drewN _,grown_drewN HG.out _⟩

end Go.Proofs.YtnfgdlkiialnnaaGreatDoor

namespace Go.Proofs.YtnfgdlkiialnnaaGreatDoor
open Go.RowKit

set_option maxHeartbeats 2000000 in
theorem passWord_any (s:ByteArray) (b:Nat) (tail:List Value) (p:Nat) (w:World) (h:ScAt s b tail p w) (hs:s.size≤1000) (hp:p≤s.size) :
  Calls Tryz.prog 147 #[.pointer (some ⟨b,0,none⟩)] w fun e w'=>e = .returned (.tuple #[])∧ScAt s b tail (As.skip As.inWord (sl s) p) w'∧w.grownBy w' (some b):=by
 have H:=hid h
 clear h
 have SL:=hid (sl_length s)
 go_enter Tryz.func147,Tryz.ntmps147
 go_wp2
 go_loopw [] (fun wr=>∃ k:Nat,k≤s.size∧ScAt s b tail k wr∧As.skip As.inWord (sl s) k=As.skip As.inWord (sl s) p∧w.grownBy wr (some b)) (fun wr=>s.size - posOf b wr)
 case atStart=>exact ⟨p,hp,H.out,rfl,World.grownBy.refl _ _⟩
 case round =>
  obtain ⟨k,hk,hsc,hsk,hgr⟩:=hrel
  have c0:=hsc.c0
  have c1:=hsc.c1
  have f1:=hsc.f1
  have HS:=hid hsc
  have HK:=hid hsk
  have HG:=hid hgr
  clear hsc hsk hgr
  by_cases hlt:k < s.size
  ·have d:decide ((k:Int) < (s.size:Int))=true:=by simp; omega
   have g1:(0:Int)≤(k:Int):=by omega
   have g2:(k:Int) < (s.size:Int):=by omega
   have HL:=hid (show k < (sl s).length by rw [SL.out]; exact hlt)
   have GET:=hid (sl_get s k hlt)
   have cW:=hid (fun W=>inWord_any (s[k]'hlt) W)
   cases e1:As.inWord (s[k]'hlt)
   ·have E:=hid (skip_stop (f:=As.inWord) HL.out (by rw [GET.out]; exact e1))
    rw [e1] at cW
    clear e1
    go_wp2
    go_quiet ((go_at_call 146; exact Calls.quiet_of_same (cW.out _)))
    go_wp2
    go_end0
    exact ⟨rfl,by rw [← HK.out,E.out]; exact HS.out.drewN _,grown_drewN HG.out _⟩
   ·have E:=hid (skip_go (f:=As.inWord) HL.out (by rw [GET.out]; exact e1))
    rw [e1] at cW
    clear e1
    go_wp2
    go_quiet ((go_at_call 146; exact Calls.quiet_of_same (cW.out _)))
    go_wp2
    go_roundw
    case rel=>exact ⟨k+1,by omega,HS.out.step _ (k+1),by rw [← E.out,HK.out],grown_step HG.out _ _⟩
    case measure=>exact meas_step HS.out _ hlt
  ·have d:decide ((k:Int) < (s.size:Int))=false:=by simp; omega
   have E:=hid (skip_end (f:=As.inWord) (s:=sl s) (k:=k) (by rw [SL.out]; omega))
   go_wp2
   go_quiet (fail)
   go_wp2
   go_end0
   exact ⟨rfl,by rw [← HK.out,E.out]; exact HS.out.drewN _,grown_drewN HG.out _⟩

end Go.Proofs.YtnfgdlkiialnnaaGreatDoor

namespace Go.Proofs.YtnfgdlkiialnnaaGreatDoor
open Go.RowKit

set_option maxHeartbeats 2000000 in
theorem ended_any (s:ByteArray) (b:Nat) (tail:List Value) (p:Nat) (w:World) (h:ScAt s b tail p w) (_hs:s.size≤1000) (_hp:p≤s.size) :
  Calls Tryz.prog 143 #[.pointer (some ⟨b,0,none⟩)] w fun e w'=>e = .returned (.bool (((sl s)[p]?.map As.ends).getD true))∧∃ n,w'=w.drewN n:=by
 have c0:=h.c0
 have c1:=h.c1
 clear h
 have SL:=hid (sl_length s)
 generalize hx:(((sl s)[p]?.map As.ends).getD true)=x
 have HX:=hid hx.symm
 clear hx
 by_cases hlt:p < s.size
 ·have d:decide (s.size≤p)=false:=by simp; omega
  have g1:(0:Int)≤(p:Int):=by omega
  have g2:(p:Int) < (s.size:Int):=by omega
  have E:=hid (show x=As.ends (s[p]'hlt) by rw [HX.out,List.getElem?_eq_getElem (by rw [SL.out]; exact hlt)]; rfl)
  clear HX
  by_cases e1:(s[p]'hlt).toNat=10
  ·have d1:(((s[p]'hlt).toNat:Int) == 10)=true:=by simp; omega
   have E1:=hid (show As.ends (s[p]'hlt)=true by unfold As.ends; rw [e1]; rfl)
   clear e1
   go_enter Tryz.func143,Tryz.ntmps143
   go_wp2
   go_quiet (fail)
   go_wp2
   go_ret
   exact ⟨by rw [E.out,E1.out]; rfl,_,rfl⟩
  ·by_cases e2:(s[p]'hlt).toNat=35
   ·have d1:(((s[p]'hlt).toNat:Int) == 10)=false:=by simp; omega
    have d2:(((s[p]'hlt).toNat:Int) == 35)=true:=by simp; omega
    have E1:=hid (show As.ends (s[p]'hlt)=true by unfold As.ends; rw [e2]; rfl)
    clear e1 e2
    go_enter Tryz.func143,Tryz.ntmps143
    go_wp2
    go_quiet (fail)
    go_wp2
    go_ret
    exact ⟨by rw [E.out,E1.out]; rfl,_,rfl⟩
   ·have d1:(((s[p]'hlt).toNat:Int) == 10)=false:=by simp; omega
    have d2:(((s[p]'hlt).toNat:Int) == 35)=false:=by simp; omega
    have E1:=hid (show As.ends (s[p]'hlt)=false by unfold As.ends; rw [Bool.or_eq_false_iff,beq_eq_false_iff_ne,beq_eq_false_iff_ne]; exact ⟨e1,e2⟩)
    clear e1 e2
    go_enter Tryz.func143,Tryz.ntmps143
    go_wp2
    go_quiet (fail)
    go_wp2
    go_ret
    exact ⟨by rw [E.out,E1.out]; rfl,_,rfl⟩
 ·have d:decide (s.size≤p)=true:=by simp; omega
  have E:=hid (show x=true by rw [HX.out,List.getElem?_eq_none (by rw [SL.out]; omega)]; rfl)
  go_enter Tryz.func143,Tryz.ntmps143
  go_wp2
  go_quiet (fail)
  go_wp2
  go_ret
  exact ⟨by rw [E.out]; rfl,_,rfl⟩

end Go.Proofs.YtnfgdlkiialnnaaGreatDoor

namespace Go.Proofs.YtnfgdlkiialnnaaGreatDoor
open Go.RowKit

def fltA (e pos:Nat):Value:=.agg #[.int .i64 e,.int .i64 pos,.string ⟨#[]⟩]
def scanRet (r:As.Tok×(Nat×Nat)×Nat):Value:=.tuple #[tokA r.1,fltA r.2.1.1 r.2.1.2]

theorem grown_sets {w W:World} {row:Option Nat} {r:Nat} (h:w.grownBy W row) (hb:w.heap.size≤r) (l:List (Nat×Value)):w.grownBy (sets W r l) row:=by
 have g:=sets_grown W r l
 exact ⟨g.os.trans h.os,g.tape.trans h.tape,g.output.trans h.output,Nat.le_trans h.size g.size,fun i hi hr=>(g.block i (Nat.lt_of_lt_of_le hi h.size) (by simp; omega)).trans (h.block i hi hr)⟩
theorem BlkAt.sets_other {W:World} {g r:Nat} {cs:Array Value} {t:TypeId} (h:BlkAt W g cs t) (hne:g≠r) (l:List (Nat×Value)):BlkAt (sets W r l) g cs t :=
 h.grown (sets_grown W r l) (by simpa using hne)

theorem dec_snoc (l:List UInt8) (c:UInt8):As.dec (l ++ [c])=10 * As.dec l+(c.toNat - 48):=by unfold As.dec; rw [List.foldl_append]; rfl
theorem dec_fold (l:List UInt8) (n:Nat) (h:∀ c∈l,As.isDig c=true):l.foldl (fun n c=>10 * n+(c.toNat - 48)) n+1≤(n+1) * 10 ^ l.length:=by
 induction l generalizing n with
 | nil=>simp
 | cons c l ih =>
  have h1:=ih (10 * n+(c.toNat - 48)) fun c hc=>h c (by simp [hc])
  have h2:=h c (by simp)
  unfold As.isDig at h2
  simp at h2
  rw [List.foldl_cons,List.length_cons,Nat.pow_succ]
  have h3:(10 * n+(c.toNat - 48)+1) * 10 ^ l.length≤(10 * (n+1)) * 10 ^ l.length:=Nat.mul_le_mul_right _ (by omega)
  have h4:(n+1) * (10 ^ l.length * 10)=(10 * (n+1)) * 10 ^ l.length:=by rw [Nat.mul_comm 10,Nat.mul_assoc,Nat.mul_comm 10]
  omega
theorem dec_lt (l:List UInt8) (h:∀ c∈l,As.isDig c=true):As.dec l < 10 ^ l.length:=by
 have:=dec_fold l 0 h
 unfold As.dec
 omega
theorem mem_while (f:UInt8→Bool) (l:List UInt8):∀ c∈l.takeWhile f,f c=true:=by
 induction l with
 | nil=>simp
 | cons a l ih =>
  intro c hc
  cases hf:f a
  ·rw [List.takeWhile_cons_of_neg (by simp [hf])] at hc
   simp at hc
  ·rw [List.takeWhile_cons_of_pos hf] at hc
   rcases List.mem_cons.1 hc with rfl | hc
   ·exact hf
   ·exact ih c hc
theorem dec_take (l:List UInt8) (j:Nat) (hj:j < l.length):As.dec (l.take (j+1))=10 * As.dec (l.take j)+(l[j].toNat - 48):=by
 rw [List.take_succ_eq_append_getElem hj,dec_snoc]
theorem dec_le (l:List UInt8) (h:∀ c∈l,As.isDig c=true) (j:Nat) (hj:j≤10):As.dec (l.take j)≤9999999999:=by
 have h1:=dec_lt (l.take j) fun c hc=>h c (List.mem_of_mem_take hc)
 have h2:(l.take j).length≤10:=by rw [List.length_take]; omega
 have h3:10 ^ (l.take j).length≤10 ^ 10:=Nat.pow_le_pow_right (by decide) h2
 omega

/-- what takeWhile says of the text -/
theorem while_facts (f:UInt8→Bool) (s:ByteArray) (p:Nat) (hp:p≤s.size) (ds:List UInt8) (hd:ds=((sl s).drop p).takeWhile f) :
  (∀ c∈ds,f c=true)∧p+ds.length≤s.size∧(∀ j (h:j < ds.length) (hk:p+j < s.size),s[p+j]'hk=ds[j])∧(∀ hk:p+ds.length < s.size,f (s[p+ds.length]'hk)=false):=by
 have hpre:ds <+: (sl s).drop p:=by rw [hd]; exact List.takeWhile_prefix f
 have hlen:p+ds.length≤s.size:=by have:=hpre.length_le; rw [List.length_drop,sl_length] at this; omega
 refine ⟨fun c hc=>?_,hlen,fun j h hk=>?_,fun hk=>?_⟩
 ·rw [hd] at hc
  exact mem_while f _ c hc
 ·have h1:=hpre.getElem h
  rw [h1,List.getElem_drop]
  rfl
 ·have e:As.skip f (sl s) p=p+ds.length:=by unfold As.skip; rw [← hd]
  have:=skip_at (f:=f) (s:=sl s) (k:=p) (by rw [e,sl_length]; exact hk)
  simp only [e] at this
  exact this

/-- while a number is scanned: the two results' cells, the scanner -/
structure NumSt (s:ByteArray) (b:Nat) (tail:List Value) (w:World) (k:Nat) (W:World):Prop where
 t:BlkAt W w.heap.size #[.int .i64 0,.int .i64 0,.string ⟨#[]⟩,.int .i64 0] 83
 f:BlkAt W (w.heap.size+1) #[.int .i64 0,.int .i64 0,.string ⟨#[]⟩] 45
 sc:ScAt s b tail k W
 gr:w.grownBy W (some b)
theorem NumSt.drewN {s:ByteArray} {b:Nat} {tail:List Value} {w:World} {k:Nat} {W:World} (h:NumSt s b tail w k W) (n:Nat):NumSt s b tail w k (W.drewN n) :=
 ⟨h.t.drewN n,h.f.drewN n,h.sc.drewN n,grown_drewN h.gr n⟩
theorem NumSt.step {s:ByteArray} {b:Nat} {tail:List Value} {w:World} {k:Nat} {W:World} (h:NumSt s b tail w k W) (hb:b < w.heap.size) (q:Nat):NumSt s b tail w q (W.setCell ⟨b,1,none⟩ (.int .i64 q)) :=
 ⟨h.t.grown (grown_set _ _ _ _) (by simp; omega),h.f.grown (grown_set _ _ _ _) (by simp; omega),h.sc.set q,grown_trans h.gr (grown_set _ _ _ _)⟩
/-- the results are laid -/
theorem NumSt.put {s:ByteArray} {b:Nat} {tail:List Value} {w:World} {k:Nat} {W:World} (h:NumSt s b tail w k W) (hb:b < w.heap.size) (a0 a1 a2 a3 z0 z1 z2:Value) :
  let W':=sets (sets W w.heap.size [(0,a0),(1,a1),(2,a2),(3,a3)]) (w.heap.size+1) [(0,z0),(1,z1),(2,z2)]
  BlkAt W' w.heap.size #[a0,a1,a2,a3] 83∧BlkAt W' (w.heap.size+1) #[z0,z1,z2] 45∧ScAt s b tail k W'∧w.grownBy W' (some b):=by
 have t1:=sets_blk [(0,a0),(1,a1),(2,a2),(3,a3)] h.t
 have f1:=h.f.sets_other (r:=w.heap.size) (by omega) [(0,a0),(1,a1),(2,a2),(3,a3)]
 have f2:=sets_blk [(0,z0),(1,z1),(2,z2)] f1
 simp only [setsA,List.foldl_cons,List.foldl_nil,List.setIfInBounds_toArray,List.set_cons_succ,List.set_cons_zero] at t1 f2
 exact ⟨t1.sets_other (by omega) _,f2,BlkAt.sets_other (BlkAt.sets_other h.sc (by omega) _) (by omega) _,grown_sets (grown_sets h.gr (by omega) _) (by omega) _⟩

set_option maxRecDepth 100000 in
set_option maxHeartbeats 4000000 in
theorem scanNum_any (s:ByteArray) (b:Nat) (tail:List Value) (p:Nat) (w:World) (h:ScAt s b tail p w) (hs:s.size≤1000) (hp:p≤s.size) :
  Calls Tryz.prog 145 #[.pointer (some ⟨b,0,none⟩)] w fun e w'=>e = .returned (scanRet (As.scanNum (sl s) p))∧ScAt s b tail (As.scanNum (sl s) p).2.2 w'∧w.grownBy w' (some b):=by
 have H:=hid h
 have hbl:=BlkAt.lt h
 have c1:=h.c1
 clear h
 have SL:=hid (sl_length s)
 generalize hD:((sl s).drop p).takeWhile As.isDig=ds
 obtain ⟨w1,w2,w3,w4⟩:=while_facts As.isDig s p hp ds hD.symm
 have SN:=hid (show As.scanNum (sl s) p=if 10 < ds.length then (As.Tok.nil,(5,p),p+10) else if (((sl s)[p+ds.length]?).map As.inWord).getD false then (As.Tok.nil,(2,p+ds.length),p+ds.length) else (⟨2,p,ds,As.dec ds⟩,(0,0),p+ds.length) from by
  unfold As.scanNum As.skip; rw [hD])
 generalize As.scanNum (sl s) p=R at *
 have HDIG:=hid w1
 have HEL:=hid w3
 have HST:=hid w4
 have HPRE:=hid (show ds=((sl s).drop p).take ds.length from by
  have:=List.prefix_iff_eq_take.1 (List.takeWhile_prefix As.isDig (l:=(sl s).drop p))
  rw [hD] at this
  exact this)
 clear hD w1 w3 w4
 have B1:Hid (BlkAt ((w.alloc (.cells #[.int .i64 0,.int .i64 0,.string ⟨#[]⟩,.int .i64 0] 83)).alloc (.cells #[.int .i64 0,.int .i64 0,.string ⟨#[]⟩] 45)) w.heap.size #[.int .i64 0,.int .i64 0,.string ⟨#[]⟩,.int .i64 0] 83) :=
  (BlkAt.new w _ _).grown (World.grownBy_alloc _ _ none) (by simp)
 have B2:Hid (BlkAt ((w.alloc (.cells #[.int .i64 0,.int .i64 0,.string ⟨#[]⟩,.int .i64 0] 83)).alloc (.cells #[.int .i64 0,.int .i64 0,.string ⟨#[]⟩] 45)) (w.heap.size+1) #[.int .i64 0,.int .i64 0,.string ⟨#[]⟩] 45):=by
  have:=BlkAt.new (w.alloc (.cells #[.int .i64 0,.int .i64 0,.string ⟨#[]⟩,.int .i64 0] 83)) #[.int .i64 0,.int .i64 0,.string ⟨#[]⟩] 45
  rw [show (w.alloc (.cells #[.int .i64 0,.int .i64 0,.string ⟨#[]⟩,.int .i64 0] 83)).heap.size=w.heap.size+1 by simp] at this
  exact this
 have B3:Hid (ScAt s b tail p ((w.alloc (.cells #[.int .i64 0,.int .i64 0,.string ⟨#[]⟩,.int .i64 0] 83)).alloc (.cells #[.int .i64 0,.int .i64 0,.string ⟨#[]⟩] 45))) :=
  (H.out.grown (World.grownBy_alloc _ _ none)).grown (World.grownBy_alloc _ _ none)
 have B4:Hid (w.grownBy ((w.alloc (.cells #[.int .i64 0,.int .i64 0,.string ⟨#[]⟩,.int .i64 0] 83)).alloc (.cells #[.int .i64 0,.int .i64 0,.string ⟨#[]⟩] 45)) (some b)) :=
  grown_trans (World.grownBy_alloc _ _ _) (World.grownBy_alloc _ _ _)
 have B5:Hid (∀ W:World,W=(w.alloc (.cells #[.int .i64 0,.int .i64 0,.string ⟨#[]⟩,.int .i64 0] 83)).alloc (.cells #[.int .i64 0,.int .i64 0,.string ⟨#[]⟩] 45)→NumSt s b tail w p W):=fun W hW=>by subst hW; exact ⟨B1.out,B2.out,B3.out,B4.out⟩
 clear B1 B2 B3 B4
 go_enter Tryz.func145,Tryz.ntmps145
 go_wp2
 go_loopw [5] (fun n wr=>∃ j k:Nat,j≤ds.length∧j≤10∧n = .int .i64 (As.dec (ds.take j))∧NumSt s b tail w k wr∧k=p+j) (fun _ wr=>s.size - posOf b wr)
 case atStart=>exact ⟨0,p,by omega,by omega,by simp [As.dec],B5.out _ rfl,rfl⟩
 case round =>
  obtain ⟨j,k,hj,hj10,rfl,hst,hkj⟩:=hrel
  have HS:=hid hst
  have c0:=hst.sc.c0
  have c1:=hst.sc.c1
  have f1:=hst.sc.f1
  have t0:=hst.t.cell 0
  have t1:=hst.t.cell 1
  have t2:=hst.t.cell 2
  have t3:=hst.t.cell 3
  have v0:=hst.t.free 0
  have v1:=hst.t.free 1
  have v2:=hst.t.free 2
  have v3:=hst.t.free 3
  have x0:=hst.f.cell 0
  have x1:=hst.f.cell 1
  have x2:=hst.f.cell 2
  have y0:=hst.f.free 0
  have y1:=hst.f.free 1
  have y2:=hst.f.free 2
  simp only [List.getElem?_toArray,List.getElem?_cons_succ,List.getElem?_cons_zero] at t0 t1 t2 t3 x0 x1 x2
  have hdec:=dec_le ds HDIG.out j hj10
  have HDT:=hid (dec_take ds j)
  generalize hn:As.dec (ds.take j)=n at *
  have HN:=hid hn
  clear hn
  have KJ:=hid hkj
  clear hst B5 hkj
  by_cases hlt:k < s.size
  ·have d:decide ((k:Int) < (s.size:Int))=true:=by simp; omega
   have g1:(0:Int)≤(k:Int):=by omega
   have g2:(k:Int) < (s.size:Int):=by omega
   have cD:=hid (fun W=>digit_any (s[k]'hlt) W)
   by_cases hjd:j < ds.length
   ·have ED:=hid (show (s[k]'hlt)=ds[j] from by have e:=KJ.out; subst e; exact HEL.out j hjd hlt)
    have hdg:As.isDig (s[k]'hlt)=true:=by rw [ED.out]; exact HDIG.out _ (List.getElem_mem hjd)
    rw [hdg] at cD
    have DR:=hid hdg
    clear hdg
    by_cases h10:j=10
    ·have RR:=hid (show R=(As.Tok.nil,(5,p),k) by rw [SN.out,if_pos (by omega),KJ.out,h10])
     have d3:((k:Int) - (p:Int) == 10)=true:=by have:=KJ.out; simp; omega
     clear h10
     go_wp2
     go_quiet ((go_at_call 144; exact Calls.quiet_of_same (cD.out _)))
     go_wp2
     have F:=(HS.out.drewN nq).put hbl (.int .i64 0) (.int .i64 0) (.string ⟨#[]⟩) (.int .i64 0) (.int .i64 5) (.int .i64 p) (.string ⟨#[]⟩)
     have e0:=F.1.cell 0
     have e1:=F.1.cell 1
     have e2:=F.1.cell 2
     have e3:=F.1.cell 3
     have h0:=F.2.1.cell 0
     have h1:=F.2.1.cell 1
     have h2:=F.2.1.cell 2
     simp only [List.getElem?_toArray,List.getElem?_cons_succ,List.getElem?_cons_zero] at e0 e1 e2 e3 h0 h1 h2
     refine bodyPost_ret (v:=scanRet R) ?_ rfl ⟨rfl,by rw [RR.out]; exact F.2.2.1,F.2.2.2⟩
     rw [RR.out]
     clear F t0 t1 t2 t3 v0 v1 v2 v3 x0 x1 x2 y0 y1 y2 HS
     simp only [sets,List.foldl_cons,List.foldl_nil] at e0 e1 e2 e3 h0 h1 h2
     generalize World.setCell _ _ _=WF at *
     simp [results,Tryz.results145,go_sem,scanRet,tokA,fltA,As.Tok.nil,bs,e0,e1,e2,e3,h0,h1,h2]
    ·have d3:((k:Int) - (p:Int) == 10)=false:=by have:=KJ.out; simp; omega
     go_wp2
     go_quiet ((go_at_call 144; exact Calls.quiet_of_same (cD.out _)))
     go_wp2
     go_quiet (fail)
     go_wp2
     refine ⟨⟨j+1,k+1,by omega,by omega,?_,(HS.out.drewN _).step hbl (k+1),by have:=KJ.out; omega⟩,meas_step HS.out.sc _ hlt⟩
     rw [HDT.out hjd,← ED.out]
     have:=DR.out
     unfold As.isDig at this
     simp at this
     congr 1
     omega
   ·have hst:=hid (HST.out)
    have ej:j=ds.length:=by omega
    have hdg:As.isDig (s[k]'hlt)=false:=by
     have e:=KJ.out
     subst e
     subst ej
     exact HST.out hlt
    rw [hdg] at cD
    clear hdg
    have cW:=hid (fun W=>inWord_any (s[k]'hlt) W)
    have INW:=hid (show (((sl s)[p+ds.length]?).map As.inWord).getD false=As.inWord (s[k]'hlt) from by
     have e:=KJ.out
     subst e
     subst ej
     rw [List.getElem?_eq_getElem (by rw [SL.out]; exact hlt)]
     rfl)
    have EJ:=hid ej
    clear ej
    cases hw:As.inWord (s[k]'hlt)
    ·have RR:=hid (show R=(⟨2,p,ds,n⟩,(0,0),k) by
      rw [SN.out,if_neg (by have:=EJ.out; omega),INW.out,hw,KJ.out,← HN.out,EJ.out,List.take_length]
      rfl)
     rw [hw] at cW
     clear hw
     have EX:=hid (show s.extract p k=bs ds from by rw [extract_bs,KJ.out,Nat.add_sub_cancel_left,EJ.out]; exact congrArg bs HPRE.out.symm)
     have hpk:(p:Int)≤(k:Int):=by have:=KJ.out; omega
     have hks:(k:Int)≤(s.size:Int):=by have:=KJ.out; omega
     have hp0:(0:Int)≤(p:Int):=by omega
     go_wp2
     go_quiet ((go_at_call 144; exact Calls.quiet_of_same (cD.out _)))
     clear cD
     have HS2:=hid (HS.out.drewN nq)
     generalize wr.drewN nq=V at *
     clear HS c0 c1 f1 t0 t1 t2 t3 v0 v1 v2 v3 x0 x1 x2 y0 y1 y2
     have c0:=HS2.out.sc.c0
     have c1:=HS2.out.sc.c1
     have f1:=HS2.out.sc.f1
     have t0:=HS2.out.t.cell 0
     have t1:=HS2.out.t.cell 1
     have t2:=HS2.out.t.cell 2
     have t3:=HS2.out.t.cell 3
     have v0:=HS2.out.t.free 0
     have v1:=HS2.out.t.free 1
     have v2:=HS2.out.t.free 2
     have v3:=HS2.out.t.free 3
     have x0:=HS2.out.f.cell 0
     have x1:=HS2.out.f.cell 1
     have x2:=HS2.out.f.cell 2
     have y0:=HS2.out.f.free 0
     have y1:=HS2.out.f.free 1
     have y2:=HS2.out.f.free 2
     simp only [List.getElem?_toArray,List.getElem?_cons_succ,List.getElem?_cons_zero] at t0 t1 t2 t3 x0 x1 x2
     go_wp2
     go_quiet ((go_at_call 146; exact Calls.quiet_of_same (cW.out _)))
     go_wp2
     go_region
     go_wp2
     rw [EX.out]
     have F:=(HS2.out.drewN (nq+1)).put hbl (.int .i64 2) (.int .i64 p) (.string (bs ds)) (.int .i64 n) (.int .i64 0) (.int .i64 0) (.string ⟨#[]⟩)
     have e0:=F.1.cell 0
     have e1:=F.1.cell 1
     have e2:=F.1.cell 2
     have e3:=F.1.cell 3
     have h0:=F.2.1.cell 0
     have h1:=F.2.1.cell 1
     have h2:=F.2.1.cell 2
     simp only [List.getElem?_toArray,List.getElem?_cons_succ,List.getElem?_cons_zero] at e0 e1 e2 e3 h0 h1 h2
     refine bodyPost_ret (v:=scanRet R) ?_ rfl ⟨rfl,by rw [RR.out]; exact F.2.2.1,F.2.2.2⟩
     rw [RR.out]
     clear F t0 t1 t2 t3 v0 v1 v2 v3 x0 x1 x2 y0 y1 y2 HS2
     simp only [sets,List.foldl_cons,List.foldl_nil] at e0 e1 e2 e3 h0 h1 h2
     generalize World.setCell _ _ _=WF at *
     simp [results,Tryz.results145,go_sem,scanRet,tokA,fltA,e0,e1,e2,e3,h0,h1,h2]
    ·have RR:=hid (show R=(As.Tok.nil,(2,k),k) by
      rw [SN.out,if_neg (by have:=EJ.out; omega),INW.out,hw,KJ.out,EJ.out]
      rfl)
     rw [hw] at cW
     clear hw
     go_wp2
     go_quiet ((go_at_call 144; exact Calls.quiet_of_same (cD.out _)))
     clear cD
     have HS2:=hid (HS.out.drewN nq)
     generalize wr.drewN nq=V at *
     clear HS c0 c1 f1 t0 t1 t2 t3 v0 v1 v2 v3 x0 x1 x2 y0 y1 y2
     have c0:=HS2.out.sc.c0
     have c1:=HS2.out.sc.c1
     have f1:=HS2.out.sc.f1
     have t0:=HS2.out.t.cell 0
     have t1:=HS2.out.t.cell 1
     have t2:=HS2.out.t.cell 2
     have t3:=HS2.out.t.cell 3
     have v0:=HS2.out.t.free 0
     have v1:=HS2.out.t.free 1
     have v2:=HS2.out.t.free 2
     have v3:=HS2.out.t.free 3
     have x0:=HS2.out.f.cell 0
     have x1:=HS2.out.f.cell 1
     have x2:=HS2.out.f.cell 2
     have y0:=HS2.out.f.free 0
     have y1:=HS2.out.f.free 1
     have y2:=HS2.out.f.free 2
     simp only [List.getElem?_toArray,List.getElem?_cons_succ,List.getElem?_cons_zero] at t0 t1 t2 t3 x0 x1 x2
     go_wp2
     go_quiet ((go_at_call 146; exact Calls.quiet_of_same (cW.out _)))
     go_wp2
     go_region
     go_wp2
     have F:=(HS2.out.drewN (nq+1)).put hbl (.int .i64 0) (.int .i64 0) (.string ⟨#[]⟩) (.int .i64 0) (.int .i64 2) (.int .i64 k) (.string ⟨#[]⟩)
     have e0:=F.1.cell 0
     have e1:=F.1.cell 1
     have e2:=F.1.cell 2
     have e3:=F.1.cell 3
     have h0:=F.2.1.cell 0
     have h1:=F.2.1.cell 1
     have h2:=F.2.1.cell 2
     simp only [List.getElem?_toArray,List.getElem?_cons_succ,List.getElem?_cons_zero] at e0 e1 e2 e3 h0 h1 h2
     refine bodyPost_ret (v:=scanRet R) ?_ rfl ⟨rfl,by rw [RR.out]; exact F.2.2.1,F.2.2.2⟩
     rw [RR.out]
     clear F t0 t1 t2 t3 v0 v1 v2 v3 x0 x1 x2 y0 y1 y2 HS2
     simp only [sets,List.foldl_cons,List.foldl_nil] at e0 e1 e2 e3 h0 h1 h2
     generalize World.setCell _ _ _=WF at *
     simp [results,Tryz.results145,go_sem,scanRet,tokA,fltA,As.Tok.nil,bs,e0,e1,e2,e3,h0,h1,h2]
  ·have d:decide ((k:Int) < (s.size:Int))=false:=by simp; omega
   have ej:j=ds.length:=by have:=KJ.out; omega
   have EJ:=hid ej
   clear ej
   have INW:=hid (show (((sl s)[p+ds.length]?).map As.inWord).getD false=false from by
    have e:=KJ.out
    have e2:=EJ.out
    rw [List.getElem?_eq_none (by rw [SL.out]; omega)]
    rfl)
   have RR:=hid (show R=(⟨2,p,ds,n⟩,(0,0),k) by
    rw [SN.out,if_neg (by have:=EJ.out; omega),INW.out,KJ.out,← HN.out,EJ.out,List.take_length]
    rfl)
   have EX:=hid (show s.extract p k=bs ds from by rw [extract_bs,KJ.out,Nat.add_sub_cancel_left,EJ.out]; exact congrArg bs HPRE.out.symm)
   have hpk:(p:Int)≤(k:Int):=by have:=KJ.out; omega
   have hks:(k:Int)≤(s.size:Int):=by have:=KJ.out; omega
   have hp0:(0:Int)≤(p:Int):=by omega
   go_wp2
   go_quiet (fail)
   have HS2:=hid (HS.out.drewN nq)
   generalize wr.drewN nq=V at *
   clear HS c0 c1 f1 t0 t1 t2 t3 v0 v1 v2 v3 x0 x1 x2 y0 y1 y2
   have c0:=HS2.out.sc.c0
   have c1:=HS2.out.sc.c1
   have f1:=HS2.out.sc.f1
   have t0:=HS2.out.t.cell 0
   have t1:=HS2.out.t.cell 1
   have t2:=HS2.out.t.cell 2
   have t3:=HS2.out.t.cell 3
   have v0:=HS2.out.t.free 0
   have v1:=HS2.out.t.free 1
   have v2:=HS2.out.t.free 2
   have v3:=HS2.out.t.free 3
   have x0:=HS2.out.f.cell 0
   have x1:=HS2.out.f.cell 1
   have x2:=HS2.out.f.cell 2
   have y0:=HS2.out.f.free 0
   have y1:=HS2.out.f.free 1
   have y2:=HS2.out.f.free 2
   simp only [List.getElem?_toArray,List.getElem?_cons_succ,List.getElem?_cons_zero] at t0 t1 t2 t3 x0 x1 x2
   go_wp2
   go_quiet (fail)
   go_wp2
   go_region
   go_wp2
   rw [EX.out]
   have F:=(HS2.out.drewN (nq+1)).put hbl (.int .i64 2) (.int .i64 p) (.string (bs ds)) (.int .i64 n) (.int .i64 0) (.int .i64 0) (.string ⟨#[]⟩)
   have e0:=F.1.cell 0
   have e1:=F.1.cell 1
   have e2:=F.1.cell 2
   have e3:=F.1.cell 3
   have h0:=F.2.1.cell 0
   have h1:=F.2.1.cell 1
   have h2:=F.2.1.cell 2
   simp only [List.getElem?_toArray,List.getElem?_cons_succ,List.getElem?_cons_zero] at e0 e1 e2 e3 h0 h1 h2
   refine bodyPost_ret (v:=scanRet R) ?_ rfl ⟨rfl,by rw [RR.out]; exact F.2.2.1,F.2.2.2⟩
   rw [RR.out]
   clear F t0 t1 t2 t3 v0 v1 v2 v3 x0 x1 x2 y0 y1 y2 HS2
   simp only [sets,List.foldl_cons,List.foldl_nil] at e0 e1 e2 e3 h0 h1 h2
   generalize World.setCell _ _ _=WF at *
   simp [results,Tryz.results145,go_sem,scanRet,tokA,fltA,e0,e1,e2,e3,h0,h1,h2]

end Go.Proofs.YtnfgdlkiialnnaaGreatDoor

namespace Go.Proofs.YtnfgdlkiialnnaaGreatDoor
open Go.RowKit

theorem BlkAt.drew {W:World} {g:Nat} {cs:Array Value} {t:TypeId} (h:BlkAt W g cs t):BlkAt W.drew g cs t:=h
theorem NumSt.begin {s:ByteArray} {b:Nat} {tail:List Value} {p:Nat} {w:World} (h:ScAt s b tail p w):NumSt s b tail w p ((w.alloc (.cells #[.int .i64 0,.int .i64 0,.string ⟨#[]⟩,.int .i64 0] 83)).alloc (.cells #[.int .i64 0,.int .i64 0,.string ⟨#[]⟩] 45)):=by
 refine ⟨(BlkAt.new w _ _).grown (World.grownBy_alloc _ _ none) (by simp),?_,(h.grown (World.grownBy_alloc _ _ none)).grown (World.grownBy_alloc _ _ none),grown_trans (World.grownBy_alloc _ _ _) (World.grownBy_alloc _ _ _)⟩
 have:=BlkAt.new (w.alloc (.cells #[.int .i64 0,.int .i64 0,.string ⟨#[]⟩,.int .i64 0] 83)) #[.int .i64 0,.int .i64 0,.string ⟨#[]⟩] 45
 rw [show (w.alloc (.cells #[.int .i64 0,.int .i64 0,.string ⟨#[]⟩,.int .i64 0] 83)).heap.size=w.heap.size+1 by simp] at this
 exact this
theorem NumSt.call {s:ByteArray} {b:Nat} {tail:List Value} {w:World} {k k':Nat} {W W':World} (h:NumSt s b tail w k W) (hb:b < w.heap.size) (hsc:ScAt s b tail k' W') (hg:W.grownBy W' (some b)):NumSt s b tail w k' W' :=
 ⟨h.t.grown hg (by simp; omega),h.f.grown hg (by simp; omega),hsc,grown_trans h.gr hg⟩

set_option maxRecDepth 100000 in
set_option maxHeartbeats 4000000 in
theorem next_any (s:ByteArray) (b:Nat) (tail:List Value) (p:Nat) (w:World) (h:ScAt s b tail p w) (hs:s.size≤1000) (hp:p≤s.size) :
  Calls Tryz.prog 106 #[.pointer (some ⟨b,0,none⟩)] w fun e w'=>e = .returned (scanRet (As.next (sl s) p))∧ScAt s b tail (As.next (sl s) p).2.2 w'∧w.grownBy w' (some b):=by
 have hbl:=BlkAt.lt h
 have B0:=hid (NumSt.begin h)
 have hqs:As.skip As.blank (sl s) p≤s.size:=by have:=skip_le (f:=As.blank) (s:=sl s) (k:=p) (by rw [sl_length]; exact hp); rw [sl_length] at this; exact this
 have cB:=hid (fun W hW=>passBlanks_any s b tail p W hW hs hp)
 have RR:=hid (show As.next (sl s) p=As.nextAt (sl s) (As.skip As.blank (sl s) p) from rfl)
 clear h
 generalize As.next (sl s) p=R at *
 generalize As.skip As.blank (sl s) p=q at *
 have cE:=hid (fun W hW=>ended_any s b tail q W hW hs hqs)
 have cN:=hid (fun W hW=>scanNum_any s b tail q W hW hs hqs)
 have cW:=hid (fun W hW=>passWord_any s b tail q W hW hs hqs)
 go_enter Tryz.func106,Tryz.ntmps106
 go_wp2_with fail
 refine Calls.at_world (NumSt s b tail w p) B0.out ?_
 clear B0
 intro V h0
 refine (cB.out V h0.sc).mono ?_
 rintro e V1 ⟨rfl,hsc,hg⟩
 have H1:=hid (h0.call hbl hsc hg)
 clear h0 hsc hg cB V
 have c1:=H1.out.sc.c1
 go_wp2_with fail
 refine (cE.out V1 H1.out.sc).mono ?_
 rintro e V2 ⟨rfl,nn,rfl⟩
 have H2:=hid (H1.out.drewN nn)
 clear H1 cE c1
 generalize V1.drewN nn=V2 at *
 by_cases hlt:q < s.size
 ·have GQ:=hid (show (sl s)[q]?=some (s[q]'hlt) from by rw [List.getElem?_eq_getElem (by rw [sl_length]; exact hlt)]; rfl)
  have RR2:=hid (show R=(if As.ends (s[q]'hlt) then (⟨4,q,[],0⟩,(0,0),q) else if As.isDig (s[q]'hlt) then As.scanNum (sl s) q else if As.inWord (s[q]'hlt) then (⟨1,q,((sl s).drop q).takeWhile As.inWord,0⟩,(0,0),As.skip As.inWord (sl s) q) else if As.isSign (s[q]'hlt) then (⟨3,q,[s[q]'hlt],0⟩,(0,0),q+1) else (As.Tok.nil,(2,q),q)) from by
   rw [RR.out]; unfold As.nextAt; rw [GQ.out])
  rw [show ((sl s)[q]?.map As.ends).getD true=As.ends (s[q]'hlt) from by rw [GQ.out]; rfl]
  clear RR GQ
  cases hE:As.ends (s[q]'hlt)
  ·simp only [hE,Bool.false_eq_true,if_false] at RR2
   clear hE
   have c0:=H2.out.sc.c0
   have c1:=H2.out.sc.c1
   have f1:=H2.out.sc.f1
   have t0:=H2.out.t.cell 0
   have t1:=H2.out.t.cell 1
   have t2:=H2.out.t.cell 2
   have t3:=H2.out.t.cell 3
   have v0:=H2.out.t.free 0
   have v1:=H2.out.t.free 1
   have v2:=H2.out.t.free 2
   have v3:=H2.out.t.free 3
   have x0:=H2.out.f.cell 0
   have x1:=H2.out.f.cell 1
   have x2:=H2.out.f.cell 2
   have y0:=H2.out.f.free 0
   have y1:=H2.out.f.free 1
   have y2:=H2.out.f.free 2
   simp only [List.getElem?_toArray,List.getElem?_cons_succ,List.getElem?_cons_zero] at t0 t1 t2 t3 x0 x1 x2
   have g1:(0:Int)≤(q:Int):=by omega
   have g2:(q:Int) < (s.size:Int):=by omega
   have cD:=hid (fun W=>digit_any (s[q]'hlt) W)
   have cI:=hid (fun W=>inWord_any (s[q]'hlt) W)
   have cS:=hid (fun W=>isSign_any (s[q]'hlt) W)
   go_wp2_with fail
   refine (cD.out _).mono ?_
   rintro e w1 ⟨rfl,rfl⟩
   clear cD
   cases hD:As.isDig (s[q]'hlt)
   ·simp only [hD,Bool.false_eq_true,if_false] at RR2
    clear hD
    go_wp2_with fail
    refine (cI.out _).mono ?_
    rintro e w1 ⟨rfl,rfl⟩
    clear cI
    cases hI:As.inWord (s[q]'hlt)
    ·simp only [hI,Bool.false_eq_true,if_false] at RR2
     clear hI
     go_wp2_with fail
     refine (cS.out _).mono ?_
     rintro e w1 ⟨rfl,rfl⟩
     clear cS
     cases hS:As.isSign (s[q]'hlt)
     ·simp only [hS,Bool.false_eq_true,if_false] at RR2
      clear hS
      have RF:=hid RR2.out
      go_wp2
      have F:=H2.out.put hbl (.int .i64 0) (.int .i64 0) (.string ⟨#[]⟩) (.int .i64 0) (.int .i64 2) (.int .i64 q) (.string ⟨#[]⟩)
      have e0:=F.1.cell 0
      have e1:=F.1.cell 1
      have e2:=F.1.cell 2
      have e3:=F.1.cell 3
      have h0:=F.2.1.cell 0
      have h1:=F.2.1.cell 1
      have h2:=F.2.1.cell 2
      simp only [List.getElem?_toArray,List.getElem?_cons_succ,List.getElem?_cons_zero] at e0 e1 e2 e3 h0 h1 h2
      refine bodyPost_ret (v:=scanRet R) ?_ rfl ⟨rfl,by rw [RF.out]; exact F.2.2.1,F.2.2.2⟩
      rw [RF.out]
      clear F t0 t1 t2 t3 v0 v1 v2 v3 x0 x1 x2 y0 y1 y2 H2
      simp only [sets,List.foldl_cons,List.foldl_nil] at e0 e1 e2 e3 h0 h1 h2
      generalize World.setCell _ _ _=WF at *
      simp [results,Tryz.results106,go_sem,scanRet,tokA,fltA,As.Tok.nil,bs,e0,e1,e2,e3,h0,h1,h2]
     ·simp only [hS,if_true] at RR2
      clear hS
      have RF:=hid RR2.out
      have EX:=hid (show s.extract q (q+1)=bs [s[q]'hlt] from by rw [extract_bs,Nat.add_sub_cancel_left]; exact congrArg bs (by rw [List.drop_eq_getElem_cons (by rw [sl_length]; exact hlt)]; rfl))
      have g3:(q:Int)+1≤(s.size:Int):=by omega
      have g4:(q:Int)≤(q:Int)+1:=by omega
      go_wp2
      go_region
      go_wp2
      rw [EX.out]
      have F:=(show NumSt s b tail w (q+1) (w1.setCell ⟨b,1,none⟩ (.int .i64 ((q:Int)+1))) from H2.out.step hbl (q+1)).put hbl (.int .i64 3) (.int .i64 q) (.string (bs [s[q]'hlt])) (.int .i64 0) (.int .i64 0) (.int .i64 0) (.string ⟨#[]⟩)
      have e0:=F.1.drew.cell 0
      have e1:=F.1.drew.cell 1
      have e2:=F.1.drew.cell 2
      have e3:=F.1.drew.cell 3
      have h0:=F.2.1.drew.cell 0
      have h1:=F.2.1.drew.cell 1
      have h2:=F.2.1.drew.cell 2
      simp only [List.getElem?_toArray,List.getElem?_cons_succ,List.getElem?_cons_zero] at e0 e1 e2 e3 h0 h1 h2
      refine bodyPost_ret (v:=scanRet R) ?_ rfl ⟨rfl,by rw [RF.out]; exact BlkAt.drew F.2.2.1,grown_drew F.2.2.2⟩
      rw [RF.out]
      clear F t0 t1 t2 t3 v0 v1 v2 v3 x0 x1 x2 y0 y1 y2 H2
      simp only [sets,List.foldl_cons,List.foldl_nil] at e0 e1 e2 e3 h0 h1 h2
      generalize World.drew _=WF at *
      simp [results,Tryz.results106,go_sem,scanRet,tokA,fltA,e0,e1,e2,e3,h0,h1,h2]
    ·simp only [hI,if_true] at RR2
     clear hI
     have RF:=hid RR2.out
     have hr:=skip_le (f:=As.inWord) (s:=sl s) (k:=q) (by rw [sl_length]; omega)
     rw [sl_length] at hr
     have hr2:=skip_ge As.inWord (sl s) q
     have EX:=hid (show s.extract q (As.skip As.inWord (sl s) q)=bs (((sl s).drop q).takeWhile As.inWord) from by
      rw [extract_bs]
      unfold As.skip
      rw [Nat.add_sub_cancel_left]
      exact congrArg bs (List.prefix_iff_eq_take.1 (List.takeWhile_prefix As.inWord)).symm)
     clear t0 t1 t2 t3 v0 v1 v2 v3 x0 x1 x2 y0 y1 y2 c0 c1 f1
     go_wp2_with fail
     refine (cW.out _ H2.out.sc).mono ?_
     rintro e V3 ⟨rfl,hsc,hg⟩
     have H3:=hid (H2.out.call hbl hsc hg)
     clear hsc hg cW H2
     generalize As.skip As.inWord (sl s) q=r at *
     generalize ((sl s).drop q).takeWhile As.inWord=tx at *
     have g3:(q:Int)≤(r:Int):=by omega
     have g4:(r:Int)≤(s.size:Int):=by omega
     have c0:=H3.out.sc.c0
     have c1:=H3.out.sc.c1
     have f1:=H3.out.sc.f1
     have t0:=H3.out.t.cell 0
     have t1:=H3.out.t.cell 1
     have t2:=H3.out.t.cell 2
     have t3:=H3.out.t.cell 3
     have v0:=H3.out.t.free 0
     have v1:=H3.out.t.free 1
     have v2:=H3.out.t.free 2
     have v3:=H3.out.t.free 3
     have x0:=H3.out.f.cell 0
     have x1:=H3.out.f.cell 1
     have x2:=H3.out.f.cell 2
     have y0:=H3.out.f.free 0
     have y1:=H3.out.f.free 1
     have y2:=H3.out.f.free 2
     simp only [List.getElem?_toArray,List.getElem?_cons_succ,List.getElem?_cons_zero] at t0 t1 t2 t3 x0 x1 x2
     go_wp2
     go_region
     go_wp2
     rw [EX.out]
     have F:=H3.out.put hbl (.int .i64 1) (.int .i64 q) (.string (bs tx)) (.int .i64 0) (.int .i64 0) (.int .i64 0) (.string ⟨#[]⟩)
     have e0:=F.1.drew.cell 0
     have e1:=F.1.drew.cell 1
     have e2:=F.1.drew.cell 2
     have e3:=F.1.drew.cell 3
     have h0:=F.2.1.drew.cell 0
     have h1:=F.2.1.drew.cell 1
     have h2:=F.2.1.drew.cell 2
     simp only [List.getElem?_toArray,List.getElem?_cons_succ,List.getElem?_cons_zero] at e0 e1 e2 e3 h0 h1 h2
     refine bodyPost_ret (v:=scanRet R) ?_ rfl ⟨rfl,by rw [RF.out]; exact BlkAt.drew F.2.2.1,grown_drew F.2.2.2⟩
     rw [RF.out]
     clear F t0 t1 t2 t3 v0 v1 v2 v3 x0 x1 x2 y0 y1 y2 H3
     simp only [sets,List.foldl_cons,List.foldl_nil] at e0 e1 e2 e3 h0 h1 h2
     generalize World.drew _=WF at *
     simp [results,Tryz.results106,go_sem,scanRet,tokA,fltA,e0,e1,e2,e3,h0,h1,h2]
   ·simp only [hD,if_true] at RR2
    clear hD
    have RF:=hid RR2.out
    clear t0 t1 t2 t3 v0 v1 v2 v3 x0 x1 x2 y0 y1 y2 c0 c1 f1
    go_wp2_with fail
    refine (cN.out _ H2.out.sc).mono ?_
    rintro e V3 ⟨rfl,hsc,hg⟩
    have H3:=hid (H2.out.call hbl hsc hg)
    clear hsc hg cN H2
    generalize As.scanNum (sl s) q=R3 at *
    obtain ⟨⟨kk,pp,tt,nn⟩,⟨fe,fa⟩,rr⟩:=R3
    simp only [scanRet,tokA,fltA]
    have c0:=H3.out.sc.c0
    have c1:=H3.out.sc.c1
    have f1:=H3.out.sc.f1
    have t0:=H3.out.t.cell 0
    have t1:=H3.out.t.cell 1
    have t2:=H3.out.t.cell 2
    have t3:=H3.out.t.cell 3
    have v0:=H3.out.t.free 0
    have v1:=H3.out.t.free 1
    have v2:=H3.out.t.free 2
    have v3:=H3.out.t.free 3
    have x0:=H3.out.f.cell 0
    have x1:=H3.out.f.cell 1
    have x2:=H3.out.f.cell 2
    have y0:=H3.out.f.free 0
    have y1:=H3.out.f.free 1
    have y2:=H3.out.f.free 2
    simp only [List.getElem?_toArray,List.getElem?_cons_succ,List.getElem?_cons_zero] at t0 t1 t2 t3 x0 x1 x2
    go_wp2
    have F:=H3.out.put hbl (.int .i64 kk) (.int .i64 pp) (.string (bs tt)) (.int .i64 nn) (.int .i64 fe) (.int .i64 fa) (.string ⟨#[]⟩)
    have e0:=F.1.cell 0
    have e1:=F.1.cell 1
    have e2:=F.1.cell 2
    have e3:=F.1.cell 3
    have h0:=F.2.1.cell 0
    have h1:=F.2.1.cell 1
    have h2:=F.2.1.cell 2
    simp only [List.getElem?_toArray,List.getElem?_cons_succ,List.getElem?_cons_zero] at e0 e1 e2 e3 h0 h1 h2
    refine bodyPost_ret (v:=scanRet R) ?_ rfl ⟨rfl,by rw [RF.out]; exact F.2.2.1,F.2.2.2⟩
    rw [RF.out]
    clear F t0 t1 t2 t3 v0 v1 v2 v3 x0 x1 x2 y0 y1 y2 H3
    simp only [sets,List.foldl_cons,List.foldl_nil] at e0 e1 e2 e3 h0 h1 h2
    generalize World.setCell _ _ _=WF at *
    simp [results,Tryz.results106,go_sem,scanRet,tokA,fltA,e0,e1,e2,e3,h0,h1,h2]
  ·simp only [hE,if_true] at RR2
   clear hE
   have RF:=hid RR2.out
   have c0:=H2.out.sc.c0
   have c1:=H2.out.sc.c1
   have f1:=H2.out.sc.f1
   have t0:=H2.out.t.cell 0
   have t1:=H2.out.t.cell 1
   have t2:=H2.out.t.cell 2
   have t3:=H2.out.t.cell 3
   have v0:=H2.out.t.free 0
   have v1:=H2.out.t.free 1
   have v2:=H2.out.t.free 2
   have v3:=H2.out.t.free 3
   have x0:=H2.out.f.cell 0
   have x1:=H2.out.f.cell 1
   have x2:=H2.out.f.cell 2
   have y0:=H2.out.f.free 0
   have y1:=H2.out.f.free 1
   have y2:=H2.out.f.free 2
   simp only [List.getElem?_toArray,List.getElem?_cons_succ,List.getElem?_cons_zero] at t0 t1 t2 t3 x0 x1 x2
   go_wp2
   have F:=H2.out.put hbl (.int .i64 4) (.int .i64 q) (.string ⟨#[]⟩) (.int .i64 0) (.int .i64 0) (.int .i64 0) (.string ⟨#[]⟩)
   have e0:=F.1.cell 0
   have e1:=F.1.cell 1
   have e2:=F.1.cell 2
   have e3:=F.1.cell 3
   have h0:=F.2.1.cell 0
   have h1:=F.2.1.cell 1
   have h2:=F.2.1.cell 2
   simp only [List.getElem?_toArray,List.getElem?_cons_succ,List.getElem?_cons_zero] at e0 e1 e2 e3 h0 h1 h2
   refine bodyPost_ret (v:=scanRet R) ?_ rfl ⟨rfl,by rw [RF.out]; exact F.2.2.1,F.2.2.2⟩
   rw [RF.out]
   clear F t0 t1 t2 t3 v0 v1 v2 v3 x0 x1 x2 y0 y1 y2 H2
   simp only [sets,List.foldl_cons,List.foldl_nil] at e0 e1 e2 e3 h0 h1 h2
   generalize World.setCell _ _ _=WF at *
   simp [results,Tryz.results106,go_sem,scanRet,tokA,fltA,bs,e0,e1,e2,e3,h0,h1,h2]
 ·have RF:=hid (show R=(⟨4,q,[],0⟩,(0,0),q) from by rw [RR.out]; unfold As.nextAt; rw [List.getElem?_eq_none (by rw [sl_length]; omega)])
  rw [show ((sl s)[q]?.map As.ends).getD true=true from by rw [List.getElem?_eq_none (by rw [sl_length]; omega)]; rfl]
  have c0:=H2.out.sc.c0
  have c1:=H2.out.sc.c1
  have f1:=H2.out.sc.f1
  have t0:=H2.out.t.cell 0
  have t1:=H2.out.t.cell 1
  have t2:=H2.out.t.cell 2
  have t3:=H2.out.t.cell 3
  have v0:=H2.out.t.free 0
  have v1:=H2.out.t.free 1
  have v2:=H2.out.t.free 2
  have v3:=H2.out.t.free 3
  have x0:=H2.out.f.cell 0
  have x1:=H2.out.f.cell 1
  have x2:=H2.out.f.cell 2
  have y0:=H2.out.f.free 0
  have y1:=H2.out.f.free 1
  have y2:=H2.out.f.free 2
  simp only [List.getElem?_toArray,List.getElem?_cons_succ,List.getElem?_cons_zero] at t0 t1 t2 t3 x0 x1 x2
  go_wp2
  have F:=H2.out.put hbl (.int .i64 4) (.int .i64 q) (.string ⟨#[]⟩) (.int .i64 0) (.int .i64 0) (.int .i64 0) (.string ⟨#[]⟩)
  have e0:=F.1.cell 0
  have e1:=F.1.cell 1
  have e2:=F.1.cell 2
  have e3:=F.1.cell 3
  have h0:=F.2.1.cell 0
  have h1:=F.2.1.cell 1
  have h2:=F.2.1.cell 2
  simp only [List.getElem?_toArray,List.getElem?_cons_succ,List.getElem?_cons_zero] at e0 e1 e2 e3 h0 h1 h2
  refine bodyPost_ret (v:=scanRet R) ?_ rfl ⟨rfl,by rw [RF.out]; exact F.2.2.1,F.2.2.2⟩
  rw [RF.out]
  clear F t0 t1 t2 t3 v0 v1 v2 v3 x0 x1 x2 y0 y1 y2 H2
  simp only [sets,List.foldl_cons,List.foldl_nil] at e0 e1 e2 e3 h0 h1 h2
  generalize World.setCell _ _ _=WF at *
  simp [results,Tryz.results106,go_sem,scanRet,tokA,fltA,bs,e0,e1,e2,e3,h0,h1,h2]

end Go.Proofs.YtnfgdlkiialnnaaGreatDoor

namespace Go.Proofs.YtnfgdlkiialnnaaGreatDoor
open Go.RowKit

set_option maxHeartbeats 2000000 in
theorem lineEnd_any (s:ByteArray) (b:Nat) (tail:List Value) (p:Nat) (w:World) (h:ScAt s b tail p w) (hs:s.size≤1000) (hp:p≤s.size) :
  Calls Tryz.prog 79 #[.pointer (some ⟨b,0,none⟩)] w fun e w'=>e = .returned (.bool (As.lineEnd (sl s) p).1)∧ScAt s b tail (As.lineEnd (sl s) p).2 w'∧w.grownBy w' (some b):=by
 have H:=hid h
 clear h
 have SL:=hid (sl_length s)
 go_enter Tryz.func79,Tryz.ntmps79
 go_wp2
 go_loopw [] (fun wr=>∃ k:Nat,k≤s.size∧ScAt s b tail k wr∧As.skip As.notEnd (sl s) k=As.skip As.notEnd (sl s) p∧w.grownBy wr (some b)) (fun wr=>s.size - posOf b wr)
 case atStart=>exact ⟨p,hp,H.out,rfl,World.grownBy.refl _ _⟩
 case round =>
  obtain ⟨k,hk,hsc,hsk,hgr⟩:=hrel
  have c0:=hsc.c0
  have c1:=hsc.c1
  have f1:=hsc.f1
  have HS:=hid hsc
  have HK:=hid hsk
  have HG:=hid hgr
  clear hsc hsk hgr
  by_cases hlt:k < s.size
  ·have d:decide ((k:Int) < (s.size:Int))=true:=by simp; omega
   have g1:(0:Int)≤(k:Int):=by omega
   have g2:(k:Int) < (s.size:Int):=by omega
   have HL:=hid (show k < (sl s).length by rw [SL.out]; exact hlt)
   have GET:=hid (sl_get s k hlt)
   by_cases e1:(s[k]'hlt).toNat=10
   ·have d1:(((s[k]'hlt).toNat:Int) == 10)=true:=by simp; omega
    have d2:(((s[k]'hlt).toNat:Int) != 10)=false:=by simp; omega
    have d3:decide ((s.size:Int)≤(k:Int))=false:=by simp; omega
    have E:=hid (skip_stop (f:=As.notEnd) HL.out (by rw [GET.out]; unfold As.notEnd; rw [e1]; rfl))
    clear e1
    go_wp2
    go_quiet (fail)
    go_wp2
    go_quiet (fail)
    go_wp2
    go_ret
    have F:As.lineEnd (sl s) p=(true,k+1):=by unfold As.lineEnd; rw [← HK.out,E.out,if_pos HL.out]
    rw [F]
    exact ⟨rfl,HS.out.step _ (k+1),grown_step HG.out _ _⟩
   ·have d1:(((s[k]'hlt).toNat:Int) == 10)=false:=by simp; omega
    have d2:(((s[k]'hlt).toNat:Int) != 10)=true:=by simp; omega
    have E:=hid (skip_go (f:=As.notEnd) HL.out (by rw [GET.out]; unfold As.notEnd; rw [beq_eq_false_iff_ne.2 e1]; rfl))
    clear e1
    go_wp2
    go_quiet (fail)
    go_wp2
    go_roundw
    case rel=>exact ⟨k+1,by omega,HS.out.step _ (k+1),by rw [← E.out,HK.out],grown_step HG.out _ _⟩
    case measure=>exact meas_step HS.out _ hlt
  ·have d:decide ((k:Int) < (s.size:Int))=false:=by simp; omega
   have d3:decide ((s.size:Int)≤(k:Int))=true:=by simp; omega
   have E:=hid (skip_end (f:=As.notEnd) (s:=sl s) (k:=k) (by rw [SL.out]; omega))
   go_wp2
   go_quiet (fail)
   go_wp2
   go_quiet (fail)
   go_wp2
   go_ret
   have F:As.lineEnd (sl s) p=(false,k):=by unfold As.lineEnd; rw [← HK.out,E.out,if_neg (by rw [SL.out]; exact hlt)]
   rw [F]
   exact ⟨rfl,(HS.out.drewN _).drewN _,grown_drewN (grown_drewN HG.out _) _⟩

end Go.Proofs.YtnfgdlkiialnnaaGreatDoor
