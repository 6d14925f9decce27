/- Linking: walks over names. -/
/- Linking: what is wanted, what is there. -/
/- Linking: needs, names and their meanings. -/
/- Linking: names that are there twice, or not. -/
import Derived.Test.YtpgklkhgfcjceaaGreatDoorG06
import Derived.Deep.CutRange
import Derived.Deep.RegionHeld3
namespace Go.Proofs.YtpgklkhgfcjceaaGreatDoor
open Go.RowKit
theorem ykK (n:List UInt8) (bind:Int) (os:List Lk.Obj) (k:Nat) (h:k < os.length):Ln.findAt n bind k (os.drop k)=match Ln.findIn n bind os[k].syms with | some (s,f)=>⟨some k,s,f⟩ | none=>Ln.findAt n bind (k+1) (os.drop (k+1)):=by
 rw [ysu h,Ln.findAt]
 cases Ln.findIn n bind os[k].syms <;> rfl
theorem ykL (n:List UInt8) (bind:Int) (ys:List Lk.Sym) (k:Nat) (h:k < ys.length):Ln.findIn n bind (ys.drop k)=if ys[k].name=n/\ys[k].bind=bind/\ys[k].sect≠0 then some (ys[k].sect,ys[k].off) else Ln.findIn n bind (ys.drop (k+1)):=by
 rw [ysu h,Ln.findIn]
theorem yx {w V:World} (h:w.grownBy V none) (r:Nat) (hr:w.heap.size<=r) (a b c:Value):w.grownBy (((V.setCell ⟨r,0,none⟩ a).setCell ⟨r,1,none⟩ b).setCell ⟨r,2,none⟩ c) none :=
 yN (yN (yN h (yf V r 0 a) (by intro k e; simp at e; omega)) (yf _ r 1 b) (by intro k e; simp at e; omega)) (yf _ r 2 c) (by intro k e; simp at e; omega)
set_option maxRecDepth 100000 in
set_option maxHeartbeats 8000000 in
theorem yju (ao:Option Addr) (cap:Nat) (bl:List Nat) (os:List Lk.Obj) (nm:List UInt8) (bind:Int) (w:World) (h:yaV w ao bl os) :
  Calls Tryz.prog 102 #[.slice ao bl.length cap,.string (bs nm),.int .i64 bind] w fun e w'=>e = .returned (yay bl (Ln.find os nm bind))/\w.grownBy w' none:=by
 have H:=hid h
 have hfew:=h.few
 have HL:=hid h.len
 have G0:=hid (ysp w (.cells #[.pointer none,.int .i64 0,.int .i64 0] 123) none)
 have B0:=hid (yc.new w #[.pointer none,.int .i64 0,.int .i64 0] 123)
 have hbl:bl.length<=4096:=by rw [h.len]; exact hfew
 clear h
 go_enter Tryz.func102,Tryz.ntmps102
 go_wp2
 generalize w.alloc (.cells #[.pointer none,.int .i64 0,.int .i64 0] 123)=W1 at *
 go_loopw [13] (fun i wr=>∃ k:Nat,k<=bl.length/\i = .int .i64 k/\Ln.find os nm bind=Ln.findAt nm bind k (os.drop k)/\W1.grownBy wr none) (fun i _=>bl.length - (intOf i).toNat)
 case atStart=>exact ⟨0,Nat.zero_le _,rfl,rfl,World.grownBy.refl _ _⟩
 case round =>
  obtain ⟨k,hk,rfl,hf,hgr⟩:=hrel
  have HF:=hid hf
  have HG:=hid hgr
  clear hf hgr
  by_cases hlt:k < bl.length
  ·have hko:k < os.length:=by rw [<- HL.out]; exact hlt
   have MI:=H.out.kept (ya G0.out HG.out)
   obtain ⟨g0,off,hao,hc⟩:=MI.ptrs (by omega)
   subst hao
   obtain ⟨og,hm0,hob⟩:=MI.mod k hlt hko
   have ck:=hc k hlt
   obtain ⟨at_,ct,af,cf,ad,cd,aa,ca,as_,cs,ar,cr,hb,-,-,-,-,q5,-⟩:=hob.open
   have S:=hid (yag.of_own q5)
   have k5:=hb.cell 5
   simp only [ysk,ysl,ysj] at k5
   have hns:=MI.syms os[k] (ysr hko)
   have FD:=hid (ykK nm bind os k hko)
   clear hc hob hb q5 MI
   generalize os[k].syms=ys at *
   generalize hbk:bl[k]=bk at *
   have HBK:=hid hbk
   clear hbk
   have g1:(k:Int) < (bl.length:Int):=by omega
   obtain ⟨U,hU⟩:∃ U:World,U=wr:=⟨_,rfl⟩
   subst hU
   go_wp2
   go_loopw [25] (fun i wr=>∃ j:Nat,j<=ys.length/\i = .int .i64 j/\Ln.findIn nm bind ys=Ln.findIn nm bind (ys.drop j)/\U.grownBy wr none) (fun i _=>ys.length - (intOf i).toNat)
   case atStart=>exact ⟨0,Nat.zero_le _,rfl,rfl,World.grownBy.refl _ _⟩
   case round =>
    obtain ⟨j,hj,rfl,hf2,hgr2⟩:=hrel
    have HF2:=hid hf2
    have HG2:=hid hgr2
    clear hf2 hgr2 ck hm0 k5
    by_cases hlt2:j < ys.length
    ·obtain ⟨sg,hsg,hgs,hcs⟩:=S.out.grown HG2.out (by omega)
     subst hsg
     obtain ⟨q0,q1,q2,q3⟩:=hcs j hlt2
     clear hcs
     have g2:(j:Int) < (ys.length:Int):=by omega
     have FI:=hid (ykL nm bind ys j hlt2)
     generalize ys[j]=y at *
     have GA:=hid (fun ob:Obj=>ysp wr ob none)
     have NX:=hid (fun (hn:¬ (y.name=nm/\y.bind=bind/\y.sect≠0))=>show Ln.findIn nm bind ys=Ln.findIn nm bind (ys.drop (j+1)) by rw [HF2.out,FI.out,if_neg hn])
     by_cases e1:y.name=nm
     ·have b1:((bs y.name).toList == (bs nm).toList)=true:=by rw [e1]; simp
      by_cases e2:y.bind=bind
      ·have b2:(y.bind == bind)=true:=by simpa using e2
       by_cases e3:y.sect=0
       ·have b3:(y.sect == 0)=true:=by simpa using e3
        have E:=hid (NX.out (fun h=>h.2.2 e3))
        clear e1 e2 e3
        go_wp2
        go_roundw
        case rel=>exact ⟨j+1,by omega,by go_num,E.out,ya HG2.out (GA.out _)⟩
        case measure=>simp [intOf]; omega
       ·have b3:(y.sect == 0)=false:=by simpa using e3
        have E:=hid (show Ln.find os nm bind=⟨some k,y.sect,y.off⟩ by rw [HF.out,FD.out,HF2.out,FI.out,if_pos ⟨e1,e2,e3⟩])
        have BR:=hid (B0.out.grown (ya HG.out HG2.out) (by simp))
        have hRl:=BR.out.lt
        have z0:=BR.out.cell 0
        have z1:=BR.out.cell 1
        have z2:=BR.out.cell 2
        simp only [ysk,ysl,ysj] at z0 z1 z2
        have f0:=BR.out.free 0
        have f1:=BR.out.free 1
        have f2:=BR.out.free 2
        have hRn:w.heap.size≠wr.heap.size:=by omega
        have PO:=hid (show yap bl (some k)=some ⟨bk,0,none⟩ by unfold yap; rw [Option.bind_some,yst hlt,Option.map_some,HBK.out])
        clear e1 e2
        go_wp2
        have F:=(((BR.out.set 0 (.pointer (some ⟨bk,0,none⟩))).set 1 (.int .i64 y.sect)).set 2 (.int .i64 y.off)).grown (ysp _ (.cells #[.string (bs y.name),.int .i64 y.bind,.int .i64 y.sect,.int .i64 y.off] 100) none) (by simp)
        have h0:=F.cell 0
        have h1:=F.cell 1
        have h2:=F.cell 2
        simp only [yso,ysm,ysn,ysk,ysl,ysj] at h0 h1 h2
        refine bodyPost_ret (v:=yay bl ⟨some k,y.sect,y.off⟩) ?_ rfl ⟨by rw [E.out],ya (yx (ya G0.out (ya HG.out HG2.out)) _ (Nat.le_refl _) _ _ _) (ysp _ _ none)⟩
        clear F z0 z1 z2 f0 f1 f2 q0 q1 q2 q3
        generalize World.alloc _ _=WF at *
        simp [results,Tryz.results102,go_sem,yay,PO.out,h0,h1,h2]
      ·have b2:(y.bind == bind)=false:=by simpa using e2
       have E:=hid (NX.out (fun h=>e2 h.2.1))
       clear e1 e2
       go_wp2
       go_roundw
       case rel=>exact ⟨j+1,by omega,by go_num,E.out,ya HG2.out (GA.out _)⟩
       case measure=>simp [intOf]; omega
     ·have b1:((bs y.name).toList == (bs nm).toList)=false:=by rw [yH,yH]; simpa using e1
      have E:=hid (NX.out (fun h=>e1 h.1))
      clear e1
      go_wp2
      go_roundw
      case rel=>exact ⟨j+1,by omega,by go_num,E.out,ya HG2.out (GA.out _)⟩
      case measure=>simp [intOf]; omega
    ·obtain rfl:j=ys.length:=by omega
     have E:=hid (show Ln.findIn nm bind ys=none by rw [HF2.out,List.drop_length]; rfl)
     have g3:decide ((ys.length:Int) < (ys.length:Int))=false:=by simp
     go_wp2
     go_roundw
     case rel=>exact ⟨k+1,by omega,by go_num,by rw [HF.out,FD.out,E.out],ya HG.out HG2.out⟩
     case measure=>simp [intOf]; omega
  ·obtain rfl:k=bl.length:=by omega
   have E:=hid (show Ln.find os nm bind=Ln.none_ by rw [HF.out,HL.out,List.drop_length]; rfl)
   have g3:decide ((bl.length:Int) < (bl.length:Int))=false:=by simp
   have BR:=hid (B0.out.grown HG.out (by simp))
   have z0:=BR.out.cell 0
   have z1:=BR.out.cell 1
   have z2:=BR.out.cell 2
   simp only [ysk,ysl,ysj] at z0 z1 z2
   have f0:=BR.out.free 0
   have f1:=BR.out.free 1
   have f2:=BR.out.free 2
   go_wp2
   have F:=((BR.out.set 0 (.pointer none)).set 1 (.int .i64 0)).set 2 (.int .i64 0)
   have h0:=F.cell 0
   have h1:=F.cell 1
   have h2:=F.cell 2
   simp only [yso,ysm,ysn,ysk,ysl,ysj] at h0 h1 h2
   refine bodyPost_ret (v:=yay bl Ln.none_) ?_ rfl ⟨by rw [E.out],yx (ya G0.out HG.out) _ (Nat.le_refl _) _ _ _⟩
   clear F z0 z1 z2 f0 f1 f2
   generalize World.setCell _ _ _=WF at *
   simp [results,Tryz.results102,go_sem,yay,yap,Ln.none_,h0,h1,h2]
theorem yna (os:List Lk.Obj) (nm:List UInt8) (k:Nat) (h:k < os.length):((os.drop k).any fun o=>o.syms.any fun y=>decide (y.name=nm) && Ln.wanted y)=((os[k].syms.any fun y=>decide (y.name=nm) && Ln.wanted y) || (os.drop (k+1)).any fun o=>o.syms.any fun y=>decide (y.name=nm) && Ln.wanted y):=by
 rw [ysu h,List.any_cons]
theorem ypJ (ys:List Lk.Sym) (nm:List UInt8) (k:Nat) (h:k < ys.length):((ys.drop k).any fun y=>decide (y.name=nm) && Ln.wanted y)=((decide (ys[k].name=nm) && Ln.wanted ys[k]) || (ys.drop (k+1)).any fun y=>decide (y.name=nm) && Ln.wanted y):=by
 rw [ysu h,List.any_cons]
set_option maxRecDepth 100000 in
set_option maxHeartbeats 8000000 in
theorem yot (P:Nat) (ao:Option Addr) (cap:Nat) (bl:List Nat) (os:List Lk.Obj) (nm:List UInt8) (w:World) (hp:w.cell? ⟨P,3,none⟩=some (.slice ao bl.length cap)) (h:yaV w ao bl os) :
  Calls Tryz.prog 213 #[.pointer (some ⟨P,0,none⟩),.string (bs nm)] w fun e w'=>e = .returned (.bool (Ln.wants os nm))/\w.grownBy w' none:=by
 have H:=hid h
 have HL:=hid h.len
 have hbl:bl.length<=4096:=by rw [h.len]; exact h.few
 have cC:=hid (fun y W=>yhs y W)
 unfold symA at cC
 clear h
 go_enter Tryz.func213,Tryz.ntmps213
 go_wp2
 go_loopw [14] (fun i wr=>∃ k:Nat,k<=bl.length/\i = .int .i64 k/\Ln.wants os nm=((os.drop k).any fun o=>o.syms.any fun y=>decide (y.name=nm) && Ln.wanted y)/\w.grownBy wr none) (fun i _=>bl.length - (intOf i).toNat)
 case atStart=>exact ⟨0,Nat.zero_le _,rfl,rfl,World.grownBy.refl _ _⟩
 case round =>
  obtain ⟨k,hk,rfl,hf,hgr⟩:=hrel
  have HF:=hid hf
  have HG:=hid hgr
  clear hf hgr
  by_cases hlt:k < bl.length
  ·have hko:k < os.length:=by rw [<- HL.out]; exact hlt
   have MI:=H.out.kept HG.out
   obtain ⟨g0,off,hao,hc⟩:=MI.ptrs (by omega)
   subst hao
   obtain ⟨og,hm0,hob⟩:=MI.mod k hlt hko
   have ck:=hc k hlt
   obtain ⟨at_,ct,af,cf,ad,cd,aa,ca,as_,cs,ar,cr,hb,-,-,-,-,q5,-⟩:=hob.open
   have S:=hid (yag.of_own q5)
   have k5:=hb.cell 5
   simp only [ysk,ysl,ysj] at k5
   have hns:=MI.syms os[k] (ysr hko)
   have FD:=hid (yna os nm k hko)
   clear hc hob hb q5 MI
   generalize os[k].syms=ys at *
   generalize bl[k]=bk at *
   have g1:(k:Int) < (bl.length:Int):=by omega
   obtain ⟨U,hU⟩:∃ U:World,U=wr:=⟨_,rfl⟩
   subst hU
   go_wp2
   go_loopw [26] (fun i wr=>∃ j:Nat,j<=ys.length/\i = .int .i64 j/\(ys.any fun y=>decide (y.name=nm) && Ln.wanted y)=((ys.drop j).any fun y=>decide (y.name=nm) && Ln.wanted y)/\U.grownBy wr none) (fun i _=>ys.length - (intOf i).toNat)
   case atStart=>exact ⟨0,Nat.zero_le _,rfl,rfl,World.grownBy.refl _ _⟩
   case round =>
    obtain ⟨j,hj,rfl,hf2,hgr2⟩:=hrel
    have HF2:=hid hf2
    have HG2:=hid hgr2
    clear hf2 hgr2 ck hm0 k5
    by_cases hlt2:j < ys.length
    ·obtain ⟨sg,hsg,hgs,hcs⟩:=S.out.grown HG2.out (by omega)
     subst hsg
     obtain ⟨q0,q1,q2,q3⟩:=hcs j hlt2
     clear hcs
     have g2:(j:Int) < (ys.length:Int):=by omega
     have FI:=hid (ypJ ys nm j hlt2)
     generalize ys[j]=y at *
     have cY:=hid (cC.out y)
     have GA:=hid (fun ob:Obj=>ysp wr ob none)
     by_cases e1:y.name=nm
     ·have b1:((bs y.name).toList == (bs nm).toList)=true:=by rw [e1]; simp
      cases e2:Ln.wanted y
      ·have E:=hid (show (ys.any fun y=>decide (y.name=nm) && Ln.wanted y)=((ys.drop (j+1)).any fun y=>decide (y.name=nm) && Ln.wanted y) by rw [HF2.out,FI.out,e2]; simp)
       rw [e2] at cY
       clear e1 e2
       go_wp2_with fail
       refine (cY.out _).mono ?_
       rintro e W5 ⟨rfl,h5⟩
       have G5:=hid (ya HG2.out (ya (GA.out _) h5))
       clear h5
       go_wp2
       go_roundw
       case rel=>exact ⟨j+1,by omega,by go_num,E.out,G5.out⟩
       case measure=>simp [intOf]; omega
      ·have E:=hid (show Ln.wants os nm=true by rw [HF.out,FD.out,HF2.out,FI.out,e2,decide_eq_true e1]; simp)
       rw [e2] at cY
       clear e1 e2
       go_wp2_with fail
       refine (cY.out _).mono ?_
       rintro e W5 ⟨rfl,h5⟩
       have G5:=hid (ya HG2.out (ya (GA.out _) h5))
       clear h5
       go_wp2
       go_ret
       exact ⟨yaI E.out.symm,ya HG.out G5.out⟩
     ·have b1:((bs y.name).toList == (bs nm).toList)=false:=by rw [yH,yH]; simpa using e1
      have E:=hid (show (ys.any fun y=>decide (y.name=nm) && Ln.wanted y)=((ys.drop (j+1)).any fun y=>decide (y.name=nm) && Ln.wanted y) by rw [HF2.out,FI.out,decide_eq_false e1]; simp)
      clear e1
      go_wp2
      go_roundw
      case rel=>exact ⟨j+1,by omega,by go_num,E.out,ya HG2.out (GA.out _)⟩
      case measure=>simp [intOf]; omega
    ·obtain rfl:j=ys.length:=by omega
     have E:=hid (show (ys.any fun y=>decide (y.name=nm) && Ln.wanted y)=false by rw [HF2.out,List.drop_length]; rfl)
     have g3:decide ((ys.length:Int) < (ys.length:Int))=false:=by simp
     go_wp2
     go_roundw
     case rel=>exact ⟨k+1,by omega,by go_num,by rw [HF.out,FD.out,E.out,Bool.false_or],ya HG.out HG2.out⟩
     case measure=>simp [intOf]; omega
  ·obtain rfl:k=bl.length:=by omega
   have E:=hid (show Ln.wants os nm=false by rw [HF.out,HL.out,List.drop_length]; rfl)
   have g3:decide ((bl.length:Int) < (bl.length:Int))=false:=by simp
   go_wp2
   go_ret
   exact ⟨yaI E.out.symm,HG.out⟩
theorem yoR (os:List Lk.Obj) (nm:List UInt8) (k:Nat) (h:k < os.length):((os.drop k).any fun o=>o.syms.any fun y=>decide (y.name=nm) && Ln.defines y)=((os[k].syms.any fun y=>decide (y.name=nm) && Ln.defines y) || (os.drop (k+1)).any fun o=>o.syms.any fun y=>decide (y.name=nm) && Ln.defines y):=by
 rw [ysu h,List.any_cons]
theorem yrx (ys:List Lk.Sym) (nm:List UInt8) (k:Nat) (h:k < ys.length):((ys.drop k).any fun y=>decide (y.name=nm) && Ln.defines y)=((decide (ys[k].name=nm) && Ln.defines ys[k]) || (ys.drop (k+1)).any fun y=>decide (y.name=nm) && Ln.defines y):=by
 rw [ysu h,List.any_cons]
set_option maxRecDepth 100000 in
set_option maxHeartbeats 8000000 in
theorem yqw (P:Nat) (ao:Option Addr) (cap:Nat) (bl:List Nat) (os:List Lk.Obj) (nm:List UInt8) (w:World) (hp:w.cell? ⟨P,3,none⟩=some (.slice ao bl.length cap)) (h:yaV w ao bl os) :
  Calls Tryz.prog 214 #[.pointer (some ⟨P,0,none⟩),.string (bs nm)] w fun e w'=>e = .returned (.bool (Ln.has os nm))/\w.grownBy w' none:=by
 have H:=hid h
 have HL:=hid h.len
 have hbl:bl.length<=4096:=by rw [h.len]; exact h.few
 have cC:=hid (fun y W=>yfX y W)
 unfold symA at cC
 clear h
 go_enter Tryz.func214,Tryz.ntmps214
 go_wp2
 go_loopw [14] (fun i wr=>∃ k:Nat,k<=bl.length/\i = .int .i64 k/\Ln.has os nm=((os.drop k).any fun o=>o.syms.any fun y=>decide (y.name=nm) && Ln.defines y)/\w.grownBy wr none) (fun i _=>bl.length - (intOf i).toNat)
 case atStart=>exact ⟨0,Nat.zero_le _,rfl,rfl,World.grownBy.refl _ _⟩
 case round =>
  obtain ⟨k,hk,rfl,hf,hgr⟩:=hrel
  have HF:=hid hf
  have HG:=hid hgr
  clear hf hgr
  by_cases hlt:k < bl.length
  ·have hko:k < os.length:=by rw [<- HL.out]; exact hlt
   have MI:=H.out.kept HG.out
   obtain ⟨g0,off,hao,hc⟩:=MI.ptrs (by omega)
   subst hao
   obtain ⟨og,hm0,hob⟩:=MI.mod k hlt hko
   have ck:=hc k hlt
   obtain ⟨at_,ct,af,cf,ad,cd,aa,ca,as_,cs,ar,cr,hb,-,-,-,-,q5,-⟩:=hob.open
   have S:=hid (yag.of_own q5)
   have k5:=hb.cell 5
   simp only [ysk,ysl,ysj] at k5
   have hns:=MI.syms os[k] (ysr hko)
   have FD:=hid (yoR os nm k hko)
   clear hc hob hb q5 MI
   generalize os[k].syms=ys at *
   generalize bl[k]=bk at *
   have g1:(k:Int) < (bl.length:Int):=by omega
   obtain ⟨U,hU⟩:∃ U:World,U=wr:=⟨_,rfl⟩
   subst hU
   go_wp2
   go_loopw [26] (fun i wr=>∃ j:Nat,j<=ys.length/\i = .int .i64 j/\(ys.any fun y=>decide (y.name=nm) && Ln.defines y)=((ys.drop j).any fun y=>decide (y.name=nm) && Ln.defines y)/\U.grownBy wr none) (fun i _=>ys.length - (intOf i).toNat)
   case atStart=>exact ⟨0,Nat.zero_le _,rfl,rfl,World.grownBy.refl _ _⟩
   case round =>
    obtain ⟨j,hj,rfl,hf2,hgr2⟩:=hrel
    have HF2:=hid hf2
    have HG2:=hid hgr2
    clear hf2 hgr2 ck hm0 k5
    by_cases hlt2:j < ys.length
    ·obtain ⟨sg,hsg,hgs,hcs⟩:=S.out.grown HG2.out (by omega)
     subst hsg
     obtain ⟨q0,q1,q2,q3⟩:=hcs j hlt2
     clear hcs
     have g2:(j:Int) < (ys.length:Int):=by omega
     have FI:=hid (yrx ys nm j hlt2)
     generalize ys[j]=y at *
     have cY:=hid (cC.out y)
     have GA:=hid (fun ob:Obj=>ysp wr ob none)
     by_cases e1:y.name=nm
     ·have b1:((bs y.name).toList == (bs nm).toList)=true:=by rw [e1]; simp
      cases e2:Ln.defines y
      ·have E:=hid (show (ys.any fun y=>decide (y.name=nm) && Ln.defines y)=((ys.drop (j+1)).any fun y=>decide (y.name=nm) && Ln.defines y) by rw [HF2.out,FI.out,e2]; simp)
       rw [e2] at cY
       clear e1 e2
       go_wp2_with fail
       refine (cY.out _).mono ?_
       rintro e W5 ⟨rfl,h5⟩
       have G5:=hid (ya HG2.out (ya (GA.out _) h5))
       clear h5
       go_wp2
       go_roundw
       case rel=>exact ⟨j+1,by omega,by go_num,E.out,G5.out⟩
       case measure=>simp [intOf]; omega
      ·have E:=hid (show Ln.has os nm=true by rw [HF.out,FD.out,HF2.out,FI.out,e2,decide_eq_true e1]; simp)
       rw [e2] at cY
       clear e1 e2
       go_wp2_with fail
       refine (cY.out _).mono ?_
       rintro e W5 ⟨rfl,h5⟩
       have G5:=hid (ya HG2.out (ya (GA.out _) h5))
       clear h5
       go_wp2
       go_ret
       exact ⟨yaI E.out.symm,ya HG.out G5.out⟩
     ·have b1:((bs y.name).toList == (bs nm).toList)=false:=by rw [yH,yH]; simpa using e1
      have E:=hid (show (ys.any fun y=>decide (y.name=nm) && Ln.defines y)=((ys.drop (j+1)).any fun y=>decide (y.name=nm) && Ln.defines y) by rw [HF2.out,FI.out,decide_eq_false e1]; simp)
      clear e1
      go_wp2
      go_roundw
      case rel=>exact ⟨j+1,by omega,by go_num,E.out,ya HG2.out (GA.out _)⟩
      case measure=>simp [intOf]; omega
    ·obtain rfl:j=ys.length:=by omega
     have E:=hid (show (ys.any fun y=>decide (y.name=nm) && Ln.defines y)=false by rw [HF2.out,List.drop_length]; rfl)
     have g3:decide ((ys.length:Int) < (ys.length:Int))=false:=by simp
     go_wp2
     go_roundw
     case rel=>exact ⟨k+1,by omega,by go_num,by rw [HF.out,FD.out,E.out,Bool.false_or],ya HG.out HG2.out⟩
     case measure=>simp [intOf]; omega
  ·obtain rfl:k=bl.length:=by omega
   have E:=hid (show Ln.has os nm=false by rw [HF.out,HL.out,List.drop_length]; rfl)
   have g3:decide ((bl.length:Int) < (bl.length:Int))=false:=by simp
   go_wp2
   go_ret
   exact ⟨yaI E.out.symm,HG.out⟩
set_option maxRecDepth 100000 in
set_option maxHeartbeats 8000000 in
theorem yob (P:Nat) (ao:Option Addr) (cap:Nat) (bl:List Nat) (os:List Lk.Obj) (og:Nat) (o:Lk.Obj) (w:World) (hp:w.cell? ⟨P,3,none⟩=some (.slice ao bl.length cap)) (h:yaV w ao bl os) (ho:yr w og o) (hns:o.syms.length<=65535) :
  Calls Tryz.prog 166 #[.pointer (some ⟨P,0,none⟩),.pointer (some ⟨og,0,none⟩)] w fun e w'=>e = .returned (.bool (Ln.needs os o))/\w.grownBy w' none:=by
 have cD:=hid (fun y W=>yfX y W)
 have cW:=hid (fun nm W (hg:w.grownBy W none)=>yot P ao cap bl os nm W (yd hp hg) (h.kept hg))
 have cH:=hid (fun nm W (hg:w.grownBy W none)=>yqw P ao cap bl os nm W (yd hp hg) (h.kept hg))
 unfold symA at cD
 obtain ⟨at_,ct,af,cf,ad,cd,aa,ca,as_,cs,ar,cr,hb,-,-,-,-,q5,-⟩:=ho.open
 have S:=hid (yag.of_own q5)
 have k5:=hb.cell 5
 simp only [ysk,ysl,ysj] at k5
 have ND:=hid (show Ln.needs os o=o.syms.any fun y=>Ln.defines y && (Ln.wants os y.name && !Ln.has os y.name) from rfl)
 clear h ho hb q5 hp
 generalize Ln.needs os o=N at *
 generalize o.syms=ys at *
 go_enter Tryz.func166,Tryz.ntmps166
 go_wp2
 go_loopw [12] (fun i wr=>∃ j:Nat,j<=ys.length/\i = .int .i64 j/\N=((ys.drop j).any fun y=>Ln.defines y && (Ln.wants os y.name && !Ln.has os y.name))/\w.grownBy wr none) (fun i _=>ys.length - (intOf i).toNat)
 case atStart=>exact ⟨0,Nat.zero_le _,rfl,ND.out,World.grownBy.refl _ _⟩
 case round =>
  obtain ⟨j,hj,rfl,hf2,hgr2⟩:=hrel
  have HF2:=hid hf2
  have HG2:=hid hgr2
  clear hf2 hgr2 k5
  by_cases hlt2:j < ys.length
  ·obtain ⟨sg,hsg,hgs,hcs⟩:=S.out.grown HG2.out (by omega)
   subst hsg
   obtain ⟨q0,q1,q2,q3⟩:=hcs j hlt2
   clear hcs
   have g2:(j:Int) < (ys.length:Int):=by omega
   have FI:=hid (show N=((Ln.defines ys[j] && (Ln.wants os ys[j].name && !Ln.has os ys[j].name)) || (ys.drop (j+1)).any fun y=>Ln.defines y && (Ln.wants os y.name && !Ln.has os y.name)) by rw [HF2.out,ysu hlt2,List.any_cons])
   generalize ys[j]=y at *
   have cY:=hid (cD.out y)
   have cWY:=hid (cW.out y.name)
   have cHY:=hid (cH.out y.name)
   have BX:=hid (yc.new wr #[.string (bs y.name),.int .i64 y.bind,.int .i64 y.sect,.int .i64 y.off] 100)
   have GA:=hid (ysp wr (.cells #[.string (bs y.name),.int .i64 y.bind,.int .i64 y.sect,.int .i64 y.off] 100) none)
   have GW:=hid (ya HG2.out GA.out)
   go_wp2_with fail
   refine (cY.out _).mono ?_
   rintro e W5 ⟨rfl,h5⟩
   have G5:=hid (ya GW.out h5)
   have B5:=hid (BX.out.grown h5 (by simp))
   clear h5 cY q0 q1 q2 q3
   have x0:W5.cell? ⟨wr.heap.size,0,none⟩=some (.string (bs y.name)):=B5.out.cell 0
   cases e1:Ln.defines y
   ·have E:=hid (show N=((ys.drop (j+1)).any fun y=>Ln.defines y && (Ln.wants os y.name && !Ln.has os y.name)) by rw [FI.out,e1]; simp)
    clear e1
    go_wp2
    go_roundw
    case rel=>exact ⟨j+1,by omega,by go_num,E.out,G5.out⟩
    case measure=>simp [intOf]; omega
   ·have E1:=hid e1
    clear e1
    go_wp2_with fail
    refine (cWY.out _ G5.out).mono ?_
    rintro e W6 ⟨rfl,h6⟩
    have G6:=hid (ya G5.out h6)
    have B6:=hid (B5.out.grown h6 (by simp))
    clear h6 cWY x0
    have x0:W6.cell? ⟨wr.heap.size,0,none⟩=some (.string (bs y.name)):=B6.out.cell 0
    cases e2:Ln.wants os y.name
    ·have E:=hid (show N=((ys.drop (j+1)).any fun y=>Ln.defines y && (Ln.wants os y.name && !Ln.has os y.name)) by rw [FI.out,e2]; simp)
     clear e2
     go_wp2
     go_roundw
     case rel=>exact ⟨j+1,by omega,by go_num,E.out,G6.out⟩
     case measure=>simp [intOf]; omega
    ·have E2:=hid e2
     clear e2
     go_wp2_with fail
     refine (cHY.out _ G6.out).mono ?_
     rintro e W7 ⟨rfl,h7⟩
     have G7:=hid (ya G6.out h7)
     clear h7 cHY x0
     cases e3:Ln.has os y.name
     ·have E:=hid (show N=true by rw [FI.out,E1.out,E2.out,e3]; simp)
      clear e3
      go_wp2
      go_ret
      exact ⟨yaI E.out.symm,G7.out⟩
     ·have E:=hid (show N=((ys.drop (j+1)).any fun y=>Ln.defines y && (Ln.wants os y.name && !Ln.has os y.name)) by rw [FI.out,e3]; simp)
      clear e3
      go_wp2
      go_roundw
      case rel=>exact ⟨j+1,by omega,by go_num,E.out,G7.out⟩
      case measure=>simp [intOf]; omega
  ·obtain rfl:j=ys.length:=by omega
   have E:=hid (show N=false by rw [HF2.out,List.drop_length]; rfl)
   have g3:decide ((ys.length:Int) < (ys.length:Int))=false:=by simp
   go_wp2
   go_ret
   exact ⟨yaI E.out.symm,HG2.out⟩
theorem ynu (n:List UInt8) (bind:Int):∀ (os:List Lk.Obj) (k i:Nat),(Ln.findAt n bind k os).mod=some i->k<=i/\i < k+os.length:=by
 intro os
 induction os with
 | nil=>intro k i h; cases h
 | cons o os ih =>
  intro k i h
  rw [Ln.findAt] at h
  cases hf:Ln.findIn n bind o.syms with
  | none =>
   rw [hf] at h
   have:=ih (k+1) i h
   simp only [yss]
   omega
  | some p =>
   rw [hf] at h
   simp only [Option.some.injEq] at h
   simp only [yss]
   omega
theorem yfT (os:List Lk.Obj) (n:List UInt8) (bind:Int) (i:Nat) (h:(Ln.find os n bind).mod=some i):i < os.length:=by
 have:=ynu n bind os 0 i h
 omega
theorem ycY {bl:List Nat} {i:Nat} (h:i < bl.length):yap bl (some i)=some ⟨bl[i],0,none⟩:=by
 unfold yap
 rw [Option.bind_some,yst h,Option.map_some]
set_option maxRecDepth 100000 in
set_option maxHeartbeats 4000000 in
theorem yeT (P:Nat) (ao:Option Addr) (cap:Nat) (bl:List Nat) (os:List Lk.Obj) (nm:List UInt8) (w:World) (hp:w.cell? ⟨P,3,none⟩=some (.slice ao bl.length cap)) (h:yaV w ao bl os) :
  Calls Tryz.prog 67 #[.pointer (some ⟨P,0,none⟩),.string (bs nm)] w fun e w'=>e = .returned (yay bl (Ln.named os nm))/\w.grownBy w' none:=by
 have cF:=hid (fun bind W (hg:w.grownBy W none)=>yju ao cap bl os nm bind W (h.kept hg))
 have HP:=hid hp
 have hP:=World.block_lt_of_cell? w _ hp
 have FL:=hid (fun i (hi:(Ln.find os nm 1).mod=some i)=>show i < bl.length by rw [h.len]; exact yfT os nm 1 i hi)
 have c1:=hid (cF.out 1)
 have c2:=hid (cF.out 2)
 have NM:=hid (show Ln.named os nm=if (Ln.find os nm 1).mod.isSome then Ln.find os nm 1 else Ln.find os nm 2 from rfl)
 clear hp h cF
 generalize Ln.named os nm=N at *
 generalize Ln.find os nm 2=F2 at *
 generalize Ln.find os nm 1=F1 at *
 obtain ⟨m1,s1,o1⟩:=F1
 dsimp only at NM FL
 have G0:=hid (ysp w (.cells #[.pointer none,.int .i64 0,.int .i64 0] 123) none)
 have B0:=hid (yc.new w #[.pointer none,.int .i64 0,.int .i64 0] 123)
 have c3:=yd HP.out G0.out
 unfold yay at c1
 dsimp only at c1
 go_enter Tryz.func67,Tryz.ntmps67
 go_wp2_with fail
 refine (c1.out _ G0.out).mono ?_
 rintro e W1 ⟨rfl,h1⟩
 have G1:=hid (ya G0.out h1)
 have B1:=hid (B0.out.grown h1 (by simp))
 clear h1 c1 c3
 have hlt:=B1.out.lt
 have z0:W1.cell? ⟨w.heap.size,0,none⟩=some (.pointer none):=B1.out.cell 0
 have z1:W1.cell? ⟨w.heap.size,1,none⟩=some (.int .i64 0):=B1.out.cell 1
 have z2:W1.cell? ⟨w.heap.size,2,none⟩=some (.int .i64 0):=B1.out.cell 2
 have f0:=B1.out.free 0
 have f1:=B1.out.free 1
 have f2:=B1.out.free 2
 cases m1 with
 | some i =>
  have hi:=FL.out i rfl
  have PO:=hid (ycY hi)
  rw [PO.out]
  generalize bl[i]=bi at *
  go_wp2
  have F:=(((B1.out.set 0 (.pointer (some ⟨bi,0,none⟩))).set 1 (.int .i64 s1)).set 2 (.int .i64 o1)).grown (ysp _ (.cells #[.pointer (some ⟨bi,0,none⟩),.int .i64 s1,.int .i64 o1] 123) none) (by simp)
  have h0:=F.cell 0
  have h1:=F.cell 1
  have h2:=F.cell 2
  simp only [yso,ysm,ysn,ysk,ysl,ysj] at h0 h1 h2
  refine bodyPost_ret (v:=yay bl ⟨some i,s1,o1⟩) ?_ rfl ⟨by rw [NM.out]; rfl,ya (yx G1.out _ (Nat.le_refl _) _ _ _) (ysp _ _ none)⟩
  clear F z0 z1 z2 f0 f1 f2
  generalize World.alloc _ _=WF at *
  simp [results,Tryz.results67,go_sem,yay,PO.out,h0,h1,h2]
 | none =>
  rw [show yap bl none=none from rfl]
  have c3:=yd HP.out (ya G1.out (ysp W1 (.cells #[.pointer none,.int .i64 s1,.int .i64 o1] 123) none))
  go_wp2_with fail
  refine (c2.out _ (ya G1.out (ysp _ _ none))).mono ?_
  rintro e W2 ⟨rfl,h2⟩
  have G2:=hid (ya (ya G1.out (ysp _ _ none)) h2)
  have B2:=hid ((B1.out.grown (ysp _ _ none) (by simp)).grown h2 (by simp))
  clear h2 c2 c3 z0 z1 z2 f0 f1 f2
  have z0:W2.cell? ⟨w.heap.size,0,none⟩=some (.pointer none):=B2.out.cell 0
  have z1:W2.cell? ⟨w.heap.size,1,none⟩=some (.int .i64 0):=B2.out.cell 1
  have z2:W2.cell? ⟨w.heap.size,2,none⟩=some (.int .i64 0):=B2.out.cell 2
  have f0:=B2.out.free 0
  have f1:=B2.out.free 1
  have f2:=B2.out.free 2
  unfold yay
  obtain ⟨m2,s2,o2⟩:=F2
  dsimp only
  generalize hq:yap bl m2=q at *
  have HQ:=hid hq
  clear hq
  go_wp2
  have F:=((B2.out.set 0 (.pointer q)).set 1 (.int .i64 s2)).set 2 (.int .i64 o2)
  have h0:=F.cell 0
  have h1:=F.cell 1
  have h2:=F.cell 2
  simp only [yso,ysm,ysn,ysk,ysl,ysj] at h0 h1 h2
  refine bodyPost_ret (v:=yay bl ⟨m2,s2,o2⟩) ?_ rfl ⟨by rw [NM.out]; rfl,yx G2.out _ (Nat.le_refl _) _ _ _⟩
  clear F z0 z1 z2 f0 f1 f2
  generalize World.setCell _ _ _=WF at *
  simp [results,Tryz.results67,go_sem,yay,HQ.out,h0,h1,h2]
set_option maxRecDepth 100000 in
set_option maxHeartbeats 4000000 in
theorem ykX (P:Nat) (ao:Option Addr) (cap:Nat) (bl:List Nat) (os:List Lk.Obj) (i:Nat) (hi:i < bl.length) (y:Lk.Sym) (w:World) (hp:w.cell? ⟨P,3,none⟩=some (.slice ao bl.length cap)) (h:yaV w ao bl os) :
  Calls Tryz.prog 66 #[.pointer (some ⟨P,0,none⟩),.pointer (some ⟨bl[i],0,none⟩),symA y] w fun e w'=>e = .returned (yay bl (Ln.meaning os i y))/\w.grownBy w' none:=by
 obtain ⟨n,b,s,o⟩:=y
 have cN:=hid (fun W (hg:w.grownBy W none)=>yeT P ao cap bl os n W (yd hp hg) (h.kept hg))
 have PO:=hid (ycY hi)
 have SZ:=hid (show (w.alloc (.cells #[.string (bs n),.int .i64 b,.int .i64 s,.int .i64 o] 100)).heap.size=w.heap.size+1 from Array.size_push _)
 have A0:=hid (ysp w (.cells #[.string (bs n),.int .i64 b,.int .i64 s,.int .i64 o] 100) none)
 have A1:=hid (ysp (w.alloc (.cells #[.string (bs n),.int .i64 b,.int .i64 s,.int .i64 o] 100)) (.cells #[.pointer none,.int .i64 0,.int .i64 0] 123) none)
 have B0:=hid (yc.new (w.alloc (.cells #[.string (bs n),.int .i64 b,.int .i64 s,.int .i64 o] 100)) #[.pointer none,.int .i64 0,.int .i64 0] 123)
 rw [SZ.out] at B0
 clear h hp
 unfold symA
 dsimp only
 by_cases hb:b=0
 ·subst hb
  have NM:=hid (show Ln.meaning os i ⟨n,0,s,o⟩=⟨some i,s,o⟩ from rfl)
  go_enter Tryz.func66,Tryz.ntmps66
  go_wp2
  refine bodyPost_ret (v:=yay bl ⟨some i,s,o⟩) ?_ rfl ⟨by rw [NM.out],ya (ysp _ _ none) (ysp _ _ none)⟩
  simp [results,Tryz.results66,go_sem,yay,PO.out]
 ·have NM:=hid (show Ln.meaning os i ⟨n,b,s,o⟩=Ln.named os n from if_neg hb)
  have d1:(b == 0)=false:=by simpa using hb
  generalize Ln.named os n=N at *
  go_enter Tryz.func66,Tryz.ntmps66
  go_wp2_with fail
  refine (cN.out _ (ya A0.out A1.out)).mono ?_
  rintro e W2 ⟨rfl,h2⟩
  have G2:=hid (ya (ya A0.out A1.out) h2)
  have B2:=hid (B0.out.grown h2 (by simp))
  clear h2 cN
  have z0:W2.cell? ⟨w.heap.size+1,0,none⟩=some (.pointer none):=B2.out.cell 0
  have z1:W2.cell? ⟨w.heap.size+1,1,none⟩=some (.int .i64 0):=B2.out.cell 1
  have z2:W2.cell? ⟨w.heap.size+1,2,none⟩=some (.int .i64 0):=B2.out.cell 2
  have f0:=B2.out.free 0
  have f1:=B2.out.free 1
  have f2:=B2.out.free 2
  unfold yay
  obtain ⟨m2,s2,o2⟩:=N
  dsimp only
  generalize hq:yap bl m2=q at *
  have HQ:=hid hq
  clear hq
  go_wp2
  have F:=((B2.out.set 0 (.pointer q)).set 1 (.int .i64 s2)).set 2 (.int .i64 o2)
  have h0:=F.cell 0
  have h1:=F.cell 1
  have h2:=F.cell 2
  simp only [yso,ysm,ysn,ysk,ysl,ysj] at h0 h1 h2
  refine bodyPost_ret (v:=yay bl ⟨m2,s2,o2⟩) ?_ rfl ⟨by rw [NM.out],yx G2.out _ (by omega) _ _ _⟩
  clear F z0 z1 z2 f0 f1 f2
  generalize World.setCell _ _ _=WF at *
  simp [results,Tryz.results66,go_sem,yay,HQ.out,h0,h1,h2]
def lfA (f:Ln.Flt):Value:=.agg #[.int .i64 f.e,.int .i64 f.at_,.string (bs f.name)]
theorem yks (os r:List Lk.Obj) (k:Nat) (h:k < r.length):Ln.twiceAt os k (r.drop k)=match Ln.twiceIn os k r[k].syms with | some f=>f | none=>Ln.twiceAt os (k+1) (r.drop (k+1)):=by
 rw [ysu h,Ln.twiceAt]
 cases Ln.twiceIn os k r[k].syms <;> rfl
theorem ykt (os:List Lk.Obj) (i:Nat) (ys:List Lk.Sym) (k:Nat) (h:k < ys.length):Ln.twiceIn os i (ys.drop k)=if ys[k].bind≠1\/ys[k].sect=0 then Ln.twiceIn os i (ys.drop (k+1)) else if (Ln.find (os.take i) ys[k].name 1).mod.isSome then some ⟨33,i,ys[k].name⟩ else Ln.twiceIn os i (ys.drop (k+1)):=by
 rw [ysu h,Ln.twiceIn]
theorem yiT (os r:List Lk.Obj) (k:Nat) (h:k < r.length):Ln.wantedAt os k (r.drop k)=match Ln.wantedIn os k r[k].syms with | some f=>f | none=>Ln.wantedAt os (k+1) (r.drop (k+1)):=by
 rw [ysu h,Ln.wantedAt]
 cases Ln.wantedIn os k r[k].syms <;> rfl
theorem yiU (os:List Lk.Obj) (i:Nat) (ys:List Lk.Sym) (k:Nat) (h:k < ys.length):Ln.wantedIn os i (ys.drop k)=if Ln.wanted ys[k]=false then Ln.wantedIn os i (ys.drop (k+1)) else if (Ln.named os ys[k].name).mod.isSome then Ln.wantedIn os i (ys.drop (k+1)) else some ⟨34,i,ys[k].name⟩:=by
 rw [ysu h,Ln.wantedIn]
theorem ygy (os:List Lk.Obj) (n:List UInt8) (i:Nat) (h:(Ln.named os n).mod=some i):i < os.length:=by
 unfold Ln.named at h
 split at h
 ·exact yfT os n 1 i h
 ·exact yfT os n 2 i h
set_option maxRecDepth 100000 in
set_option maxHeartbeats 8000000 in
theorem yhF (P:Nat) (ao:Option Addr) (cap:Nat) (bl:List Nat) (os:List Lk.Obj) (w:World) (hp:w.cell? ⟨P,3,none⟩=some (.slice ao bl.length cap)) (h:yaV w ao bl os) (hcap:bl.length<=cap) (hcm:cap<=maxLen) :
  Calls Tryz.prog 68 #[.pointer (some ⟨P,0,none⟩)] w fun e w'=>e = .returned (lfA (Ln.checkTwice os))/\w.grownBy w' none:=by
 have H:=hid h
 have HL:=hid h.len
 have hbl:bl.length<=4096:=by rw [h.len]; exact h.few
 have HP:=hid hp
 have G0:=hid (ysp w (.cells #[.int .i64 0,.int .i64 0,.string ⟨#[]⟩] 45) none)
 have B0:=hid (yc.new w #[.int .i64 0,.int .i64 0,.string ⟨#[]⟩] 45)
 have c3:=yd hp G0.out
 have hPw:=World.block_lt_of_cell? w _ hp
 have hcm2:=hcm
 unfold maxLen at hcm2
 clear h hp hcm
 go_enter Tryz.func68,Tryz.ntmps68
 go_wp2
 generalize w.alloc (.cells #[.int .i64 0,.int .i64 0,.string ⟨#[]⟩] 45)=W1 at *
 go_loopw [13] (fun i wr=>∃ k:Nat,k<=bl.length/\i = .int .i64 k/\Ln.checkTwice os=Ln.twiceAt os k (os.drop k)/\W1.grownBy wr none) (fun i _=>bl.length - (intOf i).toNat)
 case atStart=>exact ⟨0,Nat.zero_le _,rfl,rfl,World.grownBy.refl _ _⟩
 case round =>
  obtain ⟨k,hk,rfl,hf,hgr⟩:=hrel
  have HF:=hid hf
  have HG:=hid hgr
  clear hf hgr
  by_cases hlt:k < bl.length
  ·have hko:k < os.length:=by rw [<- HL.out]; exact hlt
   have MI:=H.out.kept (ya G0.out HG.out)
   obtain ⟨g0,off,hao,hc⟩:=MI.ptrs (by omega)
   subst hao
   obtain ⟨og,hm0,hob⟩:=MI.mod k hlt hko
   have ck:=hc k hlt
   obtain ⟨at_,ct,af,cf,ad,cd,aa,ca,as_,cs,ar,cr,hb,-,-,-,-,q5,-⟩:=hob.open
   have S:=hid (yag.of_own q5)
   have k5:=hb.cell 5
   simp only [ysk,ysl,ysj] at k5
   have hns:=MI.syms os[k] (ysr hko)
   have FD:=hid (yks os os k hko)
   clear hc hob hb q5 MI c3
   generalize os[k].syms=ys at *
   generalize bl[k]=bk at *
   have g1:(k:Int) < (bl.length:Int):=by omega
   obtain ⟨U,hU⟩:∃ U:World,U=wr:=⟨_,rfl⟩
   subst hU
   go_wp2
   go_loopw [26] (fun i wr=>∃ j:Nat,j<=ys.length/\i = .int .i64 j/\Ln.twiceIn os k ys=Ln.twiceIn os k (ys.drop j)/\U.grownBy wr none) (fun i _=>ys.length - (intOf i).toNat)
   case atStart=>exact ⟨0,Nat.zero_le _,rfl,rfl,World.grownBy.refl _ _⟩
   case round =>
    obtain ⟨j,hj,rfl,hf2,hgr2⟩:=hrel
    have HF2:=hid hf2
    have HG2:=hid hgr2
    clear hf2 hgr2 ck hm0 k5
    by_cases hlt2:j < ys.length
    ·obtain ⟨sg,hsg,hgs,hcs⟩:=S.out.grown HG2.out (by omega)
     subst hsg
     obtain ⟨q0,q1,q2,q3⟩:=hcs j hlt2
     clear hcs
     have g2:(j:Int) < (ys.length:Int):=by omega
     have FI:=hid (show Ln.twiceIn os k ys=_ from HF2.out.trans (ykt os k ys j hlt2))
     generalize ys[j]=y at *
     have BX:=hid (yc.new wr #[.string (bs y.name),.int .i64 y.bind,.int .i64 y.sect,.int .i64 y.off] 100)
     have GA:=hid (ysp wr (.cells #[.string (bs y.name),.int .i64 y.bind,.int .i64 y.sect,.int .i64 y.off] 100) none)
     have GW:=hid (ya HG2.out GA.out)
     have c3:=yd HP.out (ya G0.out (ya HG.out GW.out))
     by_cases e1:y.bind=1
     ·obtain ⟨yn,yb,yt,yo⟩:=y
      dsimp only at *
      subst e1
      by_cases e2:yt=0
      ·have b2:(yt == 0)=true:=by simpa using e2
       have E:=hid (show Ln.twiceIn os k ys=Ln.twiceIn os k (ys.drop (j+1)) by rw [FI.out,if_pos (.inr e2)])
       go_wp2
       go_roundw
       case rel=>exact ⟨j+1,by omega,by go_num,E.out,ya HG2.out (ysp _ _ none)⟩
       case measure=>simp [intOf]; omega
      ·have b2:(yt == 0)=false:=by simpa using e2
       have FI2:=hid (show Ln.twiceIn os k ys=if (Ln.find (os.take k) yn 1).mod.isSome then some ⟨33,k,yn⟩ else Ln.twiceIn os k (ys.drop (j+1)) by rw [FI.out,if_neg (fun h=>h.elim (fun a=>a rfl) e2)])
       have cF:=hid (fun W (hg:(wr.alloc (.cells #[.string (bs yn),.int .i64 1,.int .i64 yt,.int .i64 yo] 100)).grownBy W none)=>yju (some ⟨g0,off,none⟩) cap (bl.take k) (os.take k) yn 1 W (((H.out.kept (ya G0.out (ya HG.out GW.out))).kept hg).take k))
       have FL:=hid (fun i (hi:(Ln.find (os.take k) yn 1).mod=some i)=>show i < (bl.take k).length by rw [List.length_take,HL.out,<- List.length_take]; exact yfT (os.take k) yn 1 i hi)
       rw [show (bl.take k).length=k by rw [List.length_take]; omega] at cF
       generalize Ln.find (os.take k) yn 1=F1 at *
       obtain ⟨m1,s1,o1⟩:=F1
       unfold yay at cF
       dsimp only at cF FI2 FL
       generalize hqq:yap (bl.take k) m1=qq at *
       have HQQ:=hid hqq
       clear hqq
       have x0:=hid (show (wr.alloc (.cells #[.string (bs yn),.int .i64 1,.int .i64 yt,.int .i64 yo] 100)).cell? ⟨wr.heap.size,0,none⟩=some (.string (bs yn)) from BX.out.cell 0)
       have C3:=hid c3
       have hxlt:wr.heap.size < (wr.alloc (.cells #[.string (bs yn),.int .i64 1,.int .i64 yt,.int .i64 yo] 100)).heap.size:=BX.out.lt
       have HXL:=hid hxlt
       clear hxlt
       go_wp2
       generalize hV:wr.alloc (.cells #[.string (bs yn),.int .i64 1,.int .i64 yt,.int .i64 yo] 100)=V at *
       generalize hX:wr.heap.size=X at *
       have y0':=x0.out
       have y1':=C3.out
       have hXV:=HXL.out
       have gk:(k:Int)<=(cap:Int):=by omega
       go_cut [7] from 38 to 46 (fun v wx=>∃ b5,v = .pointer (some ⟨b5,0,none⟩)/\yc wx b5 #[.pointer qq,.int .i64 s1,.int .i64 o1] 123/\V.grownBy wx none/\V.heap.size<=b5)
       case first =>
        refine wp_region_held_drew (S:=(fun w'=>w'.cell? ⟨P,3,none⟩=some (.slice (some ⟨g0,off,none⟩) bl.length cap)/\w'.cell? ⟨X,0,none⟩=some (.string (bs yn)))) (by kernel_rfl) ⟨y1',y0'⟩ ?_
        intro hS
        refine wpAnyH_take (i:=0) (v:=?_) rfl (by kernel_rfl) (by kernel_rfl) (by kernel_rfl) (fun _ _ _ h=>h) (Or.inl ⟨by kernel_rfl,?_⟩) hS ?_
        rotate_left
        ·intro w' hw'; obtain ⟨y0,y1⟩:=hw'; go_simp; with_reducible rfl
        refine wpAnyH_take (i:=1) (v:=?_) rfl (by kernel_rfl) (by kernel_rfl) (by kernel_rfl) (fun _ _ _ h=>h) (Or.inl ⟨by kernel_rfl,?_⟩) hS ?_
        rotate_left
        ·intro w' hw'; obtain ⟨y0,y1⟩:=hw'; go_simp; with_reducible rfl
        refine wpAnyH_take (i:=2) (v:=?_) rfl (by kernel_rfl) (by kernel_rfl) (by kernel_rfl) (fun _ _ _ h=>h) (Or.inl ⟨by kernel_rfl,?_⟩) hS ?_
        rotate_left
        ·intro w' hw'; obtain ⟨y0,y1⟩:=hw'; go_simp; with_reducible rfl
        refine wpAnyH_take (i:=3) (v:=?_) rfl (by kernel_rfl) (by kernel_rfl) (by kernel_rfl) (fun _ _ _ h=>h) (Or.inl ⟨by kernel_rfl,?_⟩) hS ?_
        rotate_left
        ·intro w' hw'; obtain ⟨y0,y1⟩:=hw'; go_simp; with_reducible rfl
        refine wpAnyH_take (i:=4) (v:=?_) rfl (by kernel_rfl) (by kernel_rfl) (by kernel_rfl) (fun _ _ _ h=>h) (Or.inl ⟨by kernel_rfl,?_⟩) hS ?_
        rotate_left
        ·intro w' hw'; obtain ⟨y0,y1⟩:=hw'; go_simp; with_reducible rfl
        refine wpAnyH_take (i:=5) (v:=.slice (some ⟨g0,off,none⟩) k cap) rfl (by kernel_rfl) (by kernel_rfl) (by kernel_rfl) (fun _ _ _ h=>h) (Or.inl ⟨by kernel_rfl,?_⟩) hS ?_
        ·intro w' hw'; obtain ⟨y0,y1⟩:=hw'; go_simp
        refine wpAnyH_take (i:=6) (v:=?_) rfl (by kernel_rfl) (by kernel_rfl) (by kernel_rfl) (fun _ _ _ h=>h) (Or.inl ⟨by kernel_rfl,?_⟩) hS ?_
        rotate_left
        ·intro w' hw'; obtain ⟨y0,y1⟩:=hw'; go_simp; with_reducible rfl
        refine wpAnyH_take (i:=7) (v:=?_) rfl (by kernel_rfl) (by kernel_rfl) (by kernel_rfl) (fun _ _ _ h=>h) (Or.inl ⟨by kernel_rfl,?_⟩) hS ?_
        rotate_left
        ·intro w' hw'; obtain ⟨y0,y1⟩:=hw'; go_simp; with_reducible rfl
        refine wpAnyH_ready (rs:=[8,9]) (by kernel_rfl) (by simp) ?_
        refine AllReadyH.cons rfl (fun K hK=>?_) (AllReadyH.cons rfl (fun K hK=>?_) AllReadyH.nil)
        ·go_simp
         refine (cF.out _ (ye (World.grownBy.refl V none) 1)).mono ?_
         rintro e w1 ⟨rfl,hq⟩
         have hq1:=ya (ye (World.grownBy.refl V none) 1) hq
         refine hK.out _ _ ⟨yd y1' hq1,yd y0' hq1⟩ (fun hS2=>?_)
         clear hK K
         refine wpAnyH_ready (rs:=[9]) (by kernel_rfl) (by simp) ?_
         refine AllReadyH.cons rfl (fun K hK=>?_) AllReadyH.nil
         go_simp
         have hz:=ya hq1 (ysp w1 (.cells #[.pointer none,.int .i64 0,.int .i64 0] 123) none)
         refine hK.out _ _ ⟨yd y1' hz,yd y0' hz⟩ (fun hS3=>?_)
         clear hK K
         refine wpAnyH_ready (rs:=[10]) (by kernel_rfl) (by simp) ?_
         refine AllReadyH.cons rfl (fun K hK=>?_) AllReadyH.nil
         go_simp
         have hy:=ya hq1 (ysp w1 (.cells #[.pointer qq,.int .i64 s1,.int .i64 o1] 123) none)
         refine hK.out _ _ ⟨yd y1' hy,yd y0' hy⟩ (fun hS4=>?_)
         clear hK K
         refine wpAnyH_done (by kernel_rfl) ?_ _
         try simp only [Act.put,ysy,ysw,ysx]
         go_wp2_with fail
         go_meet
         exact ⟨_,rfl,yc.new w1 #[.pointer qq,.int .i64 s1,.int .i64 o1] 123,hy,hq1.size⟩
        ·go_simp
         have hz:=ye (ysp V (.cells #[.pointer none,.int .i64 0,.int .i64 0] 123) none) 1
         refine hK.out _ _ ⟨yd y1' hz,yd y0' hz⟩ (fun hS2=>?_)
         clear hK K
         refine wpAnyH_ready (rs:=[8]) (by kernel_rfl) (by simp) ?_
         refine AllReadyH.cons rfl (fun K hK=>?_) AllReadyH.nil
         go_simp
         refine (cF.out _ hz).mono ?_
         rintro e w1 ⟨rfl,hq⟩
         have hq1:=ya hz hq
         have BN:=hid (((yc.new V #[.pointer none,.int .i64 0,.int .i64 0] 123).drewN 1).grown hq (by simp))
         have n0:w1.cell? ⟨V.heap.size,0,none⟩=some (.pointer none):=BN.out.cell 0
         have n1:w1.cell? ⟨V.heap.size,1,none⟩=some (.int .i64 0):=BN.out.cell 1
         have n2:w1.cell? ⟨V.heap.size,2,none⟩=some (.int .i64 0):=BN.out.cell 2
         have f0:=BN.out.free 0
         have f1:=BN.out.free 1
         have f2:=BN.out.free 2
         refine hK.out _ _ ⟨yd y1' hq1,yd y0' hq1⟩ (fun hS3=>?_)
         clear hK K
         refine wpAnyH_ready (rs:=[10]) (by kernel_rfl) (by simp) ?_
         refine AllReadyH.cons rfl (fun K hK=>?_) AllReadyH.nil
         go_simp
         have hy:=yx hq1 V.heap.size (Nat.le_refl _) (.pointer qq) (.int .i64 s1) (.int .i64 o1)
         refine hK.out _ _ ⟨yd y1' hy,yd y0' hy⟩ (fun hS4=>?_)
         clear hK K
         refine wpAnyH_done (by kernel_rfl) ?_ _
         try simp only [Act.put,ysy,ysw,ysx]
         go_wp2_with fail
         go_meet
         exact ⟨_,rfl,((BN.out.set 0 (.pointer qq)).set 1 (.int .i64 s1)).set 2 (.int .i64 o1),hy,Nat.le_refl _⟩
       case rest =>
       obtain ⟨b5,rfl,hb5,hg5,hb5l⟩:=hcut
       have Q5:=hid hb5
       have G5:=hid (ya GW.out hg5)
       have B5:=hid (BX.out.grown hg5 (by simp))
       have x0':=B5.out.cell 0
       have t0:=Q5.out.cell 0
       simp only [ysk,ysj] at x0' t0
       clear hb5 hg5 cF
       cases m1 with
       | none =>
        have E:=hid (show Ln.twiceIn os k ys=Ln.twiceIn os k (ys.drop (j+1)) from FI2.out)
        obtain rfl:none=qq:=HQQ.out
        go_wp2
        go_roundw
        case rel=>exact ⟨j+1,by omega,by go_num,E.out,G5.out⟩
        case measure=>simp [intOf]; omega
       | some i =>
        have hi:=FL.out i rfl
        obtain rfl:some ⟨(bl.take k)[i],0,none⟩=qq:=by rw [<- HQQ.out,ycY hi]
        generalize (bl.take k)[i]=bi at *
        have E:=hid (show Ln.checkTwice os=⟨33,k,yn⟩ by rw [HF.out,FD.out,FI2.out]; rfl)
        have BR:=hid (B0.out.grown (ya HG.out G5.out) (by simp))
        have hRl:=BR.out.lt
        have z0:=BR.out.cell 0
        have z1:=BR.out.cell 1
        have z2:=BR.out.cell 2
        simp only [ysk,ysl,ysj] at z0 z1 z2
        have f0:=BR.out.free 0
        have f1:=BR.out.free 1
        have f2:=BR.out.free 2
        go_wp2
        have F:=((BR.out.set 0 (.int .i64 33)).set 1 (.int .i64 k)).set 2 (.string (bs yn))
        have h0:=F.cell 0
        have h1:=F.cell 1
        have h2:=F.cell 2
        simp only [yso,ysm,ysn,ysk,ysl,ysj] at h0 h1 h2
        refine bodyPost_ret (v:=lfA ⟨33,k,yn⟩) ?_ rfl ⟨by rw [E.out],yx (ya G0.out (ya HG.out G5.out)) _ (Nat.le_refl _) _ _ _⟩
        clear F z0 z1 z2 f0 f1 f2
        generalize World.setCell _ _ _=WF at *
        simp [results,Tryz.results68,go_sem,lfA,h0,h1,h2]
     ·have b1:(y.bind == 1)=false:=by simpa using e1
      have E:=hid (show Ln.twiceIn os k ys=Ln.twiceIn os k (ys.drop (j+1)) by rw [FI.out,if_pos (.inl e1)])
      clear e1
      go_wp2
      go_roundw
      case rel=>exact ⟨j+1,by omega,by go_num,E.out,ya HG2.out (ysp _ _ none)⟩
      case measure=>simp [intOf]; omega
    ·obtain rfl:j=ys.length:=by omega
     have E:=hid (show Ln.twiceIn os k ys=none by rw [HF2.out,List.drop_length]; rfl)
     have g3:decide ((ys.length:Int) < (ys.length:Int))=false:=by simp
     go_wp2
     go_roundw
     case rel=>exact ⟨k+1,by omega,by go_num,by rw [HF.out,FD.out,E.out],ya HG.out HG2.out⟩
     case measure=>simp [intOf]; omega
  ·obtain rfl:k=bl.length:=by omega
   have E:=hid (show Ln.checkTwice os=Ln.ok by rw [HF.out,HL.out,List.drop_length]; rfl)
   have g3:decide ((bl.length:Int) < (bl.length:Int))=false:=by simp
   have BR:=hid (B0.out.grown HG.out (by simp))
   have z0:wr.cell? ⟨w.heap.size,0,none⟩=some (.int .i64 0):=BR.out.cell 0
   have z1:wr.cell? ⟨w.heap.size,1,none⟩=some (.int .i64 0):=BR.out.cell 1
   have z2:wr.cell? ⟨w.heap.size,2,none⟩=some (.string ⟨#[]⟩):=BR.out.cell 2
   have f0:=BR.out.free 0
   have f1:=BR.out.free 1
   have f2:=BR.out.free 2
   go_wp2
   have F:=((BR.out.set 0 (.int .i64 0)).set 1 (.int .i64 0)).set 2 (.string ⟨#[]⟩)
   have h0:=F.cell 0
   have h1:=F.cell 1
   have h2:=F.cell 2
   simp only [yso,ysm,ysn,ysk,ysl,ysj] at h0 h1 h2
   refine bodyPost_ret (v:=lfA Ln.ok) ?_ rfl ⟨by rw [E.out],yx (ya G0.out HG.out) _ (Nat.le_refl _) _ _ _⟩
   clear F z0 z1 z2 f0 f1 f2
   generalize World.setCell _ _ _=WF at *
   simp [results,Tryz.results68,go_sem,lfA,Ln.ok,bs,h0,h1,h2]
set_option maxRecDepth 100000 in
set_option maxHeartbeats 8000000 in
theorem ygM (P:Nat) (ao:Option Addr) (cap:Nat) (bl:List Nat) (os:List Lk.Obj) (w:World) (hp:w.cell? ⟨P,3,none⟩=some (.slice ao bl.length cap)) (h:yaV w ao bl os) :
  Calls Tryz.prog 69 #[.pointer (some ⟨P,0,none⟩)] w fun e w'=>e = .returned (lfA (Ln.checkWanted os))/\w.grownBy w' none:=by
 have H:=hid h
 have HL:=hid h.len
 have hbl:bl.length<=4096:=by rw [h.len]; exact h.few
 have HP:=hid hp
 have G0:=hid (ysp w (.cells #[.int .i64 0,.int .i64 0,.string ⟨#[]⟩] 45) none)
 have B0:=hid (yc.new w #[.int .i64 0,.int .i64 0,.string ⟨#[]⟩] 45)
 have c3:=yd hp G0.out
 have hPw:=World.block_lt_of_cell? w _ hp
 have cW:=hid (fun y W=>yhs y W)
 have cNm:=hid (fun nm W (hg:w.grownBy W none)=>yeT P ao cap bl os nm W (yd hp hg) (h.kept hg))
 unfold symA at cW
 clear h hp
 go_enter Tryz.func69,Tryz.ntmps69
 go_wp2
 generalize w.alloc (.cells #[.int .i64 0,.int .i64 0,.string ⟨#[]⟩] 45)=W1 at *
 go_loopw [13] (fun i wr=>∃ k:Nat,k<=bl.length/\i = .int .i64 k/\Ln.checkWanted os=Ln.wantedAt os k (os.drop k)/\W1.grownBy wr none) (fun i _=>bl.length - (intOf i).toNat)
 case atStart=>exact ⟨0,Nat.zero_le _,rfl,rfl,World.grownBy.refl _ _⟩
 case round =>
  obtain ⟨k,hk,rfl,hf,hgr⟩:=hrel
  have HF:=hid hf
  have HG:=hid hgr
  clear hf hgr
  by_cases hlt:k < bl.length
  ·have hko:k < os.length:=by rw [<- HL.out]; exact hlt
   have MI:=H.out.kept (ya G0.out HG.out)
   obtain ⟨g0,off,hao,hc⟩:=MI.ptrs (by omega)
   subst hao
   obtain ⟨og,hm0,hob⟩:=MI.mod k hlt hko
   have ck:=hc k hlt
   obtain ⟨at_,ct,af,cf,ad,cd,aa,ca,as_,cs,ar,cr,hb,-,-,-,-,q5,-⟩:=hob.open
   have S:=hid (yag.of_own q5)
   have k5:=hb.cell 5
   simp only [ysk,ysl,ysj] at k5
   have hns:=MI.syms os[k] (ysr hko)
   have FD:=hid (yiT os os k hko)
   clear hc hob hb q5 MI c3
   generalize os[k].syms=ys at *
   generalize bl[k]=bk at *
   have g1:(k:Int) < (bl.length:Int):=by omega
   obtain ⟨U,hU⟩:∃ U:World,U=wr:=⟨_,rfl⟩
   subst hU
   go_wp2
   go_loopw [26] (fun i wr=>∃ j:Nat,j<=ys.length/\i = .int .i64 j/\Ln.wantedIn os k ys=Ln.wantedIn os k (ys.drop j)/\U.grownBy wr none) (fun i _=>ys.length - (intOf i).toNat)
   case atStart=>exact ⟨0,Nat.zero_le _,rfl,rfl,World.grownBy.refl _ _⟩
   case round =>
    obtain ⟨j,hj,rfl,hf2,hgr2⟩:=hrel
    have HF2:=hid hf2
    have HG2:=hid hgr2
    clear hf2 hgr2 ck hm0 k5
    by_cases hlt2:j < ys.length
    ·obtain ⟨sg,hsg,hgs,hcs⟩:=S.out.grown HG2.out (by omega)
     subst hsg
     obtain ⟨q0,q1,q2,q3⟩:=hcs j hlt2
     clear hcs
     have g2:(j:Int) < (ys.length:Int):=by omega
     have FI:=hid (show Ln.wantedIn os k ys=_ from HF2.out.trans (yiU os k ys j hlt2))
     generalize ys[j]=y at *
     have BX:=hid (yc.new wr #[.string (bs y.name),.int .i64 y.bind,.int .i64 y.sect,.int .i64 y.off] 100)
     have GA:=hid (ysp wr (.cells #[.string (bs y.name),.int .i64 y.bind,.int .i64 y.sect,.int .i64 y.off] 100) none)
     have GW:=hid (ya HG2.out GA.out)
     have c3:=yd HP.out (ya G0.out (ya HG.out GW.out))
     have cY:=hid (cW.out y)
     have cN:=hid (fun W hg=>cNm.out y.name W hg)
     have FL:=hid (fun i (hi:(Ln.named os y.name).mod=some i)=>show i < bl.length by rw [HL.out]; exact ygy os y.name i hi)
     go_wp2_with fail
     refine (cY.out _).mono ?_
     rintro e U4 ⟨rfl,h4⟩
     have G4:=hid (ya GW.out h4)
     have B4:=hid (BX.out.grown h4 (by simp))
     have x0:U4.cell? ⟨wr.heap.size,0,none⟩=some (.string (bs y.name)):=B4.out.cell 0
     clear h4 cY c3 q0 q1 q2 q3
     cases e1:Ln.wanted y
     ·have E:=hid (show Ln.wantedIn os k ys=Ln.wantedIn os k (ys.drop (j+1)) by rw [FI.out,if_pos e1])
      clear e1
      go_wp2
      go_roundw
      case rel=>exact ⟨j+1,by omega,by go_num,E.out,G4.out⟩
      case measure=>simp [intOf]; omega
     ·have FI2:=hid (show Ln.wantedIn os k ys=if (Ln.named os y.name).mod.isSome then Ln.wantedIn os k (ys.drop (j+1)) else some ⟨34,k,y.name⟩ by rw [FI.out,if_neg (by rw [e1]; decide)])
      clear e1
      generalize Ln.named os y.name=F1 at *
      obtain ⟨m1,s1,o1⟩:=F1
      unfold yay at cN
      dsimp only at cN FI2 FL
      go_wp2_with fail
      refine (cN.out _ (ya G0.out (ya HG.out G4.out))).mono ?_
      rintro e U5 ⟨rfl,h5⟩
      have G5:=hid (ya G4.out h5)
      have B5:=hid (B4.out.grown h5 (by simp))
      clear h5 cN x0
      have x0:U5.cell? ⟨wr.heap.size,0,none⟩=some (.string (bs y.name)):=B5.out.cell 0
      have hx:=B5.out.lt
      have hxn:wr.heap.size≠U5.heap.size:=by omega
      cases m1 with
      | some i =>
       have hi:=FL.out i rfl
       rw [ycY hi]
       generalize bl[i]=bi at *
       have E:=hid (show Ln.wantedIn os k ys=Ln.wantedIn os k (ys.drop (j+1)) from FI2.out)
       go_wp2
       go_roundw
       case rel=>exact ⟨j+1,by omega,by go_num,E.out,ya G5.out (ysp _ _ none)⟩
       case measure=>simp [intOf]; omega
      | none =>
       rw [show yap bl none=none from rfl]
       have E:=hid (show Ln.checkWanted os=⟨34,k,y.name⟩ by rw [HF.out,FD.out,FI2.out]; rfl)
       have BR:=hid (B0.out.grown (ya HG.out G5.out) (by simp))
       have hRl:=BR.out.lt
       have z0:U5.cell? ⟨w.heap.size,0,none⟩=some (.int .i64 0):=BR.out.cell 0
       have z1:U5.cell? ⟨w.heap.size,1,none⟩=some (.int .i64 0):=BR.out.cell 1
       have z2:U5.cell? ⟨w.heap.size,2,none⟩=some (.string ⟨#[]⟩):=BR.out.cell 2
       have f0:=BR.out.free 0
       have f1:=BR.out.free 1
       have f2:=BR.out.free 2
       have hne5:w.heap.size≠U5.heap.size:=by omega
       go_wp2
       have F:=(((BR.out.set 0 (.int .i64 34)).set 1 (.int .i64 k)).set 2 (.string (bs y.name))).grown (ysp _ (.cells #[.pointer none,.int .i64 s1,.int .i64 o1] 123) none) (by simp)
       have h0:=F.cell 0
       have h1:=F.cell 1
       have h2:=F.cell 2
       simp only [yso,ysm,ysn,ysk,ysl,ysj] at h0 h1 h2
       refine bodyPost_ret (v:=lfA ⟨34,k,y.name⟩) ?_ rfl ⟨by rw [E.out],ya (yx (ya G0.out (ya HG.out G5.out)) _ (Nat.le_refl _) _ _ _) (ysp _ _ none)⟩
       clear F z0 z1 z2 f0 f1 f2
       generalize World.alloc _ _=WF at *
       simp [results,Tryz.results69,go_sem,lfA,h0,h1,h2]
    ·obtain rfl:j=ys.length:=by omega
     have E:=hid (show Ln.wantedIn os k ys=none by rw [HF2.out,List.drop_length]; rfl)
     have g3:decide ((ys.length:Int) < (ys.length:Int))=false:=by simp
     go_wp2
     go_roundw
     case rel=>exact ⟨k+1,by omega,by go_num,by rw [HF.out,FD.out,E.out],ya HG.out HG2.out⟩
     case measure=>simp [intOf]; omega
  ·obtain rfl:k=bl.length:=by omega
   have E:=hid (show Ln.checkWanted os=Ln.ok by rw [HF.out,HL.out,List.drop_length]; rfl)
   have g3:decide ((bl.length:Int) < (bl.length:Int))=false:=by simp
   have BR:=hid (B0.out.grown HG.out (by simp))
   have z0:wr.cell? ⟨w.heap.size,0,none⟩=some (.int .i64 0):=BR.out.cell 0
   have z1:wr.cell? ⟨w.heap.size,1,none⟩=some (.int .i64 0):=BR.out.cell 1
   have z2:wr.cell? ⟨w.heap.size,2,none⟩=some (.string ⟨#[]⟩):=BR.out.cell 2
   have f0:=BR.out.free 0
   have f1:=BR.out.free 1
   have f2:=BR.out.free 2
   go_wp2
   have F:=((BR.out.set 0 (.int .i64 0)).set 1 (.int .i64 0)).set 2 (.string ⟨#[]⟩)
   have h0:=F.cell 0
   have h1:=F.cell 1
   have h2:=F.cell 2
   simp only [yso,ysm,ysn,ysk,ysl,ysj] at h0 h1 h2
   refine bodyPost_ret (v:=lfA Ln.ok) ?_ rfl ⟨by rw [E.out],yx (ya G0.out HG.out) _ (Nat.le_refl _) _ _ _⟩
   clear F z0 z1 z2 f0 f1 f2
   generalize World.setCell _ _ _=WF at *
   simp [results,Tryz.results69,go_sem,lfA,Ln.ok,bs,h0,h1,h2]
end Go.Proofs.YtpgklkhgfcjceaaGreatDoor
