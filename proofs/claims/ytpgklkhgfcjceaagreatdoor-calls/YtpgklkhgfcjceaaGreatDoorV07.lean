
import Derived.Test.YtpgklkhgfcjceaaGreatDoorV06
import Derived.Deep.CutRange
import Derived.Deep.RegionHeld3
import Derived.Deep.RegionWith
set_option maxHeartbeats 16000000
namespace Go.Proofs.YtpgklkhgfcjceaaGreatDoor
open Go.RowKit
theorem ynj (os:List Lk.Obj) (nm:List UInt8) (k:Nat) (h:k < os.length):((os.drop k).any fun o=>o.syms.any fun y=>decide (y.name=nm) && Ln.wanted y)=((os[k].syms.any fun y=>decide (y.name=nm) && Ln.wanted y) || (os.drop (k+1)).any fun o=>o.syms.any fun y=>decide (y.name=nm) && Ln.wanted y):=by
 rw [kP h,List.any_cons]
theorem ypV (ys:List Lk.Sym) (nm:List UInt8) (k:Nat) (h:k < ys.length):((ys.drop k).any fun y=>decide (y.name=nm) && Ln.wanted y)=((decide (ys[k].name=nm) && Ln.wanted ys[k]) || (ys.drop (k+1)).any fun y=>decide (y.name=nm) && Ln.wanted y):=by
 rw [kP h,List.any_cons]
set_option maxRecDepth 100000 in
theorem yoH (P:Nat) (ao:Option Addr) (cap:Nat) (bl:List Nat) (os:List Lk.Obj) (nm:List UInt8) (w:World) (hp:w.cell? ⟨P,3,none⟩=some (.slice ao bl.length cap)) (h:rY w ao bl os) :
  Calls Tryz.prog 213 #[.pointer (some ⟨P,0,none⟩),.string (bs nm)] w fun e w'=>e = .returned (.bool (Ln.wants os nm))/\w.grownBy w' none:=by
 have H:=hid h
 have HL:=hid h.len
 have hbl:bl.length<=4096:=by rw [h.len]; exact h.few
 have cC:=hid (fun y W=>UO y W)
 unfold pG at cC
 clear h
 go_enter Tryz.func213,Tryz.ntmps213
 go_wp2
 go_loopw [14] (fun i wr=>∃ k:Nat,k<=bl.length/\i = .int .i64 k/\Ln.wants os nm=((os.drop k).any fun o=>o.syms.any fun y=>decide (y.name=nm) && Ln.wanted y)/\w.grownBy wr none) (fun i _=>bl.length - (intOf i).toNat)
 case atStart=>exact ⟨0,Nat.zero_le _,rfl,rfl,World.grownBy.refl _ _⟩
 case round =>
  obtain ⟨k,hk,rfl,hf,hgr⟩:=hrel
  have HF:=hid hf
  have HG:=hid hgr
  clear hf hgr
  by_cases hlt:k < bl.length
  ·have hko:k < os.length:=by rw [<- HL.o]; exact hlt
   have MI:=H.o.kept HG.o
   obtain ⟨g0,off,hao,hc⟩:=MI.ptrs (by omega)
   subst hao
   obtain ⟨og,hm0,ni⟩:=MI.mod k hlt hko
   have ck:=hc k hlt
   obtain ⟨at_,ct,af,cf,ad,cd,aa,ca,fU,cs,ar,cr,hb,-,-,-,-,q5,-⟩:=ni.open
   have S:=hid (mW.aR q5)
   have k5:=hb.cell 5
   simp only [bC,bG,bE] at k5
   have hns:=MI.syms os[k] (gW hko)
   have FD:=hid (ynj os nm k hko)
   clear hc ni hb q5 MI
   generalize os[k].syms=ys at *
   generalize bl[k]=bk at *
   have g1:(k:Int) < (bl.length:Int):=by omega
   obtain ⟨U,hU⟩:∃ U:World,U=wr:=⟨_,rfl⟩
   subst hU
   go_wp2
   go_loopw [26] (fun i wr=>∃ j:Nat,j<=ys.length/\i = .int .i64 j/\(ys.any fun y=>decide (y.name=nm) && Ln.wanted y)=((ys.drop j).any fun y=>decide (y.name=nm) && Ln.wanted y)/\U.grownBy wr none) (fun i _=>ys.length - (intOf i).toNat)
   case atStart=>exact ⟨0,Nat.zero_le _,rfl,rfl,World.grownBy.refl _ _⟩
   case round =>
    obtain ⟨j,hj,rfl,hf2,gT⟩:=hrel
    have lS:=hid hf2
    have HG2:=hid gT
    clear hf2 gT ck hm0 k5
    by_cases hlt2:j < ys.length
    ·obtain ⟨sg,hsg,hgs,hcs⟩:=S.o.grown HG2.o (by omega)
     subst hsg
     obtain ⟨q0,q1,q2,q3⟩:=hcs j hlt2
     clear hcs
     have g2:(j:Int) < (ys.length:Int):=by omega
     have FI:=hid (ypV ys nm j hlt2)
     generalize ys[j]=y at *
     have cY:=hid (cC.o y)
     have GA:=hid (fun ob:Obj=>aH wr ob none)
     by_cases e1:y.name=nm
     ·have b1:((bs y.name).toList == (bs nm).toList)=true:=by rw [e1]; simp
      cases e2:Ln.wanted y
      ·have E:=hid (show (ys.any fun y=>decide (y.name=nm) && Ln.wanted y)=((ys.drop (j+1)).any fun y=>decide (y.name=nm) && Ln.wanted y) by rw [lS.o,FI.o,e2]; simp)
       rw [e2] at cY
       clear e1 e2
       go_wp2_with fail
       refine (cY.o _).mono ?_
       rintro e W5 ⟨rfl,h5⟩
       have G5:=hid (ya HG2.o (ya (GA.o _) h5))
       clear h5
       go_wp2
       go_roundw
       case rel=>exact ⟨j+1,by omega,by go_num,E.o,G5.o⟩
       case measure=>simp [intOf]; omega
      ·have E:=hid (show Ln.wants os nm=true by rw [HF.o,FD.o,lS.o,FI.o,e2,decide_eq_true e1]; simp)
       rw [e2] at cY
       clear e1 e2
       go_wp2_with fail
       refine (cY.o _).mono ?_
       rintro e W5 ⟨rfl,h5⟩
       have G5:=hid (ya HG2.o (ya (GA.o _) h5))
       clear h5
       go_wp2
       go_ret
       exact ⟨xD E.o.symm,ya HG.o G5.o⟩
     ·have b1:((bs y.name).toList == (bs nm).toList)=false:=by rw [yG,yG]; simpa using e1
      have E:=hid (show (ys.any fun y=>decide (y.name=nm) && Ln.wanted y)=((ys.drop (j+1)).any fun y=>decide (y.name=nm) && Ln.wanted y) by rw [lS.o,FI.o,decide_eq_false e1]; simp)
      clear e1
      go_wp2
      go_roundw
      case rel=>exact ⟨j+1,by omega,by go_num,E.o,ya HG2.o (GA.o _)⟩
      case measure=>simp [intOf]; omega
    ·obtain rfl:j=ys.length:=by omega
     have E:=hid (show (ys.any fun y=>decide (y.name=nm) && Ln.wanted y)=false by rw [lS.o,List.drop_length]; rfl)
     have g3:decide ((ys.length:Int) < (ys.length:Int))=false:=by simp
     go_wp2
     go_roundw
     case rel=>exact ⟨k+1,by omega,by go_num,by rw [HF.o,FD.o,E.o,Bool.false_or],ya HG.o HG2.o⟩
     case measure=>simp [intOf]; omega
  ·obtain rfl:k=bl.length:=by omega
   have E:=hid (show Ln.wants os nm=false by rw [HF.o,HL.o,List.drop_length]; rfl)
   have g3:decide ((bl.length:Int) < (bl.length:Int))=false:=by simp
   go_wp2
   go_ret
   exact ⟨xD E.o.symm,HG.o⟩
theorem ypd (os:List Lk.Obj) (nm:List UInt8) (k:Nat) (h:k < os.length):((os.drop k).any fun o=>o.syms.any fun y=>decide (y.name=nm) && Ln.defines y)=((os[k].syms.any fun y=>decide (y.name=nm) && Ln.defines y) || (os.drop (k+1)).any fun o=>o.syms.any fun y=>decide (y.name=nm) && Ln.defines y):=by
 rw [kP h,List.any_cons]
theorem yrM (ys:List Lk.Sym) (nm:List UInt8) (k:Nat) (h:k < ys.length):((ys.drop k).any fun y=>decide (y.name=nm) && Ln.defines y)=((decide (ys[k].name=nm) && Ln.defines ys[k]) || (ys.drop (k+1)).any fun y=>decide (y.name=nm) && Ln.defines y):=by
 rw [kP h,List.any_cons]
set_option maxRecDepth 100000 in
theorem yqL (P:Nat) (ao:Option Addr) (cap:Nat) (bl:List Nat) (os:List Lk.Obj) (nm:List UInt8) (w:World) (hp:w.cell? ⟨P,3,none⟩=some (.slice ao bl.length cap)) (h:rY w ao bl os) :
  Calls Tryz.prog 214 #[.pointer (some ⟨P,0,none⟩),.string (bs nm)] w fun e w'=>e = .returned (.bool (Ln.has os nm))/\w.grownBy w' none:=by
 have H:=hid h
 have HL:=hid h.len
 have hbl:bl.length<=4096:=by rw [h.len]; exact h.few
 have cC:=hid (fun y W=>Uq y W)
 unfold pG at cC
 clear h
 go_enter Tryz.func214,Tryz.ntmps214
 go_wp2
 go_loopw [14] (fun i wr=>∃ k:Nat,k<=bl.length/\i = .int .i64 k/\Ln.has os nm=((os.drop k).any fun o=>o.syms.any fun y=>decide (y.name=nm) && Ln.defines y)/\w.grownBy wr none) (fun i _=>bl.length - (intOf i).toNat)
 case atStart=>exact ⟨0,Nat.zero_le _,rfl,rfl,World.grownBy.refl _ _⟩
 case round =>
  obtain ⟨k,hk,rfl,hf,hgr⟩:=hrel
  have HF:=hid hf
  have HG:=hid hgr
  clear hf hgr
  by_cases hlt:k < bl.length
  ·have hko:k < os.length:=by rw [<- HL.o]; exact hlt
   have MI:=H.o.kept HG.o
   obtain ⟨g0,off,hao,hc⟩:=MI.ptrs (by omega)
   subst hao
   obtain ⟨og,hm0,ni⟩:=MI.mod k hlt hko
   have ck:=hc k hlt
   obtain ⟨at_,ct,af,cf,ad,cd,aa,ca,fU,cs,ar,cr,hb,-,-,-,-,q5,-⟩:=ni.open
   have S:=hid (mW.aR q5)
   have k5:=hb.cell 5
   simp only [bC,bG,bE] at k5
   have hns:=MI.syms os[k] (gW hko)
   have FD:=hid (ypd os nm k hko)
   clear hc ni hb q5 MI
   generalize os[k].syms=ys at *
   generalize bl[k]=bk at *
   have g1:(k:Int) < (bl.length:Int):=by omega
   obtain ⟨U,hU⟩:∃ U:World,U=wr:=⟨_,rfl⟩
   subst hU
   go_wp2
   go_loopw [26] (fun i wr=>∃ j:Nat,j<=ys.length/\i = .int .i64 j/\(ys.any fun y=>decide (y.name=nm) && Ln.defines y)=((ys.drop j).any fun y=>decide (y.name=nm) && Ln.defines y)/\U.grownBy wr none) (fun i _=>ys.length - (intOf i).toNat)
   case atStart=>exact ⟨0,Nat.zero_le _,rfl,rfl,World.grownBy.refl _ _⟩
   case round =>
    obtain ⟨j,hj,rfl,hf2,gT⟩:=hrel
    have lS:=hid hf2
    have HG2:=hid gT
    clear hf2 gT ck hm0 k5
    by_cases hlt2:j < ys.length
    ·obtain ⟨sg,hsg,hgs,hcs⟩:=S.o.grown HG2.o (by omega)
     subst hsg
     obtain ⟨q0,q1,q2,q3⟩:=hcs j hlt2
     clear hcs
     have g2:(j:Int) < (ys.length:Int):=by omega
     have FI:=hid (yrM ys nm j hlt2)
     generalize ys[j]=y at *
     have cY:=hid (cC.o y)
     have GA:=hid (fun ob:Obj=>aH wr ob none)
     by_cases e1:y.name=nm
     ·have b1:((bs y.name).toList == (bs nm).toList)=true:=by rw [e1]; simp
      cases e2:Ln.defines y
      ·have E:=hid (show (ys.any fun y=>decide (y.name=nm) && Ln.defines y)=((ys.drop (j+1)).any fun y=>decide (y.name=nm) && Ln.defines y) by rw [lS.o,FI.o,e2]; simp)
       rw [e2] at cY
       clear e1 e2
       go_wp2_with fail
       refine (cY.o _).mono ?_
       rintro e W5 ⟨rfl,h5⟩
       have G5:=hid (ya HG2.o (ya (GA.o _) h5))
       clear h5
       go_wp2
       go_roundw
       case rel=>exact ⟨j+1,by omega,by go_num,E.o,G5.o⟩
       case measure=>simp [intOf]; omega
      ·have E:=hid (show Ln.has os nm=true by rw [HF.o,FD.o,lS.o,FI.o,e2,decide_eq_true e1]; simp)
       rw [e2] at cY
       clear e1 e2
       go_wp2_with fail
       refine (cY.o _).mono ?_
       rintro e W5 ⟨rfl,h5⟩
       have G5:=hid (ya HG2.o (ya (GA.o _) h5))
       clear h5
       go_wp2
       go_ret
       exact ⟨xD E.o.symm,ya HG.o G5.o⟩
     ·have b1:((bs y.name).toList == (bs nm).toList)=false:=by rw [yG,yG]; simpa using e1
      have E:=hid (show (ys.any fun y=>decide (y.name=nm) && Ln.defines y)=((ys.drop (j+1)).any fun y=>decide (y.name=nm) && Ln.defines y) by rw [lS.o,FI.o,decide_eq_false e1]; simp)
      clear e1
      go_wp2
      go_roundw
      case rel=>exact ⟨j+1,by omega,by go_num,E.o,ya HG2.o (GA.o _)⟩
      case measure=>simp [intOf]; omega
    ·obtain rfl:j=ys.length:=by omega
     have E:=hid (show (ys.any fun y=>decide (y.name=nm) && Ln.defines y)=false by rw [lS.o,List.drop_length]; rfl)
     have g3:decide ((ys.length:Int) < (ys.length:Int))=false:=by simp
     go_wp2
     go_roundw
     case rel=>exact ⟨k+1,by omega,by go_num,by rw [HF.o,FD.o,E.o,Bool.false_or],ya HG.o HG2.o⟩
     case measure=>simp [intOf]; omega
  ·obtain rfl:k=bl.length:=by omega
   have E:=hid (show Ln.has os nm=false by rw [HF.o,HL.o,List.drop_length]; rfl)
   have g3:decide ((bl.length:Int) < (bl.length:Int))=false:=by simp
   go_wp2
   go_ret
   exact ⟨xD E.o.symm,HG.o⟩
set_option maxRecDepth 100000 in
theorem yok (P:Nat) (ao:Option Addr) (cap:Nat) (bl:List Nat) (os:List Lk.Obj) (og:Nat) (o:Lk.Obj) (w:World) (hp:w.cell? ⟨P,3,none⟩=some (.slice ao bl.length cap)) (h:rY w ao bl os) (ho:yu w og o) (hns:o.syms.length<=65535) :
  Calls Tryz.prog 166 #[.pointer (some ⟨P,0,none⟩),.pointer (some ⟨og,0,none⟩)] w fun e w'=>e = .returned (.bool (Ln.needs os o))/\w.grownBy w' none:=by
 have cD:=hid (fun y W=>Uq y W)
 have cW:=hid (fun nm W (hg:w.grownBy W none)=>yoH P ao cap bl os nm W (yd hp hg) (h.kept hg))
 have cH:=hid (fun nm W (hg:w.grownBy W none)=>yqL P ao cap bl os nm W (yd hp hg) (h.kept hg))
 unfold pG at cD
 obtain ⟨at_,ct,af,cf,ad,cd,aa,ca,fU,cs,ar,cr,hb,-,-,-,-,q5,-⟩:=ho.open
 have S:=hid (mW.aR q5)
 have k5:=hb.cell 5
 simp only [bC,bG,bE] at k5
 have ND:=hid (show Ln.needs os o=o.syms.any fun y=>Ln.defines y && (Ln.wants os y.name && !Ln.has os y.name) from rfl)
 clear h ho hb q5 hp
 generalize Ln.needs os o=N at *
 generalize o.syms=ys at *
 go_enter Tryz.func166,Tryz.ntmps166
 go_wp2
 go_loopw [12] (fun i wr=>∃ j:Nat,j<=ys.length/\i = .int .i64 j/\N=((ys.drop j).any fun y=>Ln.defines y && (Ln.wants os y.name && !Ln.has os y.name))/\w.grownBy wr none) (fun i _=>ys.length - (intOf i).toNat)
 case atStart=>exact ⟨0,Nat.zero_le _,rfl,ND.o,World.grownBy.refl _ _⟩
 case round =>
  obtain ⟨j,hj,rfl,hf2,gT⟩:=hrel
  have lS:=hid hf2
  have HG2:=hid gT
  clear hf2 gT k5
  by_cases hlt2:j < ys.length
  ·obtain ⟨sg,hsg,hgs,hcs⟩:=S.o.grown HG2.o (by omega)
   subst hsg
   obtain ⟨q0,q1,q2,q3⟩:=hcs j hlt2
   clear hcs
   have g2:(j:Int) < (ys.length:Int):=by omega
   have FI:=hid (show N=((Ln.defines ys[j] && (Ln.wants os ys[j].name && !Ln.has os ys[j].name)) || (ys.drop (j+1)).any fun y=>Ln.defines y && (Ln.wants os y.name && !Ln.has os y.name)) by rw [lS.o,kP hlt2,List.any_cons])
   generalize ys[j]=y at *
   have cY:=hid (cD.o y)
   have Sn:=hid (cW.o y.name)
   have Sg:=hid (cH.o y.name)
   have BX:=hid (yc.new wr #[.string (bs y.name),.int .i64 y.bind,.int .i64 y.ah,.int .i64 y.off] 100)
   have GA:=hid (aH wr (.cells #[.string (bs y.name),.int .i64 y.bind,.int .i64 y.ah,.int .i64 y.off] 100) none)
   have GW:=hid (ya HG2.o GA.o)
   go_wp2_with fail
   refine (cY.o _).mono ?_
   rintro e W5 ⟨rfl,h5⟩
   have G5:=hid (ya GW.o h5)
   have B5:=hid (BX.o.grown h5 (by simp))
   clear h5 cY q0 q1 q2 q3
   have x0:W5.cell? ⟨wr.heap.size,0,none⟩=some (.string (bs y.name)):=B5.o.cell 0
   cases e1:Ln.defines y
   ·have E:=hid (show N=((ys.drop (j+1)).any fun y=>Ln.defines y && (Ln.wants os y.name && !Ln.has os y.name)) by rw [FI.o,e1]; simp)
    clear e1
    go_wp2
    go_roundw
    case rel=>exact ⟨j+1,by omega,by go_num,E.o,G5.o⟩
    case measure=>simp [intOf]; omega
   ·have E1:=hid e1
    clear e1
    go_wp2_with fail
    refine (Sn.o _ G5.o).mono ?_
    rintro e W6 ⟨rfl,h6⟩
    have G6:=hid (ya G5.o h6)
    have B6:=hid (B5.o.grown h6 (by simp))
    clear h6 Sn x0
    have x0:W6.cell? ⟨wr.heap.size,0,none⟩=some (.string (bs y.name)):=B6.o.cell 0
    cases e2:Ln.wants os y.name
    ·have E:=hid (show N=((ys.drop (j+1)).any fun y=>Ln.defines y && (Ln.wants os y.name && !Ln.has os y.name)) by rw [FI.o,e2]; simp)
     clear e2
     go_wp2
     go_roundw
     case rel=>exact ⟨j+1,by omega,by go_num,E.o,G6.o⟩
     case measure=>simp [intOf]; omega
    ·have E2:=hid e2
     clear e2
     go_wp2_with fail
     refine (Sg.o _ G6.o).mono ?_
     rintro e W7 ⟨rfl,h7⟩
     have G7:=hid (ya G6.o h7)
     clear h7 Sg x0
     cases e3:Ln.has os y.name
     ·have E:=hid (show N=true by rw [FI.o,E1.o,E2.o,e3]; simp)
      clear e3
      go_wp2
      go_ret
      exact ⟨xD E.o.symm,G7.o⟩
     ·have E:=hid (show N=((ys.drop (j+1)).any fun y=>Ln.defines y && (Ln.wants os y.name && !Ln.has os y.name)) by rw [FI.o,e3]; simp)
      clear e3
      go_wp2
      go_roundw
      case rel=>exact ⟨j+1,by omega,by go_num,E.o,G7.o⟩
      case measure=>simp [intOf]; omega
  ·obtain rfl:j=ys.length:=by omega
   have E:=hid (show N=false by rw [lS.o,List.drop_length]; rfl)
   have g3:decide ((ys.length:Int) < (ys.length:Int))=false:=by simp
   go_wp2
   go_ret
   exact ⟨xD E.o.symm,HG2.o⟩
theorem ynE (n:List UInt8) (bind:Int):∀ (os:List Lk.Obj) (k i:Nat),(Ln.findAt n bind k os).mod=some i->k<=i/\i < k+os.length:=by
 intro os
 induction os with
 | nil=>intro k i h; cases h
 | cons o os ih =>
  intro k i h
  rw [Ln.findAt] at h
  cases hf:Ln.gF n bind o.syms with
  | none =>
   rw [hf] at h
   have:=ih (k+1) i h
   simp only [iE]
   omega
  | some p =>
   rw [hf] at h
   simp only [Option.some.injEq] at h
   simp only [iE]
   omega
theorem Mx (os:List Lk.Obj) (n:List UInt8) (bind:Int) (i:Nat) (h:(Ln.find os n bind).mod=some i):i < os.length:=by
 have:=ynE n bind os 0 i h
 omega
theorem J9 {bl:List Nat} {i:Nat} (h:i < bl.length):lZ bl (some i)=some ⟨bl[i],0,none⟩:=by
 unfold lZ
 rw [Option.bind_some,jF h,Option.map_some]
set_option maxRecDepth 100000 in
theorem Pv (P:Nat) (ao:Option Addr) (cap:Nat) (bl:List Nat) (os:List Lk.Obj) (nm:List UInt8) (w:World) (hp:w.cell? ⟨P,3,none⟩=some (.slice ao bl.length cap)) (h:rY w ao bl os) :
  Calls Tryz.prog 67 #[.pointer (some ⟨P,0,none⟩),.string (bs nm)] w fun e w'=>e = .returned (nI bl (Ln.named os nm))/\w.grownBy w' none:=by
 have cF:=hid (fun bind W (hg:w.grownBy W none)=>Vx ao cap bl os nm bind W (h.kept hg))
 have HP:=hid hp
 have hP:=World.block_lt_of_cell? w _ hp
 have FL:=hid (fun i (hi:(Ln.find os nm 1).mod=some i)=>show i < bl.length by rw [h.len]; exact Mx os nm 1 i hi)
 have c1:=hid (cF.o 1)
 have c2:=hid (cF.o 2)
 have NM:=hid (show Ln.named os nm=if (Ln.find os nm 1).mod.isSome then Ln.find os nm 1 else Ln.find os nm 2 from rfl)
 clear hp h cF
 generalize Ln.named os nm=N at *
 generalize Ln.find os nm 2=F2 at *
 generalize Ln.find os nm 1=F1 at *
 obtain ⟨m1,s1,o1⟩:=F1
 dsimp only at NM FL
 have G0:=hid (aH w (.cells #[.pointer none,.int .i64 0,.int .i64 0] 123) none)
 have B0:=hid (yc.new w #[.pointer none,.int .i64 0,.int .i64 0] 123)
 have c3:=yd HP.o G0.o
 unfold nI at c1
 dsimp only at c1
 go_enter Tryz.func67,Tryz.ntmps67
 go_wp2_with fail
 refine (c1.o _ G0.o).mono ?_
 rintro e W1 ⟨rfl,h1⟩
 have G1:=hid (ya G0.o h1)
 have B1:=hid (B0.o.grown h1 (by simp))
 clear h1 c1 c3
 have hlt:=B1.o.lt
 have z0:W1.cell? ⟨w.heap.size,0,none⟩=some (.pointer none):=B1.o.cell 0
 have z1:W1.cell? ⟨w.heap.size,1,none⟩=some (.int .i64 0):=B1.o.cell 1
 have z2:W1.cell? ⟨w.heap.size,2,none⟩=some (.int .i64 0):=B1.o.cell 2
 have f0:=B1.o.free 0
 have f1:=B1.o.free 1
 have f2:=B1.o.free 2
 cases m1 with
 | some i =>
  have hi:=FL.o i rfl
  have PO:=hid (J9 hi)
  rw [PO.o]
  generalize bl[i]=bi at *
  go_wp2
  have F:=(((B1.o.set 0 (.pointer (some ⟨bi,0,none⟩))).set 1 (.int .i64 s1)).set 2 (.int .i64 o1)).grown (aH _ (.cells #[.pointer (some ⟨bi,0,none⟩),.int .i64 s1,.int .i64 o1] 123) none) (by simp)
  have h0:=F.cell 0
  have h1:=F.cell 1
  have h2:=F.cell 2
  simp only [fQ,fT,fP,bC,bG,bE] at h0 h1 h2
  refine bodyPost_ret (v:=nI bl ⟨some i,s1,o1⟩) ?_ rfl ⟨by rw [NM.o]; rfl,ya (yx G1.o _ (Nat.le_refl _) _ _ _) (aH _ _ none)⟩
  clear F z0 z1 z2 f0 f1 f2
  generalize World.alloc _ _=WF at *
  simp [results,Tryz.results67,go_sem,nI,PO.o,h0,h1,h2]
 | none =>
  rw [show lZ bl none=none from rfl]
  have c3:=yd HP.o (ya G1.o (aH W1 (.cells #[.pointer none,.int .i64 s1,.int .i64 o1] 123) none))
  go_wp2_with fail
  refine (c2.o _ (ya G1.o (aH _ _ none))).mono ?_
  rintro e W2 ⟨rfl,h2⟩
  have G2:=hid (ya (ya G1.o (aH _ _ none)) h2)
  have B2:=hid ((B1.o.grown (aH _ _ none) (by simp)).grown h2 (by simp))
  clear h2 c2 c3 z0 z1 z2 f0 f1 f2
  have z0:W2.cell? ⟨w.heap.size,0,none⟩=some (.pointer none):=B2.o.cell 0
  have z1:W2.cell? ⟨w.heap.size,1,none⟩=some (.int .i64 0):=B2.o.cell 1
  have z2:W2.cell? ⟨w.heap.size,2,none⟩=some (.int .i64 0):=B2.o.cell 2
  have f0:=B2.o.free 0
  have f1:=B2.o.free 1
  have f2:=B2.o.free 2
  unfold nI
  obtain ⟨m2,s2,o2⟩:=F2
  dsimp only
  generalize hq:lZ bl m2=q at *
  have HQ:=hid hq
  clear hq
  go_wp2
  have F:=((B2.o.set 0 (.pointer q)).set 1 (.int .i64 s2)).set 2 (.int .i64 o2)
  have h0:=F.cell 0
  have h1:=F.cell 1
  have h2:=F.cell 2
  simp only [fQ,fT,fP,bC,bG,bE] at h0 h1 h2
  refine bodyPost_ret (v:=nI bl ⟨m2,s2,o2⟩) ?_ rfl ⟨by rw [NM.o]; rfl,yx G2.o _ (Nat.le_refl _) _ _ _⟩
  clear F z0 z1 z2 f0 f1 f2
  generalize World.setCell _ _ _=WF at *
  simp [results,Tryz.results67,go_sem,nI,HQ.o,h0,h1,h2]
set_option maxRecDepth 100000 in
theorem ylj (P:Nat) (ao:Option Addr) (cap:Nat) (bl:List Nat) (os:List Lk.Obj) (i:Nat) (hi:i < bl.length) (y:Lk.Sym) (w:World) (hp:w.cell? ⟨P,3,none⟩=some (.slice ao bl.length cap)) (h:rY w ao bl os) :
  Calls Tryz.prog 66 #[.pointer (some ⟨P,0,none⟩),.pointer (some ⟨bl[i],0,none⟩),pG y] w fun e w'=>e = .returned (nI bl (Ln.meaning os i y))/\w.grownBy w' none:=by
 obtain ⟨n,b,s,o⟩:=y
 have cN:=hid (fun W (hg:w.grownBy W none)=>Pv P ao cap bl os n W (yd hp hg) (h.kept hg))
 have PO:=hid (J9 hi)
 have SZ:=hid (show (w.alloc (.cells #[.string (bs n),.int .i64 b,.int .i64 s,.int .i64 o] 100)).heap.size=w.heap.size+1 from Array.size_push _)
 have A0:=hid (aH w (.cells #[.string (bs n),.int .i64 b,.int .i64 s,.int .i64 o] 100) none)
 have A1:=hid (aH (w.alloc (.cells #[.string (bs n),.int .i64 b,.int .i64 s,.int .i64 o] 100)) (.cells #[.pointer none,.int .i64 0,.int .i64 0] 123) none)
 have B0:=hid (yc.new (w.alloc (.cells #[.string (bs n),.int .i64 b,.int .i64 s,.int .i64 o] 100)) #[.pointer none,.int .i64 0,.int .i64 0] 123)
 rw [SZ.o] at B0
 clear h hp
 unfold pG
 dsimp only
 by_cases hb:b=0
 ·subst hb
  have NM:=hid (show Ln.meaning os i ⟨n,0,s,o⟩=⟨some i,s,o⟩ from rfl)
  go_enter Tryz.func66,Tryz.ntmps66
  go_wp2
  refine bodyPost_ret (v:=nI bl ⟨some i,s,o⟩) ?_ rfl ⟨by rw [NM.o],ya (aH _ _ none) (aH _ _ none)⟩
  simp [results,Tryz.results66,go_sem,nI,PO.o]
 ·have NM:=hid (show Ln.meaning os i ⟨n,b,s,o⟩=Ln.named os n from if_neg hb)
  have d1:(b == 0)=false:=by simpa using hb
  generalize Ln.named os n=N at *
  go_enter Tryz.func66,Tryz.ntmps66
  go_wp2_with fail
  refine (cN.o _ (ya A0.o A1.o)).mono ?_
  rintro e W2 ⟨rfl,h2⟩
  have G2:=hid (ya (ya A0.o A1.o) h2)
  have B2:=hid (B0.o.grown h2 (by simp))
  clear h2 cN
  have z0:W2.cell? ⟨w.heap.size+1,0,none⟩=some (.pointer none):=B2.o.cell 0
  have z1:W2.cell? ⟨w.heap.size+1,1,none⟩=some (.int .i64 0):=B2.o.cell 1
  have z2:W2.cell? ⟨w.heap.size+1,2,none⟩=some (.int .i64 0):=B2.o.cell 2
  have f0:=B2.o.free 0
  have f1:=B2.o.free 1
  have f2:=B2.o.free 2
  unfold nI
  obtain ⟨m2,s2,o2⟩:=N
  dsimp only
  generalize hq:lZ bl m2=q at *
  have HQ:=hid hq
  clear hq
  go_wp2
  have F:=((B2.o.set 0 (.pointer q)).set 1 (.int .i64 s2)).set 2 (.int .i64 o2)
  have h0:=F.cell 0
  have h1:=F.cell 1
  have h2:=F.cell 2
  simp only [fQ,fT,fP,bC,bG,bE] at h0 h1 h2
  refine bodyPost_ret (v:=nI bl ⟨m2,s2,o2⟩) ?_ rfl ⟨by rw [NM.o],yx G2.o _ (by omega) _ _ _⟩
  clear F z0 z1 z2 f0 f1 f2
  generalize World.setCell _ _ _=WF at *
  simp [results,Tryz.results66,go_sem,nI,HQ.o,h0,h1,h2]
def fF (f:Ln.pO):Value:=.agg #[.int .i64 f.e,.int .i64 f.at_,.string (bs f.name)]
theorem ykG (os r:List Lk.Obj) (k:Nat) (h:k < r.length):Ln.lu os k (r.drop k)=match Ln.dB os k r[k].syms with | some f=>f | none=>Ln.lu os (k+1) (r.drop (k+1)):=by
 rw [kP h,Ln.lu]
 cases Ln.dB os k r[k].syms <;> rfl
theorem ykH (os:List Lk.Obj) (i:Nat) (ys:List Lk.Sym) (k:Nat) (h:k < ys.length):Ln.dB os i (ys.drop k)=if ys[k].bind≠1\/ys[k].ah=0 then Ln.dB os i (ys.drop (k+1)) else if (Ln.find (os.take i) ys[k].name 1).mod.isSome then some ⟨33,i,ys[k].name⟩ else Ln.dB os i (ys.drop (k+1)):=by
 rw [kP h,Ln.dB]
theorem yjc (os r:List Lk.Obj) (k:Nat) (h:k < r.length):Ln.wantedAt os k (r.drop k)=match Ln.bU os k r[k].syms with | some f=>f | none=>Ln.wantedAt os (k+1) (r.drop (k+1)):=by
 rw [kP h,Ln.wantedAt]
 cases Ln.bU os k r[k].syms <;> rfl
theorem yjd (os:List Lk.Obj) (i:Nat) (ys:List Lk.Sym) (k:Nat) (h:k < ys.length):Ln.bU os i (ys.drop k)=if Ln.wanted ys[k]=false then Ln.bU os i (ys.drop (k+1)) else if (Ln.named os ys[k].name).mod.isSome then Ln.bU os i (ys.drop (k+1)) else some ⟨34,i,ys[k].name⟩:=by
 rw [kP h,Ln.bU]
theorem Qa (os:List Lk.Obj) (n:List UInt8) (i:Nat) (h:(Ln.named os n).mod=some i):i < os.length:=by
 unfold Ln.named at h
 split at h
 ·exact Mx os n 1 i h
 ·exact Mx os n 2 i h
set_option maxRecDepth 100000 in
theorem Zf (P:Nat) (ao:Option Addr) (cap:Nat) (bl:List Nat) (os:List Lk.Obj) (w:World) (hp:w.cell? ⟨P,3,none⟩=some (.slice ao bl.length cap)) (h:rY w ao bl os) (hcap:bl.length<=cap) (hcm:cap<=maxLen) :
  Calls Tryz.prog 68 #[.pointer (some ⟨P,0,none⟩)] w fun e w'=>e = .returned (fF (Ln.gX os))/\w.grownBy w' none:=by
 have H:=hid h
 have HL:=hid h.len
 have hbl:bl.length<=4096:=by rw [h.len]; exact h.few
 have HP:=hid hp
 have G0:=hid (aH w (.cells #[.int .i64 0,.int .i64 0,.string ⟨#[]⟩] 45) none)
 have B0:=hid (yc.new w #[.int .i64 0,.int .i64 0,.string ⟨#[]⟩] 45)
 have c3:=yd hp G0.o
 have Yg:=World.block_lt_of_cell? w _ hp
 have hcm2:=hcm
 unfold maxLen at hcm2
 clear h hp hcm
 go_enter Tryz.func68,Tryz.ntmps68
 go_wp2
 generalize w.alloc (.cells #[.int .i64 0,.int .i64 0,.string ⟨#[]⟩] 45)=W1 at *
 go_loopw [13] (fun i wr=>∃ k:Nat,k<=bl.length/\i = .int .i64 k/\Ln.gX os=Ln.lu os k (os.drop k)/\W1.grownBy wr none) (fun i _=>bl.length - (intOf i).toNat)
 case atStart=>exact ⟨0,Nat.zero_le _,rfl,rfl,World.grownBy.refl _ _⟩
 case round =>
  obtain ⟨k,hk,rfl,hf,hgr⟩:=hrel
  have HF:=hid hf
  have HG:=hid hgr
  clear hf hgr
  by_cases hlt:k < bl.length
  ·have hko:k < os.length:=by rw [<- HL.o]; exact hlt
   have MI:=H.o.kept (ya G0.o HG.o)
   obtain ⟨g0,off,hao,hc⟩:=MI.ptrs (by omega)
   subst hao
   obtain ⟨og,hm0,ni⟩:=MI.mod k hlt hko
   have ck:=hc k hlt
   obtain ⟨at_,ct,af,cf,ad,cd,aa,ca,fU,cs,ar,cr,hb,-,-,-,-,q5,-⟩:=ni.open
   have S:=hid (mW.aR q5)
   have k5:=hb.cell 5
   simp only [bC,bG,bE] at k5
   have hns:=MI.syms os[k] (gW hko)
   have FD:=hid (ykG os os k hko)
   clear hc ni hb q5 MI c3
   generalize os[k].syms=ys at *
   generalize bl[k]=bk at *
   have g1:(k:Int) < (bl.length:Int):=by omega
   obtain ⟨U,hU⟩:∃ U:World,U=wr:=⟨_,rfl⟩
   subst hU
   go_wp2
   go_loopw [26] (fun i wr=>∃ j:Nat,j<=ys.length/\i = .int .i64 j/\Ln.dB os k ys=Ln.dB os k (ys.drop j)/\U.grownBy wr none) (fun i _=>ys.length - (intOf i).toNat)
   case atStart=>exact ⟨0,Nat.zero_le _,rfl,rfl,World.grownBy.refl _ _⟩
   case round =>
    obtain ⟨j,hj,rfl,hf2,gT⟩:=hrel
    have lS:=hid hf2
    have HG2:=hid gT
    clear hf2 gT ck hm0 k5
    by_cases hlt2:j < ys.length
    ·obtain ⟨sg,hsg,hgs,hcs⟩:=S.o.grown HG2.o (by omega)
     subst hsg
     obtain ⟨q0,q1,q2,q3⟩:=hcs j hlt2
     clear hcs
     have g2:(j:Int) < (ys.length:Int):=by omega
     have FI:=hid (show Ln.dB os k ys=_ from lS.o.trans (ykH os k ys j hlt2))
     generalize ys[j]=y at *
     have BX:=hid (yc.new wr #[.string (bs y.name),.int .i64 y.bind,.int .i64 y.ah,.int .i64 y.off] 100)
     have GA:=hid (aH wr (.cells #[.string (bs y.name),.int .i64 y.bind,.int .i64 y.ah,.int .i64 y.off] 100) none)
     have GW:=hid (ya HG2.o GA.o)
     have c3:=yd HP.o (ya G0.o (ya HG.o GW.o))
     by_cases e1:y.bind=1
     ·obtain ⟨yn,yb,yt,yo⟩:=y
      dsimp only at *
      subst e1
      by_cases e2:yt=0
      ·have b2:(yt == 0)=true:=by simpa using e2
       have E:=hid (show Ln.dB os k ys=Ln.dB os k (ys.drop (j+1)) by rw [FI.o,if_pos (.inr e2)])
       go_wp2
       go_roundw
       case rel=>exact ⟨j+1,by omega,by go_num,E.o,ya HG2.o (aH _ _ none)⟩
       case measure=>simp [intOf]; omega
      ·have b2:(yt == 0)=false:=by simpa using e2
       have Br:=hid (show Ln.dB os k ys=if (Ln.find (os.take k) yn 1).mod.isSome then some ⟨33,k,yn⟩ else Ln.dB os k (ys.drop (j+1)) by rw [FI.o,if_neg (fun h=>h.elim (fun a=>a rfl) e2)])
       have cF:=hid (fun W (hg:(wr.alloc (.cells #[.string (bs yn),.int .i64 1,.int .i64 yt,.int .i64 yo] 100)).grownBy W none)=>Vx (some ⟨g0,off,none⟩) cap (bl.take k) (os.take k) yn 1 W (((H.o.kept (ya G0.o (ya HG.o GW.o))).kept hg).take k))
       have FL:=hid (fun i (hi:(Ln.find (os.take k) yn 1).mod=some i)=>show i < (bl.take k).length by rw [List.length_take,HL.o,<- List.length_take]; exact Mx (os.take k) yn 1 i hi)
       rw [show (bl.take k).length=k by rw [List.length_take]; omega] at cF
       generalize Ln.find (os.take k) yn 1=F1 at *
       obtain ⟨m1,s1,o1⟩:=F1
       unfold nI at cF
       dsimp only at cF Br FL
       generalize hqq:lZ (bl.take k) m1=qq at *
       have uW:=hid hqq
       clear hqq
       have x0:=hid (show (wr.alloc (.cells #[.string (bs yn),.int .i64 1,.int .i64 yt,.int .i64 yo] 100)).cell? ⟨wr.heap.size,0,none⟩=some (.string (bs yn)) from BX.o.cell 0)
       have C3:=hid c3
       have Jw:wr.heap.size < (wr.alloc (.cells #[.string (bs yn),.int .i64 1,.int .i64 yt,.int .i64 yo] 100)).heap.size:=BX.o.lt
       have XU:=hid Jw
       clear Jw
       go_wp2
       generalize hV:wr.alloc (.cells #[.string (bs yn),.int .i64 1,.int .i64 yt,.int .i64 yo] 100)=V at *
       generalize hX:wr.heap.size=X at *
       have y0':=x0.o
       have y1':=C3.o
       have hXV:=XU.o
       have gk:(k:Int)<=(cap:Int):=by omega
       go_cut [7] from 38 to 46 (fun v wx=>∃ b5,v = .pointer (some ⟨b5,0,none⟩)/\yc wx b5 #[.pointer qq,.int .i64 s1,.int .i64 o1] 123/\V.grownBy wx none/\V.heap.size<=b5)
       case first =>
        refine wp_region_held_drew (S:=(fun w'=>w'.cell? ⟨P,3,none⟩=some (.slice (some ⟨g0,off,none⟩) bl.length cap)/\w'.cell? ⟨X,0,none⟩=some (.string (bs yn)))) (by kernel_rfl) ⟨y1',y0'⟩ ?_
        intro hS
        refine wpAnyH_take (i:=0) (v:=?_) rfl (by kernel_rfl) (by kernel_rfl) (by kernel_rfl) (fun _ _ _ h=>h) (Or.inl ⟨by kernel_rfl,?_⟩) hS ?_
        rotate_left
        ·intro w' hw'; obtain ⟨y0,y1⟩:=hw'; go_simp; with_reducible rfl
        refine wpAnyH_take (i:=1) (v:=?_) rfl (by kernel_rfl) (by kernel_rfl) (by kernel_rfl) (fun _ _ _ h=>h) (Or.inl ⟨by kernel_rfl,?_⟩) hS ?_
        rotate_left
        ·intro w' hw'; obtain ⟨y0,y1⟩:=hw'; go_simp; with_reducible rfl
        refine wpAnyH_take (i:=2) (v:=?_) rfl (by kernel_rfl) (by kernel_rfl) (by kernel_rfl) (fun _ _ _ h=>h) (Or.inl ⟨by kernel_rfl,?_⟩) hS ?_
        rotate_left
        ·intro w' hw'; obtain ⟨y0,y1⟩:=hw'; go_simp; with_reducible rfl
        refine wpAnyH_take (i:=3) (v:=?_) rfl (by kernel_rfl) (by kernel_rfl) (by kernel_rfl) (fun _ _ _ h=>h) (Or.inl ⟨by kernel_rfl,?_⟩) hS ?_
        rotate_left
        ·intro w' hw'; obtain ⟨y0,y1⟩:=hw'; go_simp; with_reducible rfl
        refine wpAnyH_take (i:=4) (v:=?_) rfl (by kernel_rfl) (by kernel_rfl) (by kernel_rfl) (fun _ _ _ h=>h) (Or.inl ⟨by kernel_rfl,?_⟩) hS ?_
        rotate_left
        ·intro w' hw'; obtain ⟨y0,y1⟩:=hw'; go_simp; with_reducible rfl
        refine wpAnyH_take (i:=5) (v:=.slice (some ⟨g0,off,none⟩) k cap) rfl (by kernel_rfl) (by kernel_rfl) (by kernel_rfl) (fun _ _ _ h=>h) (Or.inl ⟨by kernel_rfl,?_⟩) hS ?_
        ·intro w' hw'; obtain ⟨y0,y1⟩:=hw'; go_simp
        refine wpAnyH_take (i:=6) (v:=?_) rfl (by kernel_rfl) (by kernel_rfl) (by kernel_rfl) (fun _ _ _ h=>h) (Or.inl ⟨by kernel_rfl,?_⟩) hS ?_
        rotate_left
        ·intro w' hw'; obtain ⟨y0,y1⟩:=hw'; go_simp; with_reducible rfl
        refine wpAnyH_take (i:=7) (v:=?_) rfl (by kernel_rfl) (by kernel_rfl) (by kernel_rfl) (fun _ _ _ h=>h) (Or.inl ⟨by kernel_rfl,?_⟩) hS ?_
        rotate_left
        ·intro w' hw'; obtain ⟨y0,y1⟩:=hw'; go_simp; with_reducible rfl
        refine wpAnyH_ready (rs:=[8,9]) (by kernel_rfl) (by simp) ?_
        refine AllReadyH.cons rfl (fun K hK=>?_) (AllReadyH.cons rfl (fun K hK=>?_) AllReadyH.nil)
        ·go_simp
         refine (cF.o _ (ye (World.grownBy.refl V none) 1)).mono ?_
         rintro e w1 ⟨rfl,hq⟩
         have hq1:=ya (ye (World.grownBy.refl V none) 1) hq
         refine hK.out _ _ ⟨yd y1' hq1,yd y0' hq1⟩ (fun hS2=>?_)
         clear hK K
         refine wpAnyH_ready (rs:=[9]) (by kernel_rfl) (by simp) ?_
         refine AllReadyH.cons rfl (fun K hK=>?_) AllReadyH.nil
         go_simp
         have hz:=ya hq1 (aH w1 (.cells #[.pointer none,.int .i64 0,.int .i64 0] 123) none)
         refine hK.out _ _ ⟨yd y1' hz,yd y0' hz⟩ (fun iP=>?_)
         clear hK K
         refine wpAnyH_ready (rs:=[10]) (by kernel_rfl) (by simp) ?_
         refine AllReadyH.cons rfl (fun K hK=>?_) AllReadyH.nil
         go_simp
         have hy:=ya hq1 (aH w1 (.cells #[.pointer qq,.int .i64 s1,.int .i64 o1] 123) none)
         refine hK.out _ _ ⟨yd y1' hy,yd y0' hy⟩ (fun iT=>?_)
         clear hK K
         refine wpAnyH_done (by kernel_rfl) ?_ _
         try simp only [Act.put,oD,nQ,om]
         go_wp2_with fail
         go_meet
         exact ⟨_,rfl,yc.new w1 #[.pointer qq,.int .i64 s1,.int .i64 o1] 123,hy,hq1.size⟩
        ·go_simp
         have hz:=ye (aH V (.cells #[.pointer none,.int .i64 0,.int .i64 0] 123) none) 1
         refine hK.out _ _ ⟨yd y1' hz,yd y0' hz⟩ (fun hS2=>?_)
         clear hK K
         refine wpAnyH_ready (rs:=[8]) (by kernel_rfl) (by simp) ?_
         refine AllReadyH.cons rfl (fun K hK=>?_) AllReadyH.nil
         go_simp
         refine (cF.o _ hz).mono ?_
         rintro e w1 ⟨rfl,hq⟩
         have hq1:=ya hz hq
         have BN:=hid (((yc.new V #[.pointer none,.int .i64 0,.int .i64 0] 123).drewN 1).grown hq (by simp))
         have n0:w1.cell? ⟨V.heap.size,0,none⟩=some (.pointer none):=BN.o.cell 0
         have n1:w1.cell? ⟨V.heap.size,1,none⟩=some (.int .i64 0):=BN.o.cell 1
         have n2:w1.cell? ⟨V.heap.size,2,none⟩=some (.int .i64 0):=BN.o.cell 2
         have f0:=BN.o.free 0
         have f1:=BN.o.free 1
         have f2:=BN.o.free 2
         refine hK.out _ _ ⟨yd y1' hq1,yd y0' hq1⟩ (fun iP=>?_)
         clear hK K
         refine wpAnyH_ready (rs:=[10]) (by kernel_rfl) (by simp) ?_
         refine AllReadyH.cons rfl (fun K hK=>?_) AllReadyH.nil
         go_simp
         have hy:=yx hq1 V.heap.size (Nat.le_refl _) (.pointer qq) (.int .i64 s1) (.int .i64 o1)
         refine hK.out _ _ ⟨yd y1' hy,yd y0' hy⟩ (fun iT=>?_)
         clear hK K
         refine wpAnyH_done (by kernel_rfl) ?_ _
         try simp only [Act.put,oD,nQ,om]
         go_wp2_with fail
         go_meet
         exact ⟨_,rfl,((BN.o.set 0 (.pointer qq)).set 1 (.int .i64 s1)).set 2 (.int .i64 o1),hy,Nat.le_refl _⟩
       case rest =>
       obtain ⟨b5,rfl,hb5,hg5,Ym⟩:=hcut
       have Q5:=hid hb5
       have G5:=hid (ya GW.o hg5)
       have B5:=hid (BX.o.grown hg5 (by simp))
       have YZ:=B5.o.cell 0
       have t0:=Q5.o.cell 0
       simp only [bC,bE] at YZ t0
       clear hb5 hg5 cF
       cases m1 with
       | none =>
        have E:=hid (show Ln.dB os k ys=Ln.dB os k (ys.drop (j+1)) from Br.o)
        obtain rfl:none=qq:=uW.o
        go_wp2
        go_roundw
        case rel=>exact ⟨j+1,by omega,by go_num,E.o,G5.o⟩
        case measure=>simp [intOf]; omega
       | some i =>
        have hi:=FL.o i rfl
        obtain rfl:some ⟨(bl.take k)[i],0,none⟩=qq:=by rw [<- uW.o,J9 hi]
        generalize (bl.take k)[i]=bi at *
        have E:=hid (show Ln.gX os=⟨33,k,yn⟩ by rw [HF.o,FD.o,Br.o]; rfl)
        have BR:=hid (B0.o.grown (ya HG.o G5.o) (by simp))
        have hRl:=BR.o.lt
        have z0:=BR.o.cell 0
        have z1:=BR.o.cell 1
        have z2:=BR.o.cell 2
        simp only [bC,bG,bE] at z0 z1 z2
        have f0:=BR.o.free 0
        have f1:=BR.o.free 1
        have f2:=BR.o.free 2
        go_wp2
        have F:=((BR.o.set 0 (.int .i64 33)).set 1 (.int .i64 k)).set 2 (.string (bs yn))
        have h0:=F.cell 0
        have h1:=F.cell 1
        have h2:=F.cell 2
        simp only [fQ,fT,fP,bC,bG,bE] at h0 h1 h2
        refine bodyPost_ret (v:=fF ⟨33,k,yn⟩) ?_ rfl ⟨by rw [E.o],yx (ya G0.o (ya HG.o G5.o)) _ (Nat.le_refl _) _ _ _⟩
        clear F z0 z1 z2 f0 f1 f2
        generalize World.setCell _ _ _=WF at *
        simp [results,Tryz.results68,go_sem,fF,h0,h1,h2]
     ·have b1:(y.bind == 1)=false:=by simpa using e1
      have E:=hid (show Ln.dB os k ys=Ln.dB os k (ys.drop (j+1)) by rw [FI.o,if_pos (.inl e1)])
      clear e1
      go_wp2
      go_roundw
      case rel=>exact ⟨j+1,by omega,by go_num,E.o,ya HG2.o (aH _ _ none)⟩
      case measure=>simp [intOf]; omega
    ·obtain rfl:j=ys.length:=by omega
     have E:=hid (show Ln.dB os k ys=none by rw [lS.o,List.drop_length]; rfl)
     have g3:decide ((ys.length:Int) < (ys.length:Int))=false:=by simp
     go_wp2
     go_roundw
     case rel=>exact ⟨k+1,by omega,by go_num,by rw [HF.o,FD.o,E.o],ya HG.o HG2.o⟩
     case measure=>simp [intOf]; omega
  ·obtain rfl:k=bl.length:=by omega
   have E:=hid (show Ln.gX os=Ln.ok by rw [HF.o,HL.o,List.drop_length]; rfl)
   have g3:decide ((bl.length:Int) < (bl.length:Int))=false:=by simp
   have BR:=hid (B0.o.grown HG.o (by simp))
   have z0:wr.cell? ⟨w.heap.size,0,none⟩=some (.int .i64 0):=BR.o.cell 0
   have z1:wr.cell? ⟨w.heap.size,1,none⟩=some (.int .i64 0):=BR.o.cell 1
   have z2:wr.cell? ⟨w.heap.size,2,none⟩=some (.string ⟨#[]⟩):=BR.o.cell 2
   have f0:=BR.o.free 0
   have f1:=BR.o.free 1
   have f2:=BR.o.free 2
   go_wp2
   have F:=((BR.o.set 0 (.int .i64 0)).set 1 (.int .i64 0)).set 2 (.string ⟨#[]⟩)
   have h0:=F.cell 0
   have h1:=F.cell 1
   have h2:=F.cell 2
   simp only [fQ,fT,fP,bC,bG,bE] at h0 h1 h2
   refine bodyPost_ret (v:=fF Ln.ok) ?_ rfl ⟨by rw [E.o],yx (ya G0.o HG.o) _ (Nat.le_refl _) _ _ _⟩
   clear F z0 z1 z2 f0 f1 f2
   generalize World.setCell _ _ _=WF at *
   simp [results,Tryz.results68,go_sem,fF,Ln.ok,bs,h0,h1,h2]
set_option maxRecDepth 100000 in
theorem Y7 (P:Nat) (ao:Option Addr) (cap:Nat) (bl:List Nat) (os:List Lk.Obj) (w:World) (hp:w.cell? ⟨P,3,none⟩=some (.slice ao bl.length cap)) (h:rY w ao bl os) :
  Calls Tryz.prog 69 #[.pointer (some ⟨P,0,none⟩)] w fun e w'=>e = .returned (fF (Ln.fH os))/\w.grownBy w' none:=by
 have H:=hid h
 have HL:=hid h.len
 have hbl:bl.length<=4096:=by rw [h.len]; exact h.few
 have HP:=hid hp
 have G0:=hid (aH w (.cells #[.int .i64 0,.int .i64 0,.string ⟨#[]⟩] 45) none)
 have B0:=hid (yc.new w #[.int .i64 0,.int .i64 0,.string ⟨#[]⟩] 45)
 have c3:=yd hp G0.o
 have Yg:=World.block_lt_of_cell? w _ hp
 have cW:=hid (fun y W=>UO y W)
 have X9:=hid (fun nm W (hg:w.grownBy W none)=>Pv P ao cap bl os nm W (yd hp hg) (h.kept hg))
 unfold pG at cW
 clear h hp
 go_enter Tryz.func69,Tryz.ntmps69
 go_wp2
 generalize w.alloc (.cells #[.int .i64 0,.int .i64 0,.string ⟨#[]⟩] 45)=W1 at *
 go_loopw [13] (fun i wr=>∃ k:Nat,k<=bl.length/\i = .int .i64 k/\Ln.fH os=Ln.wantedAt os k (os.drop k)/\W1.grownBy wr none) (fun i _=>bl.length - (intOf i).toNat)
 case atStart=>exact ⟨0,Nat.zero_le _,rfl,rfl,World.grownBy.refl _ _⟩
 case round =>
  obtain ⟨k,hk,rfl,hf,hgr⟩:=hrel
  have HF:=hid hf
  have HG:=hid hgr
  clear hf hgr
  by_cases hlt:k < bl.length
  ·have hko:k < os.length:=by rw [<- HL.o]; exact hlt
   have MI:=H.o.kept (ya G0.o HG.o)
   obtain ⟨g0,off,hao,hc⟩:=MI.ptrs (by omega)
   subst hao
   obtain ⟨og,hm0,ni⟩:=MI.mod k hlt hko
   have ck:=hc k hlt
   obtain ⟨at_,ct,af,cf,ad,cd,aa,ca,fU,cs,ar,cr,hb,-,-,-,-,q5,-⟩:=ni.open
   have S:=hid (mW.aR q5)
   have k5:=hb.cell 5
   simp only [bC,bG,bE] at k5
   have hns:=MI.syms os[k] (gW hko)
   have FD:=hid (yjc os os k hko)
   clear hc ni hb q5 MI c3
   generalize os[k].syms=ys at *
   generalize bl[k]=bk at *
   have g1:(k:Int) < (bl.length:Int):=by omega
   obtain ⟨U,hU⟩:∃ U:World,U=wr:=⟨_,rfl⟩
   subst hU
   go_wp2
   go_loopw [26] (fun i wr=>∃ j:Nat,j<=ys.length/\i = .int .i64 j/\Ln.bU os k ys=Ln.bU os k (ys.drop j)/\U.grownBy wr none) (fun i _=>ys.length - (intOf i).toNat)
   case atStart=>exact ⟨0,Nat.zero_le _,rfl,rfl,World.grownBy.refl _ _⟩
   case round =>
    obtain ⟨j,hj,rfl,hf2,gT⟩:=hrel
    have lS:=hid hf2
    have HG2:=hid gT
    clear hf2 gT ck hm0 k5
    by_cases hlt2:j < ys.length
    ·obtain ⟨sg,hsg,hgs,hcs⟩:=S.o.grown HG2.o (by omega)
     subst hsg
     obtain ⟨q0,q1,q2,q3⟩:=hcs j hlt2
     clear hcs
     have g2:(j:Int) < (ys.length:Int):=by omega
     have FI:=hid (show Ln.bU os k ys=_ from lS.o.trans (yjd os k ys j hlt2))
     generalize ys[j]=y at *
     have BX:=hid (yc.new wr #[.string (bs y.name),.int .i64 y.bind,.int .i64 y.ah,.int .i64 y.off] 100)
     have GA:=hid (aH wr (.cells #[.string (bs y.name),.int .i64 y.bind,.int .i64 y.ah,.int .i64 y.off] 100) none)
     have GW:=hid (ya HG2.o GA.o)
     have c3:=yd HP.o (ya G0.o (ya HG.o GW.o))
     have cY:=hid (cW.o y)
     have cN:=hid (fun W hg=>X9.o y.name W hg)
     have FL:=hid (fun i (hi:(Ln.named os y.name).mod=some i)=>show i < bl.length by rw [HL.o]; exact Qa os y.name i hi)
     go_wp2_with fail
     refine (cY.o _).mono ?_
     rintro e U4 ⟨rfl,h4⟩
     have G4:=hid (ya GW.o h4)
     have B4:=hid (BX.o.grown h4 (by simp))
     have x0:U4.cell? ⟨wr.heap.size,0,none⟩=some (.string (bs y.name)):=B4.o.cell 0
     clear h4 cY c3 q0 q1 q2 q3
     cases e1:Ln.wanted y
     ·have E:=hid (show Ln.bU os k ys=Ln.bU os k (ys.drop (j+1)) by rw [FI.o,if_pos e1])
      clear e1
      go_wp2
      go_roundw
      case rel=>exact ⟨j+1,by omega,by go_num,E.o,G4.o⟩
      case measure=>simp [intOf]; omega
     ·have Br:=hid (show Ln.bU os k ys=if (Ln.named os y.name).mod.isSome then Ln.bU os k (ys.drop (j+1)) else some ⟨34,k,y.name⟩ by rw [FI.o,if_neg (by rw [e1]; decide)])
      clear e1
      generalize Ln.named os y.name=F1 at *
      obtain ⟨m1,s1,o1⟩:=F1
      unfold nI at cN
      dsimp only at cN Br FL
      go_wp2_with fail
      refine (cN.o _ (ya G0.o (ya HG.o G4.o))).mono ?_
      rintro e U5 ⟨rfl,h5⟩
      have G5:=hid (ya G4.o h5)
      have B5:=hid (B4.o.grown h5 (by simp))
      clear h5 cN x0
      have x0:U5.cell? ⟨wr.heap.size,0,none⟩=some (.string (bs y.name)):=B5.o.cell 0
      have hx:=B5.o.lt
      have hxn:wr.heap.size≠U5.heap.size:=by omega
      cases m1 with
      | some i =>
       have hi:=FL.o i rfl
       rw [J9 hi]
       generalize bl[i]=bi at *
       have E:=hid (show Ln.bU os k ys=Ln.bU os k (ys.drop (j+1)) from Br.o)
       go_wp2
       go_roundw
       case rel=>exact ⟨j+1,by omega,by go_num,E.o,ya G5.o (aH _ _ none)⟩
       case measure=>simp [intOf]; omega
      | none =>
       rw [show lZ bl none=none from rfl]
       have E:=hid (show Ln.fH os=⟨34,k,y.name⟩ by rw [HF.o,FD.o,Br.o]; rfl)
       have BR:=hid (B0.o.grown (ya HG.o G5.o) (by simp))
       have hRl:=BR.o.lt
       have z0:U5.cell? ⟨w.heap.size,0,none⟩=some (.int .i64 0):=BR.o.cell 0
       have z1:U5.cell? ⟨w.heap.size,1,none⟩=some (.int .i64 0):=BR.o.cell 1
       have z2:U5.cell? ⟨w.heap.size,2,none⟩=some (.string ⟨#[]⟩):=BR.o.cell 2
       have f0:=BR.o.free 0
       have f1:=BR.o.free 1
       have f2:=BR.o.free 2
       have hne5:w.heap.size≠U5.heap.size:=by omega
       go_wp2
       have F:=(((BR.o.set 0 (.int .i64 34)).set 1 (.int .i64 k)).set 2 (.string (bs y.name))).grown (aH _ (.cells #[.pointer none,.int .i64 s1,.int .i64 o1] 123) none) (by simp)
       have h0:=F.cell 0
       have h1:=F.cell 1
       have h2:=F.cell 2
       simp only [fQ,fT,fP,bC,bG,bE] at h0 h1 h2
       refine bodyPost_ret (v:=fF ⟨34,k,y.name⟩) ?_ rfl ⟨by rw [E.o],ya (yx (ya G0.o (ya HG.o G5.o)) _ (Nat.le_refl _) _ _ _) (aH _ _ none)⟩
       clear F z0 z1 z2 f0 f1 f2
       generalize World.alloc _ _=WF at *
       simp [results,Tryz.results69,go_sem,fF,h0,h1,h2]
    ·obtain rfl:j=ys.length:=by omega
     have E:=hid (show Ln.bU os k ys=none by rw [lS.o,List.drop_length]; rfl)
     have g3:decide ((ys.length:Int) < (ys.length:Int))=false:=by simp
     go_wp2
     go_roundw
     case rel=>exact ⟨k+1,by omega,by go_num,by rw [HF.o,FD.o,E.o],ya HG.o HG2.o⟩
     case measure=>simp [intOf]; omega
  ·obtain rfl:k=bl.length:=by omega
   have E:=hid (show Ln.fH os=Ln.ok by rw [HF.o,HL.o,List.drop_length]; rfl)
   have g3:decide ((bl.length:Int) < (bl.length:Int))=false:=by simp
   have BR:=hid (B0.o.grown HG.o (by simp))
   have z0:wr.cell? ⟨w.heap.size,0,none⟩=some (.int .i64 0):=BR.o.cell 0
   have z1:wr.cell? ⟨w.heap.size,1,none⟩=some (.int .i64 0):=BR.o.cell 1
   have z2:wr.cell? ⟨w.heap.size,2,none⟩=some (.string ⟨#[]⟩):=BR.o.cell 2
   have f0:=BR.o.free 0
   have f1:=BR.o.free 1
   have f2:=BR.o.free 2
   go_wp2
   have F:=((BR.o.set 0 (.int .i64 0)).set 1 (.int .i64 0)).set 2 (.string ⟨#[]⟩)
   have h0:=F.cell 0
   have h1:=F.cell 1
   have h2:=F.cell 2
   simp only [fQ,fT,fP,bC,bG,bE] at h0 h1 h2
   refine bodyPost_ret (v:=fF Ln.ok) ?_ rfl ⟨by rw [E.o],yx (ya G0.o HG.o) _ (Nat.le_refl _) _ _ _⟩
   clear F z0 z1 z2 f0 f1 f2
   generalize World.setCell _ _ _=WF at *
   simp [results,Tryz.results69,go_sem,fF,Ln.ok,bs,h0,h1,h2]
theorem GX (W0:World) (b g:Nat) (dW:Value) (st:Mc.St) (vd vo:Value) (n v:Int) (W:World) (h:yv W0 b g dW st vd vo W) (h0:0<=n) (h1:n < 32) :
  Calls Tryz.prog 119 #[.pointer (some ⟨b,0,none⟩),.int .i64 n,.int .i64 v] W fun e W'=>e = .returned (.tuple #[])/\yv W0 b g dW (Mc.set n v st) vd vo W'/\W.grownBy W' (some b):=by
 obtain ⟨k,rfl⟩:=Int.eq_ofNat_of_zero_le h0
 have hk:k < 32:=by omega
 have e:=Xf (k:Int) (by omega) (by omega)
 have e2:(k:Int) % 32=k:=by omega
 rw [e2] at e
 have H:=hid h
 by_cases hz:k=0
 ·subst hz
  have R:=hid (show Mc.set ((0:Nat):Int) v st=st by unfold Mc.set; rw [if_pos (by decide)])
  clear h
  go_enter Tryz.func119,Tryz.ntmps119
  go_wp2
  go_end0
  rw [R.o]
  exact ⟨rfl,H.o,World.grownBy.refl _ _⟩
 ·have R:=hid (show Mc.set (k:Int) v st={ st with regs:=st.regs.set k (Mc.wd v) } by unfold Mc.set; rw [e2,if_neg (by omega)]; rfl)
  have c:=h.cr k hk
  have f:=h.free (2+k)
  have d:((k:Int) == 0)=false:=by simp; omega
  have cW:=hid (fun W=>Au v W)
  have F:=hid ((H.o.grown (ye (World.grownBy.refl W none) 1)).put (2+k) (.int .i64 (Mc.wd v)) { st with regs:=st.regs.set k (Mc.wd v) } (ylv g dW st vd vo H.o.ok.regs k hk _) rfl rfl (yrc H.o.ok k v hz))
  clear h e2
  go_enter Tryz.func119,Tryz.ntmps119
  go_wp2
  go_region_with (go_at_call 81; refine (cW.o _).mono ?_; rintro e w' ⟨rfl,rfl⟩)
  all_goals
   go_wp2
   go_end0
   rw [R.o]
   exact ⟨rfl,F.o,ye (yf W b (2+k) (.int .i64 (Mc.wd v))) 1⟩
theorem xJ (W0:World) (b g:Nat) (dW:Value) (st:Mc.St) (vd vo:Value) (n v:Int) (W:World) (h:yv W0 b g dW st vd vo W) (h0:0<=n) (h1:n < 32) :
  Calls Tryz.prog 119 #[.pointer (some ⟨b,0,none⟩),.int .i64 n,.int .i64 v] W fun e W'=>e = .returned (.tuple #[])/\yv W0 b g dW (Mc.set n v st) vd vo W' :=
 (GX W0 b g dW st vd vo n v W h h0 h1).mono fun _ _ k=>⟨k.1,k.2.1⟩
theorem J8 (op:Int) (w:World):Calls Tryz.prog 126 #[.int .i64 op] w fun e w'=>e = .returned (.int .i64 (Mc.plain op))/\w'=w:=by
 by_cases h1:op=13
 ·subst h1
  go_enter Tryz.func126,Tryz.ntmps126
  go_wp2
  go_ret
  exact ⟨rfl,rfl⟩
 by_cases h2:op=14
 ·subst h2
  go_enter Tryz.func126,Tryz.ntmps126
  go_wp2
  go_ret
  exact ⟨rfl,rfl⟩
 by_cases h3:op=15
 ·subst h3
  go_enter Tryz.func126,Tryz.ntmps126
  go_wp2
  go_ret
  exact ⟨rfl,rfl⟩
 by_cases h4:op=16
 ·subst h4
  go_enter Tryz.func126,Tryz.ntmps126
  go_wp2
  go_ret
  exact ⟨rfl,rfl⟩
 by_cases h5:op=17
 ·subst h5
  go_enter Tryz.func126,Tryz.ntmps126
  go_wp2
  go_ret
  exact ⟨rfl,rfl⟩
 have R:=hid (show Mc.plain op=0 by unfold Mc.plain; rw [if_neg h1,if_neg h2,if_neg h3,if_neg h4,if_neg h5])
 have d1:(op == 13)=false:=by simpa using h1
 have d2:(op == 14)=false:=by simpa using h2
 have d3:(op == 15)=false:=by simpa using h3
 have d4:(op == 16)=false:=by simpa using h4
 have d5:(op == 17)=false:=by simpa using h5
 clear h1 h2 h3 h4 h5
 go_enter Tryz.func126,Tryz.ntmps126
 go_wp2
 go_ret
 exact ⟨yC R.o.symm,rfl⟩
theorem GY {a b:Bool} (h:a=b):Ending.returned (.bool a) = .returned (.bool b):=by rw [h]
theorem yop (c:Bool) (w:World):Calls Tryz.prog 182 #[.bool c] w fun e w'=>e = .returned (.int .i64 (if c then 1 else 0))/\w'=w:=by
 cases c
 ·go_enter Tryz.func182,Tryz.ntmps182
  go_wp2
  go_ret
  exact ⟨rfl,rfl⟩
 ·go_enter Tryz.func182,Tryz.ntmps182
  go_wp2
  go_ret
  exact ⟨rfl,rfl⟩
theorem DU (op a b:Int) (w:World) (a0:0<=a) (a1:a < 4294967296) (b0:0<=b) (b1:b < 4294967296) (ho:5<=op/\op<=10) :
  Calls Tryz.prog 122 #[.int .i64 op,.int .i64 a,.int .i64 b] w fun e w'=>e = .returned (.bool (Mc.holds op a b))/\w'=w:=by
 have cA:=hid (fun W=>O7 a W a0 a1)
 have cB:=hid (fun W=>O7 b W b0 b1)
 rcases (show op=5\/op=6\/op=7\/op=8\/op=9\/op=10 by omega) with rfl | rfl | rfl | rfl | rfl | rfl
 ·have R:=hid (show Mc.holds 5 a b=(a == b) by unfold Mc.holds; rw [Bool.eq_iff_iff]; simp)
  clear ho
  go_enter Tryz.func122,Tryz.ntmps122
  go_wp2
  go_ret
  exact ⟨GY R.o.symm,rfl⟩
 ·have R:=hid (show Mc.holds 6 a b = !(a == b) by unfold Mc.holds; rw [Bool.eq_iff_iff]; simp)
  clear ho
  go_enter Tryz.func122,Tryz.ntmps122
  go_wp2
  go_ret
  exact ⟨GY R.o.symm,rfl⟩
 ·have R:=hid (show Mc.holds 7 a b=decide (Mc.sg a < Mc.sg b) by unfold Mc.holds; simp)
  clear ho
  go_enter Tryz.func122,Tryz.ntmps122
  go_wp2_with fail
  refine (cA.o _).mono ?_
  rintro e V ⟨rfl,rfl⟩
  go_wp2_with fail
  refine (cB.o _).mono ?_
  rintro e V2 ⟨rfl,rfl⟩
  go_wp2
  go_ret
  exact ⟨GY R.o.symm,rfl⟩
 ·have R:=hid (show Mc.holds 8 a b=decide (Mc.sg b<=Mc.sg a) by unfold Mc.holds; simp)
  clear ho
  go_enter Tryz.func122,Tryz.ntmps122
  go_wp2_with fail
  refine (cA.o _).mono ?_
  rintro e V ⟨rfl,rfl⟩
  go_wp2_with fail
  refine (cB.o _).mono ?_
  rintro e V2 ⟨rfl,rfl⟩
  go_wp2
  go_ret
  exact ⟨GY R.o.symm,rfl⟩
 ·have R:=hid (show Mc.holds 9 a b=decide (a < b) by unfold Mc.holds; simp)
  clear ho
  go_enter Tryz.func122,Tryz.ntmps122
  go_wp2
  go_ret
  exact ⟨GY R.o.symm,rfl⟩
 ·have R:=hid (show Mc.holds 10 a b=decide (b<=a) by unfold Mc.holds; simp)
  clear ho
  go_enter Tryz.func122,Tryz.ntmps122
  go_wp2
  go_ret
  exact ⟨GY R.o.symm,rfl⟩
theorem xG (op a b:Int) (w:World) (a0:0<=a) (a1:a < 4294967296) (b0:0<=b) (b1:b < 4294967296) (ho:18<=op/\op<=24) :
  Calls Tryz.prog 125 #[.int .i64 op,.int .i64 a,.int .i64 b] w fun e w'=>e = .returned (.int .i64 (Mc.computed op a b))/\w'=w:=by
 have c7:=hid (fun W=>DU 7 a b W a0 a1 b0 b1 (by omega))
 have c9:=hid (fun W=>DU 9 a b W a0 a1 b0 b1 (by omega))
 have o1:=hid (fun c W=>yop c W)
 rcases (show op=18\/op=19\/op=20\/op=21\/op=22\/op=23\/op=24 by omega) with rfl | rfl | rfl | rfl | rfl | rfl | rfl
 ·have R:=hid (show a+b=Mc.computed 18 a b from rfl)
  have x:IntKind.i64.wrap (a+b)=a+b:=IntWalk.i64_in _ ⟨by omega,by omega⟩
  clear ho c7 c9 o1
  go_enter Tryz.func125,Tryz.ntmps125
  go_wp2
  go_ret
  exact ⟨yC R.o,rfl⟩
 ·have R:=hid (show a - b=Mc.computed 19 a b from rfl)
  have x:IntKind.i64.wrap (a - b)=a - b:=IntWalk.i64_in _ ⟨by omega,by omega⟩
  clear ho c7 c9 o1
  go_enter Tryz.func125,Tryz.ntmps125
  go_wp2
  go_ret
  exact ⟨yC R.o,rfl⟩
 ·have R:=hid (show (if Mc.holds 7 a b=true then (1:Int) else 0)=Mc.computed 20 a b by unfold Mc.holds Mc.computed; simp)
  clear ho c9
  go_enter Tryz.func125,Tryz.ntmps125
  go_wp2_with fail
  refine (c7.o _).mono ?_
  rintro e V ⟨rfl,rfl⟩
  go_wp2_with fail
  refine (o1.o _ _).mono ?_
  rintro e V2 ⟨rfl,rfl⟩
  rw [R.o]
  go_wp2
  go_ret
  exact ⟨rfl,rfl⟩
 ·have R:=hid (show (if Mc.holds 9 a b=true then (1:Int) else 0)=Mc.computed 21 a b by unfold Mc.holds Mc.computed; simp)
  clear ho c7
  go_enter Tryz.func125,Tryz.ntmps125
  go_wp2_with fail
  refine (c9.o _).mono ?_
  rintro e V ⟨rfl,rfl⟩
  go_wp2_with fail
  refine (o1.o _ _).mono ?_
  rintro e V2 ⟨rfl,rfl⟩
  rw [R.o]
  go_wp2
  go_ret
  exact ⟨rfl,rfl⟩
 ·have R:=hid (show bits .xor .i64 a b=Mc.computed 22 a b from rfl)
  clear ho c7 c9 o1
  go_enter Tryz.func125,Tryz.ntmps125
  go_wp2
  go_ret
  exact ⟨yC R.o,rfl⟩
 ·have R:=hid (show bits .or .i64 a b=Mc.computed 23 a b from rfl)
  clear ho c7 c9 o1
  go_enter Tryz.func125,Tryz.ntmps125
  go_wp2
  go_ret
  exact ⟨yC R.o,rfl⟩
 ·have R:=hid (show bits .and .i64 a b=Mc.computed 24 a b from rfl)
  clear ho c7 c9 o1
  go_enter Tryz.func125,Tryz.ntmps125
  go_wp2
  go_ret
  exact ⟨yC R.o,rfl⟩
def kN (W0:World) (b g:Nat) (dW:Value) (st:Mc.St) (W:World):Prop:=∃ vd vo,yv W0 b g dW st vd vo W
section
variable {W0 W:World} {b g:Nat} {dW vd vo:Value} {st:Mc.St}
theorem yv.rC (h:yv W0 b g dW st vd vo W) (v:Int) (hv:0<=v/\v < 4294967296):yv W0 b g dW { st with next:=v } vd vo (W.setCell ⟨b,36,none⟩ (.int .i64 v)) :=
 h.put 36 _ _ (FX g dW st { st with next:=v } vd vo vd vo h.ok.regs rfl 2 (.int .i64 v) rfl) rfl rfl ⟨h.ok.regs,h.ok.words,h.ok.zero,h.ok.data,h.ok.j5,h.ok.pc,hv,h.ok.o,h.ok.steps,h.ok.read⟩
theorem yv.JH (h:yv W0 b g dW st vd vo W) (v:Int) (hv:0<=v/\v < 4294967296):yv W0 b g dW { st with pc:=v } vd vo (W.setCell ⟨b,35,none⟩ (.int .i64 v)) :=
 h.put 35 _ _ (FX g dW st { st with pc:=v } vd vo vd vo h.ok.regs rfl 1 (.int .i64 v) rfl) rfl rfl ⟨h.ok.regs,h.ok.words,h.ok.zero,h.ok.data,h.ok.j5,hv,h.ok.next,h.ok.o,h.ok.steps,h.ok.read⟩
theorem yv.kC (h:yv W0 b g dW st vd vo W) (v:Int):yv W0 b g dW { st with dG:=v } vd vo (W.setCell ⟨b,37,none⟩ (.int .i64 v)) :=
 h.put 37 _ _ (FX g dW st { st with dG:=v } vd vo vd vo h.ok.regs rfl 3 (.int .i64 v) rfl) rfl rfl ⟨h.ok.regs,h.ok.words,h.ok.zero,h.ok.data,h.ok.j5,h.ok.pc,h.ok.next,h.ok.o,h.ok.steps,h.ok.read⟩
theorem yv.CQ (h:yv W0 b g dW st vd vo W) (v:Int):yv W0 b g dW { st with code:=v } vd vo (W.setCell ⟨b,38,none⟩ (.int .i64 v)) :=
 h.put 38 _ _ (FX g dW st { st with code:=v } vd vo vd vo h.ok.regs rfl 4 (.int .i64 v) rfl) rfl rfl ⟨h.ok.regs,h.ok.words,h.ok.zero,h.ok.data,h.ok.j5,h.ok.pc,h.ok.next,h.ok.o,h.ok.steps,h.ok.read⟩
theorem yv.zR (h:yv W0 b g dW st vd vo W) (v:Nat) (hv:v<=65536):yv W0 b g dW { st with steps:=v } vd vo (W.setCell ⟨b,40,none⟩ (.int .i64 v)) :=
 h.put 40 _ _ (FX g dW st { st with steps:=v } vd vo vd vo h.ok.regs rfl 6 (.int .i64 v) rfl) rfl rfl ⟨h.ok.regs,h.ok.words,h.ok.zero,h.ok.data,h.ok.j5,h.ok.pc,h.ok.next,h.ok.o,hv,h.ok.read⟩
theorem yv.CU (h:yv W0 b g dW st vd vo W) (v:Nat) (hv:v<=16):yv W0 b g dW { st with read:=v } vd vo (W.setCell ⟨b,41,none⟩ (.int .i64 v)) :=
 h.put 41 _ _ (FX g dW st { st with read:=v } vd vo vd vo h.ok.regs rfl 7 (.int .i64 v) rfl) rfl rfl ⟨h.ok.regs,h.ok.words,h.ok.zero,h.ok.data,h.ok.j5,h.ok.pc,h.ok.next,h.ok.o,h.ok.steps,hv⟩
end
theorem ym {st:Mc.St} (h:Mc.Ok st) (n:Int):0<=Mc.reg st n/\Mc.reg st n < 4294967296:=h.words _
theorem Vq (W0:World) (b g:Nat) (dW:Value) (st:Mc.St) (vd vo:Value) (rd dest:Int) (W:World) (h:yv W0 b g dW st vd vo W) (h0:0<=rd) (h1:rd < 32) :
  Calls Tryz.prog 120 #[.pointer (some ⟨b,0,none⟩),.int .i64 rd,.int .i64 dest] W fun e W'=>e = .returned (.tuple #[])/\yv W0 b g dW (Mc.jump rd dest st) vd vo W':=by
 have H:=hid h
 have c:=h.c.2.2.2.1
 have hp:=h.ok.pc
 have x:IntKind.i64.wrap (st.pc+4)=st.pc+4:=IntWalk.i64_in _ ⟨by omega,by omega⟩
 have cS:=hid (fun W hW=>xJ W0 b g dW st vd vo rd (st.pc+4) W hW h0 h1)
 have cW:=hid (fun W=>Au dest W)
 clear h
 go_enter Tryz.func120,Tryz.ntmps120
 go_wp2_with fail
 refine (cS.o _ H.o).mono ?_
 rintro e V ⟨rfl,h1⟩
 have H1:=hid h1
 clear h1 c x
 go_wp2_with fail
 refine (cW.o _).mono ?_
 rintro e V2 ⟨rfl,hV⟩
 subst hV
 have c5:=H1.o.c.2.2.2.2.1
 have f5:=H1.o.free 36
 go_wp2
 go_end0
 exact ⟨rfl,H1.o.rC _ (Mc.gH dest)⟩
theorem He (W0:World) (b g:Nat) (dW:Value) (st:Mc.St) (vd vo:Value) (t:Bool) (n:Int) (W:World) (h:yv W0 b g dW st vd vo W) (h0:-4294967296<=n) (h1:n<=4294967296) :
  Calls Tryz.prog 121 #[.pointer (some ⟨b,0,none⟩),.bool t,.int .i64 n] W fun e W'=>e = .returned (.tuple #[])/\yv W0 b g dW (Mc.branch t n st) vd vo W':=by
 have H:=hid h
 have c:=h.c.2.2.2.1
 have c5:=h.c.2.2.2.2.1
 have f5:=h.free 36
 have hp:=h.ok.pc
 have x:IntKind.i64.wrap (st.pc+n)=st.pc+n:=IntWalk.i64_in _ ⟨by omega,by omega⟩
 have cW:=hid (fun W=>Au (st.pc+n) W)
 clear h
 cases t
 ·go_enter Tryz.func121,Tryz.ntmps121
  go_wp2
  go_end0
  exact ⟨rfl,H.o⟩
 ·go_enter Tryz.func121,Tryz.ntmps121
  go_wp2_with fail
  refine (cW.o _).mono ?_
  rintro e V2 ⟨rfl,hV⟩
  subst hV
  go_wp2
  go_end0
  exact ⟨rfl,H.o.rC _ (Mc.gH _)⟩
theorem Ud (W0:World) (b g:Nat) (dW:Value) (st:Mc.St) (vd vo:Value) (m:Im.dK) (a:Int) (W:World) (h:yv W0 b g dW st vd vo W) (hI:lJ W0 g m) (hT:Im.jo m) (h0:0<=a) (h1:a < 4294967296) :
  Calls Tryz.prog 181 #[.pointer (some ⟨b,0,none⟩),.int .i64 a] W fun e W'=>e = .returned (.int .i64 (Im.place m.data st.data.length a))/\∃ n,W'=W.drewN n:=by
 obtain ⟨ad,cd,hvd⟩:=yh h.data
 subst hvd
 have c0:=h.c.1
 have c34:=h.c.2.2.1
 obtain ⟨a1,t1,a2,t2,a3,t3,hb,-,-,-⟩:=(hI.kept h.gr).open
 have k3:=hb.cell 3
 simp only [bC,bG,bE] at k3
 have cP:=hid (fun W=>OY ad st.data.length cd m.data a W h0 h1 hT.data.1 hT.data.2)
 clear h hI hT hb
 go_enter Tryz.func181,Tryz.ntmps181
 go_wp2
 go_quiet ((go_at_call 115; exact Calls.quiet_of_same (cP.o _)))
 go_wp2
 go_ret
 exact ⟨rfl,_,rfl⟩
end Go.Proofs.YtpgklkhgfcjceaaGreatDoor
