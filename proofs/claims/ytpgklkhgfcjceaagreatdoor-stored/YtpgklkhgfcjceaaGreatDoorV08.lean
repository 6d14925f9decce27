
import Derived.Test.YtpgklkhgfcjceaaGreatDoorV07
import Derived.Deep.CutRange
import Derived.Deep.RegionHeld3
import Derived.Deep.RegionWith
set_option maxHeartbeats 16000000
set_option maxRecDepth 100000
namespace Go.Proofs.YtpgklkhgfcjceaaGreatDoor
open Go.RowKit
theorem yos (P:Nat) (ao:Option Addr) (cap:Nat) (bl:List Nat) (os:List Lk.Obj) (og:Nat) (o:Lk.Obj) (w:World) (hp:w.cell? ⟨P,3,none⟩=some (.slice ao bl.length cap)) (h:uH w ao bl os) (ho:yu w og o) (hns:o.syms.length<=65535) :
  Calls Tryz.prog 166 #[.pointer (some ⟨P,0,none⟩),.pointer (some ⟨og,0,none⟩)] w fun e w'=>e = .returned (.bool (Ln.needs os o))/\w.grownBy w' none:=by
 have cD:=hid (fun y W=>XM y W);have cW:=hid (fun nm W (hg:w.grownBy W none)=>yoK P ao cap bl os nm W (yd hp hg) (h.kept hg));have cH:=hid (fun nm W (hg:w.grownBy W none)=>yqI P ao cap bl os nm W (yd hp hg) (h.kept hg));unfold qI at cD;obtain ⟨at_,ct,af,cf,ad,cd,aa,ca,gy,cs,ar,cr,hb,-,-,-,-,q5,-⟩:=ho.open;have S:=hid (nZ.aO q5);have k5:=hb.cell 5;simp only [bI,bN,bK] at k5;have ND:=hid (show Ln.needs os o=o.syms.any fun y=>Ln.defines y && (Ln.wants os y.name && !Ln.has os y.name) from rfl);clear h ho hb q5 hp;generalize Ln.needs os o=N at *;generalize o.syms=ys at *;go_enter Tryz.func166,Tryz.ntmps166
 go_wp2
 go_loopw [12] (fun i wr=>∃ j:Nat,j<=ys.length/\i = .int .i64 j/\N=((ys.drop j).any fun y=>Ln.defines y && (Ln.wants os y.name && !Ln.has os y.name))/\w.grownBy wr none) (fun i _=>ys.length - (intOf i).toNat)
 case atStart=>exact ⟨0,Nat.zero_le _,rfl,ND.o,World.grownBy.refl _ _⟩
 case round =>
  obtain ⟨j,hj,rfl,hf2,iD⟩:=hrel;have mW:=hid hf2;have HG2:=hid iD;clear hf2 iD k5;by_cases hlt2:j < ys.length
  ·obtain ⟨sg,hsg,hgs,hcs⟩:=S.o.grown HG2.o (by omega);subst hsg;obtain ⟨q0,q1,q2,q3⟩:=hcs j hlt2;clear hcs;have g2:(j:Int) < (ys.length:Int):=by omega
   have FI:=hid (show N=((Ln.defines ys[j] && (Ln.wants os ys[j].name && !Ln.has os ys[j].name)) || (ys.drop (j+1)).any fun y=>Ln.defines y && (Ln.wants os y.name && !Ln.has os y.name)) by rw [mW.o,lV hlt2,List.any_cons]);generalize ys[j]=y at *;have cY:=hid (cD.o y);have Wq:=hid (cW.o y.name);have Wh:=hid (cH.o y.name);have BX:=hid (yc.new wr #[.string (bs y.name),.int .i64 y.bind,.int .i64 y.ah,.int .i64 y.off] 100);have GA:=hid (aJ wr (.cells #[.string (bs y.name),.int .i64 y.bind,.int .i64 y.ah,.int .i64 y.off] 100) none);have GW:=hid (ya HG2.o GA.o);go_wp2_with fail;refine (cY.o _).mono ?_
   rintro e W5 ⟨rfl,h5⟩;have G5:=hid (ya GW.o h5);have B5:=hid (BX.o.grown h5 (by simp));clear h5 cY q0 q1 q2 q3;have x0:W5.cell? ⟨wr.heap.size,0,none⟩=some (.string (bs y.name)):=B5.o.cell 0
   cases e1:Ln.defines y
   ·have E:=hid (show N=((ys.drop (j+1)).any fun y=>Ln.defines y && (Ln.wants os y.name && !Ln.has os y.name)) by rw [FI.o,e1]; simp);clear e1;go_wp2
    go_roundw
    case rel=>exact ⟨j+1,by omega,by go_num,E.o,G5.o⟩
    case measure=>simp [intOf]; omega
   ·have E1:=hid e1;clear e1;go_wp2_with fail;refine (Wq.o _ G5.o).mono ?_;rintro e W6 ⟨rfl,h6⟩;have G6:=hid (ya G5.o h6);have B6:=hid (B5.o.grown h6 (by simp));clear h6 Wq x0;have x0:W6.cell? ⟨wr.heap.size,0,none⟩=some (.string (bs y.name)):=B6.o.cell 0
    cases e2:Ln.wants os y.name
    ·have E:=hid (show N=((ys.drop (j+1)).any fun y=>Ln.defines y && (Ln.wants os y.name && !Ln.has os y.name)) by rw [FI.o,e2]; simp);clear e2;go_wp2
     go_roundw
     case rel=>exact ⟨j+1,by omega,by go_num,E.o,G6.o⟩
     case measure=>simp [intOf]; omega
    ·have E2:=hid e2;clear e2;go_wp2_with fail;refine (Wh.o _ G6.o).mono ?_;rintro e W7 ⟨rfl,h7⟩;have G7:=hid (ya G6.o h7);clear h7 Wh x0
     cases e3:Ln.has os y.name
     ·have E:=hid (show N=true by rw [FI.o,E1.o,E2.o,e3]; simp);clear e3;go_wp2;go_ret;exact ⟨Av E.o.symm,G7.o⟩
     ·have E:=hid (show N=((ys.drop (j+1)).any fun y=>Ln.defines y && (Ln.wants os y.name && !Ln.has os y.name)) by rw [FI.o,e3]; simp);clear e3;go_wp2
      go_roundw
      case rel=>exact ⟨j+1,by omega,by go_num,E.o,G7.o⟩
      case measure=>simp [intOf]; omega
  ·obtain rfl:j=ys.length:=by omega
   have E:=hid (show N=false by rw [mW.o,List.drop_length]; rfl);have g3:decide ((ys.length:Int) < (ys.length:Int))=false:=by simp
   go_wp2;go_ret;exact ⟨Av E.o.symm,HG2.o⟩
theorem ynM (n:List UInt8) (bind:Int):∀ (os:List Lk.Obj) (k i:Nat),(Ln.findAt n bind k os).mod=some i->k<=i/\i < k+os.length:=by
 intro os
 induction os with
 | nil=>intro k i h; cases h
 | cons o os ih =>
  intro k i h;rw [Ln.findAt] at h
  cases hf:Ln.gP n bind o.syms with
  | none =>
   rw [hf] at h
   have:=ih (k+1) i h
   simp only [jm];omega
  | some p =>
   rw [hf] at h;simp only [Option.some.injEq] at h;simp only [jm];omega
theorem Qg (os:List Lk.Obj) (n:List UInt8) (bind:Int) (i:Nat) (h:(Ln.find os n bind).mod=some i):i < os.length:=by
 have:=ynM n bind os 0 i h
 omega
theorem Nu {bl:List Nat} {i:Nat} (h:i < bl.length):nH bl (some i)=some ⟨bl[i],0,none⟩:=by
 unfold nH;rw [Option.bind_some,j3 h,Option.map_some]
theorem TI (P:Nat) (ao:Option Addr) (cap:Nat) (bl:List Nat) (os:List Lk.Obj) (nm:List UInt8) (w:World) (hp:w.cell? ⟨P,3,none⟩=some (.slice ao bl.length cap)) (h:uH w ao bl os) :
  Calls Tryz.prog 67 #[.pointer (some ⟨P,0,none⟩),.string (bs nm)] w fun e w'=>e = .returned (oL bl (Ln.named os nm))/\w.grownBy w' none:=by
 have cF:=hid (fun bind W (hg:w.grownBy W none)=>YI ao cap bl os nm bind W (h.kept hg));have HP:=hid hp;have hP:=World.block_lt_of_cell? w _ hp;have FL:=hid (fun i (hi:(Ln.find os nm 1).mod=some i)=>show i < bl.length by rw [h.len]; exact Qg os nm 1 i hi);have c1:=hid (cF.o 1);have c2:=hid (cF.o 2);have NM:=hid (show Ln.named os nm=if (Ln.find os nm 1).mod.isSome then Ln.find os nm 1 else Ln.find os nm 2 from rfl);clear hp h cF;generalize Ln.named os nm=N at *;generalize Ln.find os nm 2=F2 at *;generalize Ln.find os nm 1=F1 at *;obtain ⟨m1,s1,o1⟩:=F1;dsimp only at NM FL;have G0:=hid (aJ w (.cells #[.pointer none,.int .i64 0,.int .i64 0] 123) none)
 have B0:=hid (yc.new w #[.pointer none,.int .i64 0,.int .i64 0] 123);have c3:=yd HP.o G0.o;unfold oL at c1;dsimp only at c1;go_enter Tryz.func67,Tryz.ntmps67;go_wp2_with fail;refine (c1.o _ G0.o).mono ?_;rintro e W1 ⟨rfl,h1⟩;have G1:=hid (ya G0.o h1);have B1:=hid (B0.o.grown h1 (by simp));clear h1 c1 c3;have hlt:=B1.o.lt;have z0:W1.cell? ⟨w.heap.size,0,none⟩=some (.pointer none):=B1.o.cell 0;have z1:W1.cell? ⟨w.heap.size,1,none⟩=some (.int .i64 0):=B1.o.cell 1;have z2:W1.cell? ⟨w.heap.size,2,none⟩=some (.int .i64 0):=B1.o.cell 2;have f0:=B1.o.free 0;have f1:=B1.o.free 1;have f2:=B1.o.free 2
 cases m1 with
 | some i =>
  have hi:=FL.o i rfl;have PO:=hid (Nu hi);rw [PO.o];generalize bl[i]=bi at *;go_wp2;have F:=(((B1.o.set 0 (.pointer (some ⟨bi,0,none⟩))).set 1 (.int .i64 s1)).set 2 (.int .i64 o1)).grown (aJ _ (.cells #[.pointer (some ⟨bi,0,none⟩),.int .i64 s1,.int .i64 o1] 123) none) (by simp);have h0:=F.cell 0;have h1:=F.cell 1;have h2:=F.cell 2;simp only [gu,fZ,gq,bI,bN,bK] at h0 h1 h2;refine bodyPost_ret (v:=oL bl ⟨some i,s1,o1⟩) ?_ rfl ⟨by rw [NM.o]; rfl,ya (yz G1.o _ (Nat.le_refl _) _ _ _) (aJ _ _ none)⟩;clear F z0 z1 z2 f0 f1 f2;generalize World.alloc _ _=WF at *;simp [results,Tryz.results67,go_sem,oL,PO.o,h0,h1,h2]
 | none =>
  rw [show nH bl none=none from rfl];have c3:=yd HP.o (ya G1.o (aJ W1 (.cells #[.pointer none,.int .i64 s1,.int .i64 o1] 123) none));go_wp2_with fail;refine (c2.o _ (ya G1.o (aJ _ _ none))).mono ?_;rintro e W2 ⟨rfl,h2⟩;have G2:=hid (ya (ya G1.o (aJ _ _ none)) h2);have B2:=hid ((B1.o.grown (aJ _ _ none) (by simp)).grown h2 (by simp));clear h2 c2 c3 z0 z1 z2 f0 f1 f2;have z0:W2.cell? ⟨w.heap.size,0,none⟩=some (.pointer none):=B2.o.cell 0;have z1:W2.cell? ⟨w.heap.size,1,none⟩=some (.int .i64 0):=B2.o.cell 1;have z2:W2.cell? ⟨w.heap.size,2,none⟩=some (.int .i64 0):=B2.o.cell 2;have f0:=B2.o.free 0
  have f1:=B2.o.free 1;have f2:=B2.o.free 2;unfold oL;obtain ⟨m2,s2,o2⟩:=F2;dsimp only;generalize hq:nH bl m2=q at *;have HQ:=hid hq;clear hq;go_wp2;have F:=((B2.o.set 0 (.pointer q)).set 1 (.int .i64 s2)).set 2 (.int .i64 o2);have h0:=F.cell 0;have h1:=F.cell 1;have h2:=F.cell 2;simp only [gu,fZ,gq,bI,bN,bK] at h0 h1 h2;refine bodyPost_ret (v:=oL bl ⟨m2,s2,o2⟩) ?_ rfl ⟨by rw [NM.o]; rfl,yz G2.o _ (Nat.le_refl _) _ _ _⟩;clear F z0 z1 z2 f0 f1 f2;generalize World.setCell _ _ _=WF at *;simp [results,Tryz.results67,go_sem,oL,HQ.o,h0,h1,h2]
theorem ylm (P:Nat) (ao:Option Addr) (cap:Nat) (bl:List Nat) (os:List Lk.Obj) (i:Nat) (hi:i < bl.length) (y:Lk.Sym) (w:World) (hp:w.cell? ⟨P,3,none⟩=some (.slice ao bl.length cap)) (h:uH w ao bl os) :
  Calls Tryz.prog 66 #[.pointer (some ⟨P,0,none⟩),.pointer (some ⟨bl[i],0,none⟩),qI y] w fun e w'=>e = .returned (oL bl (Ln.meaning os i y))/\w.grownBy w' none:=by
 obtain ⟨n,b,s,o⟩:=y;have cN:=hid (fun W (hg:w.grownBy W none)=>TI P ao cap bl os n W (yd hp hg) (h.kept hg));have PO:=hid (Nu hi);have SZ:=hid (show (w.alloc (.cells #[.string (bs n),.int .i64 b,.int .i64 s,.int .i64 o] 100)).heap.size=w.heap.size+1 from Array.size_push _);have A0:=hid (aJ w (.cells #[.string (bs n),.int .i64 b,.int .i64 s,.int .i64 o] 100) none);have A1:=hid (aJ (w.alloc (.cells #[.string (bs n),.int .i64 b,.int .i64 s,.int .i64 o] 100)) (.cells #[.pointer none,.int .i64 0,.int .i64 0] 123) none);have B0:=hid (yc.new (w.alloc (.cells #[.string (bs n),.int .i64 b,.int .i64 s,.int .i64 o] 100)) #[.pointer none,.int .i64 0,.int .i64 0] 123)
 rw [SZ.o] at B0;clear h hp;unfold qI;dsimp only;by_cases hb:b=0
 ·subst hb;have NM:=hid (show Ln.meaning os i ⟨n,0,s,o⟩=⟨some i,s,o⟩ from rfl);go_enter Tryz.func66,Tryz.ntmps66;go_wp2;refine bodyPost_ret (v:=oL bl ⟨some i,s,o⟩) ?_ rfl ⟨by rw [NM.o],ya (aJ _ _ none) (aJ _ _ none)⟩;simp [results,Tryz.results66,go_sem,oL,PO.o]
 ·have NM:=hid (show Ln.meaning os i ⟨n,b,s,o⟩=Ln.named os n from if_neg hb);have d1:(b == 0)=false:=by simpa using hb
  generalize Ln.named os n=N at *;go_enter Tryz.func66,Tryz.ntmps66;go_wp2_with fail;refine (cN.o _ (ya A0.o A1.o)).mono ?_;rintro e W2 ⟨rfl,h2⟩;have G2:=hid (ya (ya A0.o A1.o) h2);have B2:=hid (B0.o.grown h2 (by simp));clear h2 cN;have z0:W2.cell? ⟨w.heap.size+1,0,none⟩=some (.pointer none):=B2.o.cell 0;have z1:W2.cell? ⟨w.heap.size+1,1,none⟩=some (.int .i64 0):=B2.o.cell 1;have z2:W2.cell? ⟨w.heap.size+1,2,none⟩=some (.int .i64 0):=B2.o.cell 2;have f0:=B2.o.free 0;have f1:=B2.o.free 1;have f2:=B2.o.free 2;unfold oL;obtain ⟨m2,s2,o2⟩:=N;dsimp only;generalize hq:nH bl m2=q at *;have HQ:=hid hq
  clear hq;go_wp2;have F:=((B2.o.set 0 (.pointer q)).set 1 (.int .i64 s2)).set 2 (.int .i64 o2);have h0:=F.cell 0;have h1:=F.cell 1;have h2:=F.cell 2;simp only [gu,fZ,gq,bI,bN,bK] at h0 h1 h2;refine bodyPost_ret (v:=oL bl ⟨m2,s2,o2⟩) ?_ rfl ⟨by rw [NM.o],yz G2.o _ (by omega) _ _ _⟩;clear F z0 z1 z2 f0 f1 f2;generalize World.setCell _ _ _=WF at *;simp [results,Tryz.results66,go_sem,oL,HQ.o,h0,h1,h2]
def fQ (f:Ln.qN):Value:=.agg #[.int .i64 f.e,.int .i64 f.at_,.string (bs f.name)]
theorem ykI (os r:List Lk.Obj) (k:Nat) (h:k < r.length):Ln.mJ os k (r.drop k)=match Ln.dU os k r[k].syms with | some f=>f | none=>Ln.mJ os (k+1) (r.drop (k+1)):=by
 rw [lV h,Ln.mJ]
 cases Ln.dU os k r[k].syms <;> rfl
theorem ykJ (os:List Lk.Obj) (i:Nat) (ys:List Lk.Sym) (k:Nat) (h:k < ys.length):Ln.dU os i (ys.drop k)=if ys[k].bind≠1\/ys[k].ah=0 then Ln.dU os i (ys.drop (k+1)) else if (Ln.find (os.take i) ys[k].name 1).mod.isSome then some ⟨33,i,ys[k].name⟩ else Ln.dU os i (ys.drop (k+1)):=by
 rw [lV h,Ln.dU]
theorem yjc (os r:List Lk.Obj) (k:Nat) (h:k < r.length):Ln.wantedAt os k (r.drop k)=match Ln.dJ os k r[k].syms with | some f=>f | none=>Ln.wantedAt os (k+1) (r.drop (k+1)):=by
 rw [lV h,Ln.wantedAt]
 cases Ln.dJ os k r[k].syms <;> rfl
theorem yjd (os:List Lk.Obj) (i:Nat) (ys:List Lk.Sym) (k:Nat) (h:k < ys.length):Ln.dJ os i (ys.drop k)=if Ln.wanted ys[k]=false then Ln.dJ os i (ys.drop (k+1)) else if (Ln.named os ys[k].name).mod.isSome then Ln.dJ os i (ys.drop (k+1)) else some ⟨34,i,ys[k].name⟩:=by
 rw [lV h,Ln.dJ]
theorem TV (os:List Lk.Obj) (n:List UInt8) (i:Nat) (h:(Ln.named os n).mod=some i):i < os.length:=by
 unfold Ln.named at h;split at h
 ·exact Qg os n 1 i h
 ·exact Qg os n 2 i h
theorem yhL (P:Nat) (ao:Option Addr) (cap:Nat) (bl:List Nat) (os:List Lk.Obj) (w:World) (hp:w.cell? ⟨P,3,none⟩=some (.slice ao bl.length cap)) (h:uH w ao bl os) (hcap:bl.length<=cap) (hcm:cap<=maxLen) :
  Calls Tryz.prog 68 #[.pointer (some ⟨P,0,none⟩)] w fun e w'=>e = .returned (fQ (Ln.iK os))/\w.grownBy w' none:=by
 have H:=hid h;have HL:=hid h.len;have hbl:bl.length<=4096:=by rw [h.len]; exact h.few
 have HP:=hid hp;have G0:=hid (aJ w (.cells #[.int .i64 0,.int .i64 0,.string ⟨#[]⟩] 45) none);have B0:=hid (yc.new w #[.int .i64 0,.int .i64 0,.string ⟨#[]⟩] 45);have c3:=yd hp G0.o;have hPw:=World.block_lt_of_cell? w _ hp;have hcm2:=hcm;unfold maxLen at hcm2;clear h hp hcm;go_enter Tryz.func68,Tryz.ntmps68;go_wp2;generalize w.alloc (.cells #[.int .i64 0,.int .i64 0,.string ⟨#[]⟩] 45)=W1 at *
 go_loopw [13] (fun i wr=>∃ k:Nat,k<=bl.length/\i = .int .i64 k/\Ln.iK os=Ln.mJ os k (os.drop k)/\W1.grownBy wr none) (fun i _=>bl.length - (intOf i).toNat)
 case atStart=>exact ⟨0,Nat.zero_le _,rfl,rfl,World.grownBy.refl _ _⟩
 case round =>
  obtain ⟨k,hk,rfl,hf,hgr⟩:=hrel;have HF:=hid hf;have HG:=hid hgr;clear hf hgr;by_cases hlt:k < bl.length
  ·have hko:k < os.length:=by rw [<- HL.o]; exact hlt
   have MI:=H.o.kept (ya G0.o HG.o);obtain ⟨g0,off,hao,hc⟩:=MI.ptrs (by omega);subst hao;obtain ⟨og,hm0,oz⟩:=MI.mod k hlt hko;have ck:=hc k hlt;obtain ⟨at_,ct,af,cf,ad,cd,aa,ca,gy,cs,ar,cr,hb,-,-,-,-,q5,-⟩:=oz.open;have S:=hid (nZ.aO q5);have k5:=hb.cell 5;simp only [bI,bN,bK] at k5;have hns:=MI.syms os[k] (iq hko);have FD:=hid (ykI os os k hko);clear hc oz hb q5 MI c3;generalize os[k].syms=ys at *;generalize bl[k]=bk at *;have g1:(k:Int) < (bl.length:Int):=by omega
   obtain ⟨U,hU⟩:∃ U:World,U=wr:=⟨_,rfl⟩
   subst hU;go_wp2
   go_loopw [26] (fun i wr=>∃ j:Nat,j<=ys.length/\i = .int .i64 j/\Ln.dU os k ys=Ln.dU os k (ys.drop j)/\U.grownBy wr none) (fun i _=>ys.length - (intOf i).toNat)
   case atStart=>exact ⟨0,Nat.zero_le _,rfl,rfl,World.grownBy.refl _ _⟩
   case round =>
    obtain ⟨j,hj,rfl,hf2,iD⟩:=hrel;have mW:=hid hf2;have HG2:=hid iD;clear hf2 iD ck hm0 k5;by_cases hlt2:j < ys.length
    ·obtain ⟨sg,hsg,hgs,hcs⟩:=S.o.grown HG2.o (by omega);subst hsg;obtain ⟨q0,q1,q2,q3⟩:=hcs j hlt2;clear hcs;have g2:(j:Int) < (ys.length:Int):=by omega
     have FI:=hid (show Ln.dU os k ys=_ from mW.o.trans (ykJ os k ys j hlt2));generalize ys[j]=y at *;have BX:=hid (yc.new wr #[.string (bs y.name),.int .i64 y.bind,.int .i64 y.ah,.int .i64 y.off] 100);have GA:=hid (aJ wr (.cells #[.string (bs y.name),.int .i64 y.bind,.int .i64 y.ah,.int .i64 y.off] 100) none);have GW:=hid (ya HG2.o GA.o);have c3:=yd HP.o (ya G0.o (ya HG.o GW.o));by_cases e1:y.bind=1
     ·obtain ⟨yn,yb,yt,yo⟩:=y;dsimp only at *;subst e1;by_cases e2:yt=0
      ·have b2:(yt == 0)=true:=by simpa using e2
       have E:=hid (show Ln.dU os k ys=Ln.dU os k (ys.drop (j+1)) by rw [FI.o,if_pos (.inr e2)]);go_wp2
       go_roundw
       case rel=>exact ⟨j+1,by omega,by go_num,E.o,ya HG2.o (aJ _ _ none)⟩
       case measure=>simp [intOf]; omega
      ·have b2:(yt == 0)=false:=by simpa using e2
       have En:=hid (show Ln.dU os k ys=if (Ln.find (os.take k) yn 1).mod.isSome then some ⟨33,k,yn⟩ else Ln.dU os k (ys.drop (j+1)) by rw [FI.o,if_neg (fun h=>h.elim (fun a=>a rfl) e2)]);have cF:=hid (fun W (hg:(wr.alloc (.cells #[.string (bs yn),.int .i64 1,.int .i64 yt,.int .i64 yo] 100)).grownBy W none)=>YI (some ⟨g0,off,none⟩) cap (bl.take k) (os.take k) yn 1 W (((H.o.kept (ya G0.o (ya HG.o GW.o))).kept hg).take k));have FL:=hid (fun i (hi:(Ln.find (os.take k) yn 1).mod=some i)=>show i < (bl.take k).length by rw [List.length_take,HL.o,<- List.length_take]; exact Qg (os.take k) yn 1 i hi);rw [show (bl.take k).length=k by rw [List.length_take]; omega] at cF
       generalize Ln.find (os.take k) yn 1=F1 at *;obtain ⟨m1,s1,o1⟩:=F1;unfold oL at cF;dsimp only at cF En FL;generalize hqq:nH (bl.take k) m1=qq at *;have xO:=hid hqq;clear hqq;have x0:=hid (show (wr.alloc (.cells #[.string (bs yn),.int .i64 1,.int .i64 yt,.int .i64 yo] 100)).cell? ⟨wr.heap.size,0,none⟩=some (.string (bs yn)) from BX.o.cell 0);have C3:=hid c3;have MK:wr.heap.size < (wr.alloc (.cells #[.string (bs yn),.int .i64 1,.int .i64 yt,.int .i64 yo] 100)).heap.size:=BX.o.lt;have HXL:=hid MK;clear MK;go_wp2;generalize hV:wr.alloc (.cells #[.string (bs yn),.int .i64 1,.int .i64 yt,.int .i64 yo] 100)=V at *
       generalize hX:wr.heap.size=X at *;have y0':=x0.o;have y1':=C3.o;have hXV:=HXL.o;have gk:(k:Int)<=(cap:Int):=by omega
       go_cut [7] from 38 to 46 (fun v wx=>∃ b5,v = .pointer (some ⟨b5,0,none⟩)/\yc wx b5 #[.pointer qq,.int .i64 s1,.int .i64 o1] 123/\V.grownBy wx none/\V.heap.size<=b5)
       case first =>
        refine wp_region_held_drew (S:=(fun w'=>w'.cell? ⟨P,3,none⟩=some (.slice (some ⟨g0,off,none⟩) bl.length cap)/\w'.cell? ⟨X,0,none⟩=some (.string (bs yn)))) (by kernel_rfl) ⟨y1',y0'⟩ ?_;intro hS;refine aU (i:=0) (v:=?_) rfl ?_ hS ?_
        rotate_left
        ·intro w' hw'; obtain ⟨y0,y1⟩:=hw'; go_simp; with_reducible rfl
        refine aU (i:=1) (v:=?_) rfl ?_ hS ?_
        rotate_left
        ·intro w' hw'; obtain ⟨y0,y1⟩:=hw'; go_simp; with_reducible rfl
        refine aU (i:=2) (v:=?_) rfl ?_ hS ?_
        rotate_left
        ·intro w' hw'; obtain ⟨y0,y1⟩:=hw'; go_simp; with_reducible rfl
        refine aU (i:=3) (v:=?_) rfl ?_ hS ?_
        rotate_left
        ·intro w' hw'; obtain ⟨y0,y1⟩:=hw'; go_simp; with_reducible rfl
        refine aU (i:=4) (v:=?_) rfl ?_ hS ?_
        rotate_left
        ·intro w' hw'; obtain ⟨y0,y1⟩:=hw'; go_simp; with_reducible rfl
        refine wpAnyH_take (i:=5) (v:=.slice (some ⟨g0,off,none⟩) k cap) rfl (by kernel_rfl) (by kernel_rfl) (by kernel_rfl) (fun _ _ _ h=>h) (Or.inl ⟨by kernel_rfl,?_⟩) hS ?_
        ·intro w' hw'; obtain ⟨y0,y1⟩:=hw'; go_simp
        refine aU (i:=6) (v:=?_) rfl ?_ hS ?_
        rotate_left
        ·intro w' hw'; obtain ⟨y0,y1⟩:=hw'; go_simp; with_reducible rfl
        refine aU (i:=7) (v:=?_) rfl ?_ hS ?_
        rotate_left
        ·intro w' hw'; obtain ⟨y0,y1⟩:=hw'; go_simp; with_reducible rfl
        refine wpAnyH_ready (rs:=[8,9]) (by kernel_rfl) (by simp) ?_;refine AllReadyH.cons rfl (fun K hK=>?_) (AllReadyH.cons rfl (fun K hK=>?_) AllReadyH.nil)
        ·go_simp;refine (cF.o _ (yf (World.grownBy.refl V none) 1)).mono ?_;rintro e w1 ⟨rfl,hq⟩;have hq1:=ya (yf (World.grownBy.refl V none) 1) hq;refine hK.out _ _ ⟨yd y1' hq1,yd y0' hq1⟩ (fun hS2=>?_);clear hK K;refine wpAnyH_ready (rs:=[9]) (by kernel_rfl) (by simp) ?_;refine AllReadyH.cons rfl (fun K hK=>?_) AllReadyH.nil;go_simp;have hz:=ya hq1 (aJ w1 (.cells #[.pointer none,.int .i64 0,.int .i64 0] 123) none);refine hK.out _ _ ⟨yd y1' hz,yd y0' hz⟩ (fun je=>?_);clear hK K;refine wpAnyH_ready (rs:=[10]) (by kernel_rfl) (by simp) ?_;refine AllReadyH.cons rfl (fun K hK=>?_) AllReadyH.nil;go_simp
         have hy:=ya hq1 (aJ w1 (.cells #[.pointer qq,.int .i64 s1,.int .i64 o1] 123) none);refine hK.out _ _ ⟨yd y1' hy,yd y0' hy⟩ (fun jh=>?_);clear hK K;refine wpAnyH_done (by kernel_rfl) ?_ _
         try simp only [Act.put,qc,pz,pU]
         go_wp2_with fail;go_meet;exact ⟨_,rfl,yc.new w1 #[.pointer qq,.int .i64 s1,.int .i64 o1] 123,hy,hq1.size⟩
        ·go_simp;have hz:=yf (aJ V (.cells #[.pointer none,.int .i64 0,.int .i64 0] 123) none) 1;refine hK.out _ _ ⟨yd y1' hz,yd y0' hz⟩ (fun hS2=>?_);clear hK K;refine wpAnyH_ready (rs:=[8]) (by kernel_rfl) (by simp) ?_;refine AllReadyH.cons rfl (fun K hK=>?_) AllReadyH.nil;go_simp;refine (cF.o _ hz).mono ?_;rintro e w1 ⟨rfl,hq⟩;have hq1:=ya hz hq;have BN:=hid (((yc.new V #[.pointer none,.int .i64 0,.int .i64 0] 123).drewN 1).grown hq (by simp));have n0:w1.cell? ⟨V.heap.size,0,none⟩=some (.pointer none):=BN.o.cell 0;have n1:w1.cell? ⟨V.heap.size,1,none⟩=some (.int .i64 0):=BN.o.cell 1;have n2:w1.cell? ⟨V.heap.size,2,none⟩=some (.int .i64 0):=BN.o.cell 2
         have f0:=BN.o.free 0;have f1:=BN.o.free 1;have f2:=BN.o.free 2;refine hK.out _ _ ⟨yd y1' hq1,yd y0' hq1⟩ (fun je=>?_);clear hK K;refine wpAnyH_ready (rs:=[10]) (by kernel_rfl) (by simp) ?_;refine AllReadyH.cons rfl (fun K hK=>?_) AllReadyH.nil;go_simp;have hy:=yz hq1 V.heap.size (Nat.le_refl _) (.pointer qq) (.int .i64 s1) (.int .i64 o1);refine hK.out _ _ ⟨yd y1' hy,yd y0' hy⟩ (fun jh=>?_);clear hK K;refine wpAnyH_done (by kernel_rfl) ?_ _
         try simp only [Act.put,qc,pz,pU]
         go_wp2_with fail;go_meet;exact ⟨_,rfl,((BN.o.set 0 (.pointer qq)).set 1 (.int .i64 s1)).set 2 (.int .i64 o1),hy,Nat.le_refl _⟩
       case rest =>
       obtain ⟨b5,rfl,hb5,hg5,aaf⟩:=hcut;have Q5:=hid hb5;have G5:=hid (ya GW.o hg5);have B5:=hid (BX.o.grown hg5 (by simp));have x0':=B5.o.cell 0;have t0:=Q5.o.cell 0;simp only [bI,bK] at x0' t0;clear hb5 hg5 cF
       cases m1 with
       | none =>
        have E:=hid (show Ln.dU os k ys=Ln.dU os k (ys.drop (j+1)) from En.o);obtain rfl:none=qq:=xO.o;go_wp2
        go_roundw
        case rel=>exact ⟨j+1,by omega,by go_num,E.o,G5.o⟩
        case measure=>simp [intOf]; omega
       | some i =>
        have hi:=FL.o i rfl;obtain rfl:some ⟨(bl.take k)[i],0,none⟩=qq:=by rw [<- xO.o,Nu hi]
        generalize (bl.take k)[i]=bi at *;have E:=hid (show Ln.iK os=⟨33,k,yn⟩ by rw [HF.o,FD.o,En.o]; rfl);have BR:=hid (B0.o.grown (ya HG.o G5.o) (by simp));have hRl:=BR.o.lt;have z0:=BR.o.cell 0;have z1:=BR.o.cell 1;have z2:=BR.o.cell 2;simp only [bI,bN,bK] at z0 z1 z2;have f0:=BR.o.free 0;have f1:=BR.o.free 1;have f2:=BR.o.free 2;go_wp2;have F:=((BR.o.set 0 (.int .i64 33)).set 1 (.int .i64 k)).set 2 (.string (bs yn));have h0:=F.cell 0;have h1:=F.cell 1;have h2:=F.cell 2;simp only [gu,fZ,gq,bI,bN,bK] at h0 h1 h2;refine bodyPost_ret (v:=fQ ⟨33,k,yn⟩) ?_ rfl ⟨by rw [E.o],yz (ya G0.o (ya HG.o G5.o)) _ (Nat.le_refl _) _ _ _⟩
        clear F z0 z1 z2 f0 f1 f2;generalize World.setCell _ _ _=WF at *;simp [results,Tryz.results68,go_sem,fQ,h0,h1,h2]
     ·have b1:(y.bind == 1)=false:=by simpa using e1
      have E:=hid (show Ln.dU os k ys=Ln.dU os k (ys.drop (j+1)) by rw [FI.o,if_pos (.inl e1)]);clear e1;go_wp2
      go_roundw
      case rel=>exact ⟨j+1,by omega,by go_num,E.o,ya HG2.o (aJ _ _ none)⟩
      case measure=>simp [intOf]; omega
    ·obtain rfl:j=ys.length:=by omega
     have E:=hid (show Ln.dU os k ys=none by rw [mW.o,List.drop_length]; rfl);have g3:decide ((ys.length:Int) < (ys.length:Int))=false:=by simp
     go_wp2
     go_roundw
     case rel=>exact ⟨k+1,by omega,by go_num,by rw [HF.o,FD.o,E.o],ya HG.o HG2.o⟩
     case measure=>simp [intOf]; omega
  ·obtain rfl:k=bl.length:=by omega
   have E:=hid (show Ln.iK os=Ln.ok by rw [HF.o,HL.o,List.drop_length]; rfl);have g3:decide ((bl.length:Int) < (bl.length:Int))=false:=by simp
   have BR:=hid (B0.o.grown HG.o (by simp));have z0:wr.cell? ⟨w.heap.size,0,none⟩=some (.int .i64 0):=BR.o.cell 0;have z1:wr.cell? ⟨w.heap.size,1,none⟩=some (.int .i64 0):=BR.o.cell 1;have z2:wr.cell? ⟨w.heap.size,2,none⟩=some (.string ⟨#[]⟩):=BR.o.cell 2;have f0:=BR.o.free 0;have f1:=BR.o.free 1;have f2:=BR.o.free 2;go_wp2;have F:=((BR.o.set 0 (.int .i64 0)).set 1 (.int .i64 0)).set 2 (.string ⟨#[]⟩);have h0:=F.cell 0;have h1:=F.cell 1;have h2:=F.cell 2;simp only [gu,fZ,gq,bI,bN,bK] at h0 h1 h2;refine bodyPost_ret (v:=fQ Ln.ok) ?_ rfl ⟨by rw [E.o],yz (ya G0.o HG.o) _ (Nat.le_refl _) _ _ _⟩;clear F z0 z1 z2 f0 f1 f2
   generalize World.setCell _ _ _=WF at *;simp [results,Tryz.results68,go_sem,fQ,Ln.ok,bs,h0,h1,h2]
theorem ygR (P:Nat) (ao:Option Addr) (cap:Nat) (bl:List Nat) (os:List Lk.Obj) (w:World) (hp:w.cell? ⟨P,3,none⟩=some (.slice ao bl.length cap)) (h:uH w ao bl os) :
  Calls Tryz.prog 69 #[.pointer (some ⟨P,0,none⟩)] w fun e w'=>e = .returned (fQ (Ln.fT os))/\w.grownBy w' none:=by
 have H:=hid h;have HL:=hid h.len;have hbl:bl.length<=4096:=by rw [h.len]; exact h.few
 have HP:=hid hp;have G0:=hid (aJ w (.cells #[.int .i64 0,.int .i64 0,.string ⟨#[]⟩] 45) none);have B0:=hid (yc.new w #[.int .i64 0,.int .i64 0,.string ⟨#[]⟩] 45);have c3:=yd hp G0.o;have hPw:=World.block_lt_of_cell? w _ hp;have cW:=hid (fun y W=>Yn y W);have cNm:=hid (fun nm W (hg:w.grownBy W none)=>TI P ao cap bl os nm W (yd hp hg) (h.kept hg));unfold qI at cW;clear h hp;go_enter Tryz.func69,Tryz.ntmps69;go_wp2;generalize w.alloc (.cells #[.int .i64 0,.int .i64 0,.string ⟨#[]⟩] 45)=W1 at *
 go_loopw [13] (fun i wr=>∃ k:Nat,k<=bl.length/\i = .int .i64 k/\Ln.fT os=Ln.wantedAt os k (os.drop k)/\W1.grownBy wr none) (fun i _=>bl.length - (intOf i).toNat)
 case atStart=>exact ⟨0,Nat.zero_le _,rfl,rfl,World.grownBy.refl _ _⟩
 case round =>
  obtain ⟨k,hk,rfl,hf,hgr⟩:=hrel;have HF:=hid hf;have HG:=hid hgr;clear hf hgr;by_cases hlt:k < bl.length
  ·have hko:k < os.length:=by rw [<- HL.o]; exact hlt
   have MI:=H.o.kept (ya G0.o HG.o);obtain ⟨g0,off,hao,hc⟩:=MI.ptrs (by omega);subst hao;obtain ⟨og,hm0,oz⟩:=MI.mod k hlt hko;have ck:=hc k hlt;obtain ⟨at_,ct,af,cf,ad,cd,aa,ca,gy,cs,ar,cr,hb,-,-,-,-,q5,-⟩:=oz.open;have S:=hid (nZ.aO q5);have k5:=hb.cell 5;simp only [bI,bN,bK] at k5;have hns:=MI.syms os[k] (iq hko);have FD:=hid (yjc os os k hko);clear hc oz hb q5 MI c3;generalize os[k].syms=ys at *;generalize bl[k]=bk at *;have g1:(k:Int) < (bl.length:Int):=by omega
   obtain ⟨U,hU⟩:∃ U:World,U=wr:=⟨_,rfl⟩
   subst hU;go_wp2
   go_loopw [26] (fun i wr=>∃ j:Nat,j<=ys.length/\i = .int .i64 j/\Ln.dJ os k ys=Ln.dJ os k (ys.drop j)/\U.grownBy wr none) (fun i _=>ys.length - (intOf i).toNat)
   case atStart=>exact ⟨0,Nat.zero_le _,rfl,rfl,World.grownBy.refl _ _⟩
   case round =>
    obtain ⟨j,hj,rfl,hf2,iD⟩:=hrel;have mW:=hid hf2;have HG2:=hid iD;clear hf2 iD ck hm0 k5;by_cases hlt2:j < ys.length
    ·obtain ⟨sg,hsg,hgs,hcs⟩:=S.o.grown HG2.o (by omega);subst hsg;obtain ⟨q0,q1,q2,q3⟩:=hcs j hlt2;clear hcs;have g2:(j:Int) < (ys.length:Int):=by omega
     have FI:=hid (show Ln.dJ os k ys=_ from mW.o.trans (yjd os k ys j hlt2));generalize ys[j]=y at *;have BX:=hid (yc.new wr #[.string (bs y.name),.int .i64 y.bind,.int .i64 y.ah,.int .i64 y.off] 100);have GA:=hid (aJ wr (.cells #[.string (bs y.name),.int .i64 y.bind,.int .i64 y.ah,.int .i64 y.off] 100) none);have GW:=hid (ya HG2.o GA.o);have c3:=yd HP.o (ya G0.o (ya HG.o GW.o));have cY:=hid (cW.o y);have cN:=hid (fun W hg=>cNm.o y.name W hg);have FL:=hid (fun i (hi:(Ln.named os y.name).mod=some i)=>show i < bl.length by rw [HL.o]; exact TV os y.name i hi);go_wp2_with fail;refine (cY.o _).mono ?_
     rintro e U4 ⟨rfl,h4⟩;have G4:=hid (ya GW.o h4);have B4:=hid (BX.o.grown h4 (by simp));have x0:U4.cell? ⟨wr.heap.size,0,none⟩=some (.string (bs y.name)):=B4.o.cell 0;clear h4 cY c3 q0 q1 q2 q3
     cases e1:Ln.wanted y
     ·have E:=hid (show Ln.dJ os k ys=Ln.dJ os k (ys.drop (j+1)) by rw [FI.o,if_pos e1]);clear e1;go_wp2
      go_roundw
      case rel=>exact ⟨j+1,by omega,by go_num,E.o,G4.o⟩
      case measure=>simp [intOf]; omega
     ·have En:=hid (show Ln.dJ os k ys=if (Ln.named os y.name).mod.isSome then Ln.dJ os k (ys.drop (j+1)) else some ⟨34,k,y.name⟩ by rw [FI.o,if_neg (by rw [e1]; decide)]);clear e1;generalize Ln.named os y.name=F1 at *;obtain ⟨m1,s1,o1⟩:=F1;unfold oL at cN;dsimp only at cN En FL;go_wp2_with fail;refine (cN.o _ (ya G0.o (ya HG.o G4.o))).mono ?_;rintro e U5 ⟨rfl,h5⟩;have G5:=hid (ya G4.o h5);have B5:=hid (B4.o.grown h5 (by simp));clear h5 cN x0;have x0:U5.cell? ⟨wr.heap.size,0,none⟩=some (.string (bs y.name)):=B5.o.cell 0;have hx:=B5.o.lt;have hxn:wr.heap.size≠U5.heap.size:=by omega
      cases m1 with
      | some i =>
       have hi:=FL.o i rfl;rw [Nu hi];generalize bl[i]=bi at *;have E:=hid (show Ln.dJ os k ys=Ln.dJ os k (ys.drop (j+1)) from En.o);go_wp2
       go_roundw
       case rel=>exact ⟨j+1,by omega,by go_num,E.o,ya G5.o (aJ _ _ none)⟩
       case measure=>simp [intOf]; omega
      | none =>
       rw [show nH bl none=none from rfl];have E:=hid (show Ln.fT os=⟨34,k,y.name⟩ by rw [HF.o,FD.o,En.o]; rfl);have BR:=hid (B0.o.grown (ya HG.o G5.o) (by simp));have hRl:=BR.o.lt;have z0:U5.cell? ⟨w.heap.size,0,none⟩=some (.int .i64 0):=BR.o.cell 0;have z1:U5.cell? ⟨w.heap.size,1,none⟩=some (.int .i64 0):=BR.o.cell 1;have z2:U5.cell? ⟨w.heap.size,2,none⟩=some (.string ⟨#[]⟩):=BR.o.cell 2;have f0:=BR.o.free 0;have f1:=BR.o.free 1;have f2:=BR.o.free 2;have hne5:w.heap.size≠U5.heap.size:=by omega
       go_wp2;have F:=(((BR.o.set 0 (.int .i64 34)).set 1 (.int .i64 k)).set 2 (.string (bs y.name))).grown (aJ _ (.cells #[.pointer none,.int .i64 s1,.int .i64 o1] 123) none) (by simp);have h0:=F.cell 0;have h1:=F.cell 1;have h2:=F.cell 2;simp only [gu,fZ,gq,bI,bN,bK] at h0 h1 h2;refine bodyPost_ret (v:=fQ ⟨34,k,y.name⟩) ?_ rfl ⟨by rw [E.o],ya (yz (ya G0.o (ya HG.o G5.o)) _ (Nat.le_refl _) _ _ _) (aJ _ _ none)⟩;clear F z0 z1 z2 f0 f1 f2;generalize World.alloc _ _=WF at *;simp [results,Tryz.results69,go_sem,fQ,h0,h1,h2]
    ·obtain rfl:j=ys.length:=by omega
     have E:=hid (show Ln.dJ os k ys=none by rw [mW.o,List.drop_length]; rfl);have g3:decide ((ys.length:Int) < (ys.length:Int))=false:=by simp
     go_wp2
     go_roundw
     case rel=>exact ⟨k+1,by omega,by go_num,by rw [HF.o,FD.o,E.o],ya HG.o HG2.o⟩
     case measure=>simp [intOf]; omega
  ·obtain rfl:k=bl.length:=by omega
   have E:=hid (show Ln.fT os=Ln.ok by rw [HF.o,HL.o,List.drop_length]; rfl);have g3:decide ((bl.length:Int) < (bl.length:Int))=false:=by simp
   have BR:=hid (B0.o.grown HG.o (by simp));have z0:wr.cell? ⟨w.heap.size,0,none⟩=some (.int .i64 0):=BR.o.cell 0;have z1:wr.cell? ⟨w.heap.size,1,none⟩=some (.int .i64 0):=BR.o.cell 1;have z2:wr.cell? ⟨w.heap.size,2,none⟩=some (.string ⟨#[]⟩):=BR.o.cell 2;have f0:=BR.o.free 0;have f1:=BR.o.free 1;have f2:=BR.o.free 2;go_wp2;have F:=((BR.o.set 0 (.int .i64 0)).set 1 (.int .i64 0)).set 2 (.string ⟨#[]⟩);have h0:=F.cell 0;have h1:=F.cell 1;have h2:=F.cell 2;simp only [gu,fZ,gq,bI,bN,bK] at h0 h1 h2;refine bodyPost_ret (v:=fQ Ln.ok) ?_ rfl ⟨by rw [E.o],yz (ya G0.o HG.o) _ (Nat.le_refl _) _ _ _⟩;clear F z0 z1 z2 f0 f1 f2
   generalize World.setCell _ _ _=WF at *;simp [results,Tryz.results69,go_sem,fQ,Ln.ok,bs,h0,h1,h2]
theorem KL (W0:World) (b g:Nat) (eH:Value) (st:Mc.St) (vd vo:Value) (n v:Int) (W:World) (h:yw W0 b g eH st vd vo W) (h0:0<=n) (h1:n < 32) :
  Calls Tryz.prog 119 #[.pointer (some ⟨b,0,none⟩),.int .i64 n,.int .i64 v] W fun e W'=>e = .returned (.tuple #[])/\yw W0 b g eH (Mc.set n v st) vd vo W'/\W.grownBy W' (some b):=by
 obtain ⟨k,rfl⟩:=Int.eq_ofNat_of_zero_le h0;have hk:k < 32:=by omega
 have e:=ZU (k:Int) (by omega) (by omega);have e2:(k:Int) % 32=k:=by omega
 rw [e2] at e;have H:=hid h;by_cases hz:k=0
 ·subst hz;have R:=hid (show Mc.set ((0:Nat):Int) v st=st by unfold Mc.set; rw [if_pos (by decide)]);clear h;go_enter Tryz.func119,Tryz.ntmps119;go_wp2
  go_end0
  rw [R.o];exact ⟨rfl,H.o,World.grownBy.refl _ _⟩
 ·have R:=hid (show Mc.set (k:Int) v st={ st with regs:=st.regs.set k (Mc.wd v) } by unfold Mc.set; rw [e2,if_neg (by omega)]; rfl);have c:=h.cr k hk;have f:=h.free (2+k);have d:((k:Int) == 0)=false:=by simp; omega
  have cW:=hid (fun W=>Dz v W);have F:=hid ((H.o.grown (yf (World.grownBy.refl W none) 1)).put (2+k) (.int .i64 (Mc.wd v)) { st with regs:=st.regs.set k (Mc.wd v) } (yly g eH st vd vo H.o.ok.regs k hk _) rfl rfl (yqY H.o.ok k v hz));clear h e2;go_enter Tryz.func119,Tryz.ntmps119;go_wp2
  go_region_with (go_at_call 81; refine (cW.o _).mono ?_; rintro e w' ⟨rfl,rfl⟩)
  all_goals
   go_wp2
   go_end0
   rw [R.o];exact ⟨rfl,F.o,yf (ye W b (2+k) (.int .i64 (Mc.wd v))) 1⟩
theorem AA (W0:World) (b g:Nat) (eH:Value) (st:Mc.St) (vd vo:Value) (n v:Int) (W:World) (h:yw W0 b g eH st vd vo W) (h0:0<=n) (h1:n < 32) :
  Calls Tryz.prog 119 #[.pointer (some ⟨b,0,none⟩),.int .i64 n,.int .i64 v] W fun e W'=>e = .returned (.tuple #[])/\yw W0 b g eH (Mc.set n v st) vd vo W' :=
 (KL W0 b g eH st vd vo n v W h h0 h1).mono fun _ _ k=>⟨k.1,k.2.1⟩
theorem Nt (op:Int) (w:World):Calls Tryz.prog 126 #[.int .i64 op] w fun e w'=>e = .returned (.int .i64 (Mc.plain op))/\w'=w:=by
 by_cases h1:op=13
 ·subst h1;go_enter Tryz.func126,Tryz.ntmps126;go_wp2;go_ret;exact ⟨rfl,rfl⟩
 by_cases h2:op=14
 ·subst h2;go_enter Tryz.func126,Tryz.ntmps126;go_wp2;go_ret;exact ⟨rfl,rfl⟩
 by_cases h3:op=15
 ·subst h3;go_enter Tryz.func126,Tryz.ntmps126;go_wp2;go_ret;exact ⟨rfl,rfl⟩
 by_cases h4:op=16
 ·subst h4;go_enter Tryz.func126,Tryz.ntmps126;go_wp2;go_ret;exact ⟨rfl,rfl⟩
 by_cases h5:op=17
 ·subst h5;go_enter Tryz.func126,Tryz.ntmps126;go_wp2;go_ret;exact ⟨rfl,rfl⟩
 have R:=hid (show Mc.plain op=0 by unfold Mc.plain; rw [if_neg h1,if_neg h2,if_neg h3,if_neg h4,if_neg h5]);have d1:(op == 13)=false:=by simpa using h1
 have d2:(op == 14)=false:=by simpa using h2
 have d3:(op == 15)=false:=by simpa using h3
 have d4:(op == 16)=false:=by simpa using h4
 have d5:(op == 17)=false:=by simpa using h5
 clear h1 h2 h3 h4 h5;go_enter Tryz.func126,Tryz.ntmps126;go_wp2;go_ret;exact ⟨yM R.o.symm,rfl⟩
theorem KM {a b:Bool} (h:a=b):Ending.returned (.bool a) = .returned (.bool b):=by rw [h]
theorem yox (c:Bool) (w:World):Calls Tryz.prog 182 #[.bool c] w fun e w'=>e = .returned (.int .i64 (if c then 1 else 0))/\w'=w:=by
 cases c
 ·go_enter Tryz.func182,Tryz.ntmps182;go_wp2;go_ret;exact ⟨rfl,rfl⟩
 ·go_enter Tryz.func182,Tryz.ntmps182;go_wp2;go_ret;exact ⟨rfl,rfl⟩
theorem Ht (op a b:Int) (w:World) (a0:0<=a) (a1:a < 4294967296) (b0:0<=b) (b1:b < 4294967296) (ho:5<=op/\op<=10) :
  Calls Tryz.prog 122 #[.int .i64 op,.int .i64 a,.int .i64 b] w fun e w'=>e = .returned (.bool (Mc.holds op a b))/\w'=w:=by
 have cA:=hid (fun W=>Tk a W a0 a1);have cB:=hid (fun W=>Tk b W b0 b1);rcases (show op=5\/op=6\/op=7\/op=8\/op=9\/op=10 by omega) with rfl | rfl | rfl | rfl | rfl | rfl
 ·have R:=hid (show Mc.holds 5 a b=(a == b) by unfold Mc.holds; rw [Bool.eq_iff_iff]; simp);clear ho;go_enter Tryz.func122,Tryz.ntmps122;go_wp2;go_ret;exact ⟨KM R.o.symm,rfl⟩
 ·have R:=hid (show Mc.holds 6 a b = !(a == b) by unfold Mc.holds; rw [Bool.eq_iff_iff]; simp);clear ho;go_enter Tryz.func122,Tryz.ntmps122;go_wp2;go_ret;exact ⟨KM R.o.symm,rfl⟩
 ·have R:=hid (show Mc.holds 7 a b=decide (Mc.sg a < Mc.sg b) by unfold Mc.holds; simp);clear ho;go_enter Tryz.func122,Tryz.ntmps122;go_wp2_with fail;refine (cA.o _).mono ?_;rintro e V ⟨rfl,rfl⟩;go_wp2_with fail;refine (cB.o _).mono ?_;rintro e V2 ⟨rfl,rfl⟩;go_wp2;go_ret;exact ⟨KM R.o.symm,rfl⟩
 ·have R:=hid (show Mc.holds 8 a b=decide (Mc.sg b<=Mc.sg a) by unfold Mc.holds; simp);clear ho;go_enter Tryz.func122,Tryz.ntmps122;go_wp2_with fail;refine (cA.o _).mono ?_;rintro e V ⟨rfl,rfl⟩;go_wp2_with fail;refine (cB.o _).mono ?_;rintro e V2 ⟨rfl,rfl⟩;go_wp2;go_ret;exact ⟨KM R.o.symm,rfl⟩
 ·have R:=hid (show Mc.holds 9 a b=decide (a < b) by unfold Mc.holds; simp);clear ho;go_enter Tryz.func122,Tryz.ntmps122;go_wp2;go_ret;exact ⟨KM R.o.symm,rfl⟩
 ·have R:=hid (show Mc.holds 10 a b=decide (b<=a) by unfold Mc.holds; simp);clear ho;go_enter Tryz.func122,Tryz.ntmps122;go_wp2;go_ret;exact ⟨KM R.o.symm,rfl⟩
theorem Ay (op a b:Int) (w:World) (a0:0<=a) (a1:a < 4294967296) (b0:0<=b) (b1:b < 4294967296) (ho:18<=op/\op<=24) :
  Calls Tryz.prog 125 #[.int .i64 op,.int .i64 a,.int .i64 b] w fun e w'=>e = .returned (.int .i64 (Mc.computed op a b))/\w'=w:=by
 have c7:=hid (fun W=>Ht 7 a b W a0 a1 b0 b1 (by omega));have c9:=hid (fun W=>Ht 9 a b W a0 a1 b0 b1 (by omega));have o1:=hid (fun c W=>yox c W);rcases (show op=18\/op=19\/op=20\/op=21\/op=22\/op=23\/op=24 by omega) with rfl | rfl | rfl | rfl | rfl | rfl | rfl
 ·have R:=hid (show a+b=Mc.computed 18 a b from rfl);have x:IntKind.i64.wrap (a+b)=a+b:=IntWalk.i64_in _ ⟨by omega,by omega⟩;clear ho c7 c9 o1;go_enter Tryz.func125,Tryz.ntmps125;go_wp2;go_ret;exact ⟨yM R.o,rfl⟩
 ·have R:=hid (show a - b=Mc.computed 19 a b from rfl);have x:IntKind.i64.wrap (a - b)=a - b:=IntWalk.i64_in _ ⟨by omega,by omega⟩;clear ho c7 c9 o1;go_enter Tryz.func125,Tryz.ntmps125;go_wp2;go_ret;exact ⟨yM R.o,rfl⟩
 ·have R:=hid (show (if Mc.holds 7 a b=true then (1:Int) else 0)=Mc.computed 20 a b by unfold Mc.holds Mc.computed; simp);clear ho c9;go_enter Tryz.func125,Tryz.ntmps125;go_wp2_with fail;refine (c7.o _).mono ?_;rintro e V ⟨rfl,rfl⟩;go_wp2_with fail;refine (o1.o _ _).mono ?_;rintro e V2 ⟨rfl,rfl⟩;rw [R.o];go_wp2;go_ret;exact ⟨rfl,rfl⟩
 ·have R:=hid (show (if Mc.holds 9 a b=true then (1:Int) else 0)=Mc.computed 21 a b by unfold Mc.holds Mc.computed; simp);clear ho c7;go_enter Tryz.func125,Tryz.ntmps125;go_wp2_with fail;refine (c9.o _).mono ?_;rintro e V ⟨rfl,rfl⟩;go_wp2_with fail;refine (o1.o _ _).mono ?_;rintro e V2 ⟨rfl,rfl⟩;rw [R.o];go_wp2;go_ret;exact ⟨rfl,rfl⟩
 ·have R:=hid (show bits .xor .i64 a b=Mc.computed 22 a b from rfl);clear ho c7 c9 o1;go_enter Tryz.func125,Tryz.ntmps125;go_wp2;go_ret;exact ⟨yM R.o,rfl⟩
 ·have R:=hid (show bits .or .i64 a b=Mc.computed 23 a b from rfl);clear ho c7 c9 o1;go_enter Tryz.func125,Tryz.ntmps125;go_wp2;go_ret;exact ⟨yM R.o,rfl⟩
 ·have R:=hid (show bits .and .i64 a b=Mc.computed 24 a b from rfl);clear ho c7 c9 o1;go_enter Tryz.func125,Tryz.ntmps125;go_wp2;go_ret;exact ⟨yM R.o,rfl⟩
def lU (W0:World) (b g:Nat) (eH:Value) (st:Mc.St) (W:World):Prop:=∃ vd vo,yw W0 b g eH st vd vo W
section
variable {W0 W:World} {b g:Nat} {eH vd vo:Value} {st:Mc.St}
theorem yw.tT (h:yw W0 b g eH st vd vo W) (v:Int) (hv:0<=v/\v < 4294967296):yw W0 b g eH { st with next:=v } vd vo (W.setCell ⟨b,36,none⟩ (.int .i64 v)) :=
 h.put 36 _ _ (JQ g eH st { st with next:=v } vd vo vd vo h.ok.regs rfl 2 (.int .i64 v) rfl) rfl rfl ⟨h.ok.regs,h.ok.words,h.ok.zero,h.ok.data,h.ok.kL,h.ok.pc,hv,h.ok.o,h.ok.steps,h.ok.read⟩
theorem yw.M5 (h:yw W0 b g eH st vd vo W) (v:Int) (hv:0<=v/\v < 4294967296):yw W0 b g eH { st with pc:=v } vd vo (W.setCell ⟨b,35,none⟩ (.int .i64 v)) :=
 h.put 35 _ _ (JQ g eH st { st with pc:=v } vd vo vd vo h.ok.regs rfl 1 (.int .i64 v) rfl) rfl rfl ⟨h.ok.regs,h.ok.words,h.ok.zero,h.ok.data,h.ok.kL,hv,h.ok.next,h.ok.o,h.ok.steps,h.ok.read⟩
theorem yw.kS (h:yw W0 b g eH st vd vo W) (v:Int):yw W0 b g eH { st with fM:=v } vd vo (W.setCell ⟨b,37,none⟩ (.int .i64 v)) :=
 h.put 37 _ _ (JQ g eH st { st with fM:=v } vd vo vd vo h.ok.regs rfl 3 (.int .i64 v) rfl) rfl rfl ⟨h.ok.regs,h.ok.words,h.ok.zero,h.ok.data,h.ok.kL,h.ok.pc,h.ok.next,h.ok.o,h.ok.steps,h.ok.read⟩
theorem yw.F7 (h:yw W0 b g eH st vd vo W) (v:Int):yw W0 b g eH { st with code:=v } vd vo (W.setCell ⟨b,38,none⟩ (.int .i64 v)) :=
 h.put 38 _ _ (JQ g eH st { st with code:=v } vd vo vd vo h.ok.regs rfl 4 (.int .i64 v) rfl) rfl rfl ⟨h.ok.regs,h.ok.words,h.ok.zero,h.ok.data,h.ok.kL,h.ok.pc,h.ok.next,h.ok.o,h.ok.steps,h.ok.read⟩
theorem yw.CS (h:yw W0 b g eH st vd vo W) (v:Nat) (hv:v<=65536):yw W0 b g eH { st with steps:=v } vd vo (W.setCell ⟨b,40,none⟩ (.int .i64 v)) :=
 h.put 40 _ _ (JQ g eH st { st with steps:=v } vd vo vd vo h.ok.regs rfl 6 (.int .i64 v) rfl) rfl rfl ⟨h.ok.regs,h.ok.words,h.ok.zero,h.ok.data,h.ok.kL,h.ok.pc,h.ok.next,h.ok.o,hv,h.ok.read⟩
theorem yw.F9 (h:yw W0 b g eH st vd vo W) (v:Nat) (hv:v<=16):yw W0 b g eH { st with read:=v } vd vo (W.setCell ⟨b,41,none⟩ (.int .i64 v)) :=
 h.put 41 _ _ (JQ g eH st { st with read:=v } vd vo vd vo h.ok.regs rfl 7 (.int .i64 v) rfl) rfl rfl ⟨h.ok.regs,h.ok.words,h.ok.zero,h.ok.data,h.ok.kL,h.ok.pc,h.ok.next,h.ok.o,h.ok.steps,hv⟩
end
theorem ym {st:Mc.St} (h:Mc.Ok st) (n:Int):0<=Mc.reg st n/\Mc.reg st n < 4294967296:=h.words _
theorem Yy (W0:World) (b g:Nat) (eH:Value) (st:Mc.St) (vd vo:Value) (rd dest:Int) (W:World) (h:yw W0 b g eH st vd vo W) (h0:0<=rd) (h1:rd < 32) :
  Calls Tryz.prog 120 #[.pointer (some ⟨b,0,none⟩),.int .i64 rd,.int .i64 dest] W fun e W'=>e = .returned (.tuple #[])/\yw W0 b g eH (Mc.jump rd dest st) vd vo W':=by
 have H:=hid h;have c:=h.c.2.2.2.1;have hp:=h.ok.pc;have x:IntKind.i64.wrap (st.pc+4)=st.pc+4:=IntWalk.i64_in _ ⟨by omega,by omega⟩;have cS:=hid (fun W hW=>AA W0 b g eH st vd vo rd (st.pc+4) W hW h0 h1);have cW:=hid (fun W=>Dz dest W);clear h;go_enter Tryz.func120,Tryz.ntmps120;go_wp2_with fail;refine (cS.o _ H.o).mono ?_;rintro e V ⟨rfl,h1⟩;have H1:=hid h1;clear h1 c x;go_wp2_with fail;refine (cW.o _).mono ?_;rintro e V2 ⟨rfl,hV⟩;subst hV;have c5:=H1.o.c.2.2.2.2.1;have f5:=H1.o.free 36;go_wp2
 go_end0
 exact ⟨rfl,H1.o.tT _ (Mc.gH dest)⟩
theorem KO (W0:World) (b g:Nat) (eH:Value) (st:Mc.St) (vd vo:Value) (t:Bool) (n:Int) (W:World) (h:yw W0 b g eH st vd vo W) (h0:-4294967296<=n) (h1:n<=4294967296) :
  Calls Tryz.prog 121 #[.pointer (some ⟨b,0,none⟩),.bool t,.int .i64 n] W fun e W'=>e = .returned (.tuple #[])/\yw W0 b g eH (Mc.branch t n st) vd vo W':=by
 have H:=hid h;have c:=h.c.2.2.2.1;have c5:=h.c.2.2.2.2.1;have f5:=h.free 36;have hp:=h.ok.pc;have x:IntKind.i64.wrap (st.pc+n)=st.pc+n:=IntWalk.i64_in _ ⟨by omega,by omega⟩;have cW:=hid (fun W=>Dz (st.pc+n) W);clear h
 cases t
 ·go_enter Tryz.func121,Tryz.ntmps121;go_wp2
  go_end0
  exact ⟨rfl,H.o⟩
 ·go_enter Tryz.func121,Tryz.ntmps121;go_wp2_with fail;refine (cW.o _).mono ?_;rintro e V2 ⟨rfl,hV⟩;subst hV;go_wp2
  go_end0
  exact ⟨rfl,H.o.tT _ (Mc.gH _)⟩
theorem Xx (W0:World) (b g:Nat) (eH:Value) (st:Mc.St) (vd vo:Value) (m:Im.dZ) (a:Int) (W:World) (h:yw W0 b g eH st vd vo W) (hI:mQ W0 g m) (hT:Im.jF m) (h0:0<=a) (h1:a < 4294967296) :
  Calls Tryz.prog 181 #[.pointer (some ⟨b,0,none⟩),.int .i64 a] W fun e W'=>e = .returned (.int .i64 (Im.place m.data st.data.length a))/\∃ n,W'=W.drewN n:=by
 obtain ⟨ad,cd,hvd⟩:=yi h.data;subst hvd;have c0:=h.c.1;have c34:=h.c.2.2.1;obtain ⟨a1,t1,a2,t2,a3,t3,hb,-,-,-⟩:=(hI.kept h.gr).open;have k3:=hb.cell 3;simp only [bI,bN,bK] at k3;have cP:=hid (fun W=>TG ad st.data.length cd m.data a W h0 h1 hT.data.1 hT.data.2);clear h hI hT hb;go_enter Tryz.func181,Tryz.ntmps181;go_wp2
 go_quiet ((go_at_call 115; exact Calls.quiet_of_same (cP.o _)))
 go_wp2;go_ret;exact ⟨rfl,_,rfl⟩
theorem ypD {w:World} {base:Nat} {e:TypeId} {n cap sg j:Nat} {xs:List Value} {u:Value} (h:w.ownsRow base e 1 (.slice (some ⟨sg,0,none⟩) n cap) n xs) :
  (w.setCell ⟨sg,j,none⟩ u).ownsRow base e 1 (.slice (some ⟨sg,0,none⟩) n cap) n (xs.set j u):=by
 refine ⟨by rw [List.length_set]; exact h.1,?_⟩;rcases h.2 with ⟨h1,h2⟩ | ⟨g',cap',cur,hv,hb,hg,h3,h4,h5,h6⟩
 ·simp at h1
 ·simp only [Value.slice.injEq,Option.some.injEq,Addr.mk.injEq] at hv;obtain ⟨⟨rfl,_⟩,_,rfl⟩:=hv;refine .inr ⟨sg,cap,cur.setIfInBounds j u,rfl,hb,Nf hg u,h3,h4,by simpa using h5,?_⟩;rw [Array.toList_setIfInBounds,List.take_set,h6]
theorem JV {w:World} {base:Nat} {e:TypeId} {n cap:Nat} {ao:Option Addr} {xs:List Value} (h:w.ownsRow base e 1 (.slice ao n cap) n xs) (h0:0 < n):∃ sg,ao=some ⟨sg,0,none⟩/\(∀ o,w.frozen? ⟨sg,o,none⟩=false)/\n<=cap/\cap<=maxLen/\∀ i,i < n->w.cell? ⟨sg,i,none⟩=xs[i]?:=by
 rcases h.2 with ⟨h1,h2⟩ | ⟨g',cap',cur,hv,_,hg,h3,h4,h5,h6⟩
 ·omega
 ·simp only [Value.slice.injEq] at hv;obtain ⟨rfl,_,rfl⟩:=hv;refine ⟨g',rfl,fun o=>(show yc w g' cur e from hg).free o,h3,h4,fun i hi=>?_⟩;rw [(show yc w g' cur e from hg).cell i,<- h6,List.getElem?_take];simp [hi]
section
variable {W0 W:World} {b g:Nat} {eH vo:Value} {st:Mc.St}
theorem yw.F8 {sg n cap:Nat} (h:yw W0 b g eH st (.slice (some ⟨sg,0,none⟩) n cap) vo W) (hn:n=st.data.length) (i:Nat) (v:Int) (hv:0<=v/\v < 4294967296) :
  yw W0 b g eH { st with data:=st.data.set i v } (.slice (some ⟨sg,0,none⟩) n cap) vo (W.setCell ⟨sg,i,none⟩ (.int .i64 v)):=by
 have hsb:sg≠b:=h.apart.1 sg rfl;have hso:∀ k,vo.ownBlock=some k->k≠sg:=fun k e c=>h.apart.2.2 sg rfl (by rw [e,c])
 have hlo:=(h.data.lt sg rfl).1;subst hn;refine ⟨h.blk.grown (ye W sg i _) (by simp; omega),?_,Ec h.o hso,h.apart,h.lo,yO h.gr (ye W sg i _) (by intro k e; simp at e; omega),⟨h.ok.regs,h.ok.words,h.ok.zero,by simpa using h.ok.data,fun j=>?_,h.ok.pc,h.ok.next,h.ok.o,h.ok.steps,h.ok.read⟩⟩
 ·have:=ypD (j:=i) (u:=.int .i64 v) h.data
  simp only [List.length_set,List.map_set];exact this
 ·show 0<=(st.data.set i v).getD j 0/\(st.data.set i v).getD j 0 < 4294967296;rw [lC,List.getElem?_set];split
  ·split
   ·simpa using hv
   ·rename_i h1 h2;subst h1;simp
  ·have:=h.ok.kL j
   rw [lC] at this;exact this
end
theorem ymU (W0:World) (b g:Nat) (eH:Value) (st:Mc.St) (vd vo:Value) (m:Im.dZ) (a v:Int) (W:World) (h:yw W0 b g eH st vd vo W) (hI:mQ W0 g m) (hT:Im.jF m) (h0:0<=a) (h1:a < 4294967296) (hv:0<=v/\v < 4294967296) :
  Calls Tryz.prog 124 #[.pointer (some ⟨b,0,none⟩),.int .i64 a,.int .i64 v] W fun e W'=>e = .returned (.tuple #[])/\lU W0 b g eH (Mc.store m a v st) W':=by
 have cP:=hid (Xx W0 b g eH st vd vo m a W h hI hT h0 h1);have H:=hid h;have r:=Im.jW m.data st.data.length a;obtain ⟨X,hX⟩:∃ X,X=Mc.store m a v st:=⟨_,rfl⟩
 rw [<- hX];unfold Mc.store at hX;have RX:=hid hX;clear h hI hT hX;generalize Im.place m.data st.data.length a=i at *;go_enter Tryz.func124,Tryz.ntmps124;go_wp2_with fail;refine cP.o.mono ?_;rintro e V ⟨rfl,n,hV⟩;have H1:Hd (yw W0 b g eH st vd vo V):=by rw [hV]; exact H.o.grown (yf (World.grownBy.refl _ _) n)
 clear hV H cP;by_cases hi:0<=i
 ·have d:decide (i < 0)=false:=by simp; omega
  rw [if_pos hi] at RX;obtain ⟨k,rfl⟩:=Int.eq_ofNat_of_zero_le hi;have hk:k < st.data.length:=by omega
  obtain ⟨ad,cd,hvd⟩:=yi H1.o.data;subst hvd;obtain ⟨sg,rfl,hf,hc1,hc2,hcells⟩:=JV H1.o.data (by omega);have c34:=H1.o.c.2.2.1;have ck:=hcells k hk;rw [List.getElem?_map,j3 hk,Option.map_some] at ck;have fk:=hf k;have g1:(k:Int) < (st.data.length:Int):=by omega
  rw [Int.toNat_natCast] at RX;clear hf hcells;go_wp2
  go_end0
  rw [RX.o];exact ⟨rfl,_,_,H1.o.F8 rfl k v hv⟩
 ·have d:decide (i < 0)=true:=by simp; omega
  rw [if_neg hi] at RX;have c:=H1.o.c.2.2.2.2.2.1;have f:=H1.o.free 37;go_wp2
  (try simp only [Exit.inBlock,Exit.then]); refine bodyPost_ret (results_none rfl _ _ _) rfl ?_
  rw [RX.o];exact ⟨rfl,_,_,H1.o.kS 5⟩
theorem yog (W0:World) (b g:Nat) (eH:Value) (st:Mc.St) (vd vo:Value) (m:Im.dZ) (rd a:Int) (W:World) (h:yw W0 b g eH st vd vo W) (hI:mQ W0 g m) (hT:Im.jF m) (h0:0<=a) (h1:a < 4294967296) (hr0:0<=rd) (hr1:rd < 32) :
  Calls Tryz.prog 123 #[.pointer (some ⟨b,0,none⟩),.int .i64 rd,.int .i64 a] W fun e W'=>e = .returned (.tuple #[])/\lU W0 b g eH (Mc.load m rd a st) W':=by
 have cC:=hid (Px g m a W (hI.kept h.gr) hT h0 h1);have cP:=hid (fun W hW=>Xx W0 b g eH st vd vo m a W hW hI hT h0 h1);have cS:=hid (fun v W hW=>AA W0 b g eH st vd vo rd v W hW hr0 hr1);have H:=hid h;have c0:=h.c.1;have r:=Im.jW m.data st.data.length a;obtain ⟨X,hX⟩:∃ X,X=Mc.load m rd a st:=⟨_,rfl⟩
 rw [<- hX];unfold Mc.load at hX;have RX:=hid hX;clear h hI hT hX;generalize Im.place m.data st.data.length a=i at *;generalize Im.code m a=cd at *;go_enter Tryz.func123,Tryz.ntmps123;go_wp2_with fail;refine cC.o.mono ?_;rintro e V ⟨rfl,n,hV⟩;have H1:Hd (yw W0 b g eH st vd vo V):=by rw [hV]; exact H.o.grown (yf (World.grownBy.refl _ _) n)
 clear hV H cC c0
 cases cd with
 | some wv =>
  simp only at RX;go_wp2_with fail;refine (cS.o wv V H1.o).mono ?_;rintro e V2 ⟨rfl,h2⟩;have H2:=hid h2;clear h2;go_wp2
  (try simp only [Exit.inBlock,Exit.then]); refine bodyPost_ret (results_none rfl _ _ _) rfl ?_
  rw [RX.o];exact ⟨rfl,_,_,H2.o⟩
 | none =>
  simp only at RX;go_wp2_with fail;refine (cP.o V H1.o).mono ?_;rintro e V2 ⟨rfl,n2,hV2⟩;have H2:Hd (yw W0 b g eH st vd vo V2):=by rw [hV2]; exact H1.o.grown (yf (World.grownBy.refl _ _) n2)
  clear hV2 H1 cP;by_cases hi:0<=i
  ·have d:decide (i < 0)=false:=by simp; omega
   rw [if_pos hi] at RX;obtain ⟨k,rfl⟩:=Int.eq_ofNat_of_zero_le hi;have hk:k < st.data.length:=by omega
   obtain ⟨ad,cd,hvd⟩:=yi H2.o.data;subst hvd;obtain ⟨sg,rfl,hf,hc1,hc2,hcells⟩:=JV H2.o.data (by omega);have c34:=H2.o.c.2.2.1;have ck:=hcells k hk;rw [List.getElem?_map,j3 hk,Option.map_some] at ck;have g1:(k:Int) < (st.data.length:Int):=by omega
   rw [Int.toNat_natCast,lC,j3 hk,Option.getD_some] at RX;clear hf hcells;go_wp2_with fail;refine (cS.o _ V2 H2.o).mono ?_;rintro e V3 ⟨rfl,h3⟩;have H3:=hid h3;clear h3;go_wp2
   go_end0
   rw [RX.o];exact ⟨rfl,_,_,H3.o⟩
  ·have d:decide (i < 0)=true:=by simp; omega
   rw [if_neg hi] at RX;have c:=H2.o.c.2.2.2.2.2.1;have f:=H2.o.free 37;go_wp2
   (try simp only [Exit.inBlock,Exit.then]); refine bodyPost_ret (results_none rfl _ _ _) rfl ?_
   rw [RX.o];exact ⟨rfl,_,_,H2.o.kS 4⟩
section
variable {P:Program} (w:World)
theorem OT {ops:Array Oper} {rest:List Oper} {o:Oper} {a:Act} {Q:Exit->Act->World->Prop} (hgd:o.guard=none) (s x:Operand) (t:TypeId)
  (ho:o.op = .call { callee:=.builtin .append,args:=#[s,x],argTypes:=#[t,t] })
  (base:Nat) (e:TypeId) (i:TypeInfo) (z:Value) (size bytes:Nat) (ht:P.underlying t=some (.slice e)) (hi:P.info? e=some i) (hz:i.zero=some z)
  (hsize:i.size=size) (hby:i.bytes=bytes) (hzs:z.cells.size=size) (hsz:0 < size)
  (v:Value) (n:Nat) (xs:List Value) (hs:a.eval s=v) (hown:w.ownsRow base e size v n xs)
  (ad:Addr) (m c:Nat) (news:List Value) (hx:a.eval x = .slice (some ad) m c) (hl:news.length=m * size) (hnews:∀ j u,news[j]?=some u->w.cell? (ad.add j)=some u) (h1:∀ u∈news,u.oneCell'=true)
  (h63:n+m<=maxLen) (hbytes:(n+m) * bytes<=140737488355328) (hbase:base<=w.heap.size)
  (h:∀ v' w',w'.ownsRow base e size v' (n+m) (xs ++ news)->w.grownBy w' v.ownBlock->(v'.ownBlock=v.ownBlock\/v'.ownBlock=some w.heap.size)->wpList P ops Q rest (a.put o.dst v') w'):wpList P ops Q (o :: rest) a w:=by
 refine wpList_plain hgd fun K hK=>?_
 obtain ⟨v',w',hr,h2,h3,-,h5⟩:=run_append_own_at (P:=P) w base t o.type e i z size bytes ht hi hz hsize hby hzs hsz v n xs hown ad m c news hl hnews h1 h63 hbytes hbase;unfold Oper.wp execOp;simp only [ho,resolve,invoke,builtin,Sem.run_bind,Sem.run_pure,Result.andThen_ok,List.map_toArray,List.map_cons,List.map_nil,hs,hx,hr];exact hK _ _ (h v' w' h2 h3 h5)
end
section
variable {W0 W w3:World} {b g:Nat} {eH vd vo v':Value} {st:Mc.St} {ob:Obj}
theorem yw.xu (h:yw W0 b g eH st vd vo W) (hg:(W.alloc ob).grownBy w3 vo.ownBlock):yc w3 b (jR g eH st vd vo).toArray 93 :=
 (h.blk.grown (aJ W ob none) (by simp)).grown hg (fun e=>h.apart.2.1 b e.symm rfl)
theorem yw.F5 (h:yw W0 b g eH st vd vo W) (hg:(W.alloc ob).grownBy w3 vo.ownBlock):w3.cell? ⟨b,39,none⟩=some vo :=
 ((h.xu hg).cell 39).trans (List.getElem?_toArray.trans (YD g eH st vd vo h.ok.regs 5))
theorem yw.Jz (h:yw W0 b g eH st vd vo W) (x:Int) (hx:st.o.length < 16) (hown:w3.ownsRow W0.heap.size 3 1 v' (st.o.length+1) (st.o.map (Value.int .i64) ++ [.int .i64 x])) (hg:(W.alloc ob).grownBy w3 vo.ownBlock) (hb:v'.ownBlock=vo.ownBlock\/v'.ownBlock=some (W.alloc ob).heap.size) :
  yw W0 b g eH { st with o:=st.o ++ [x] } vd v' (w3.setCell ⟨b,39,none⟩ v'):=by
 have hsz:(W.alloc ob).heap.size=W.heap.size+1:=Array.size_push _;have hlt:=h.blk.lt;have hv:∀ k,v'.ownBlock=some k->k≠b:=fun k e=>by
  rcases hb with hb | hb
  ·exact h.apart.2.1 k (by rw [<- hb]; exact e)
  ·rw [e,hsz] at hb; simp at hb; omega
 have hd:=(h.data.alloc ob).kept hg (by
  cases Je:vo.ownBlock with
  | none=>cases hvd:vd.ownBlock <;> simp
  | some k=>right; intro c; exact h.apart.2.2 k c Je)
 refine ⟨?_,Ec hd h.apart.1,?_,⟨h.apart.1,hv,fun k e=>?_⟩,h.lo,?_,⟨h.ok.regs,h.ok.words,h.ok.zero,h.ok.data,h.ok.kL,h.ok.pc,h.ok.next,by simp; omega,h.ok.steps,h.ok.read⟩⟩
 ·have:=(h.xu hg).set 39 v'
  rw [gu,JQ g eH st { st with o:=st.o ++ [x] } vd vo vd v' h.ok.regs rfl 5 v' rfl] at this;exact this
 ·have:=Ec (b:=b) (o:=39) (u:=v') hown hv
  simpa using this
 ·intro c;rcases hb with hb | hb
  ·exact h.apart.2.2 k e (by rw [<- hb]; exact c)
  ·rw [c,hsz] at hb
   have:=(h.data.lt k e).2
   simp at hb;omega
 ·refine yO (yO (ya h.gr (aJ W ob none)) hg (fun k e=>(h.o.lt k e).1)) (ye w3 b 39 v') (by intro k e; simp at e; have:=h.lo; omega)
end
theorem yoz (W0:World) (b g:Nat) (eH:Value) (st:Mc.St) (vd vo:Value) (x:Int) (W:World) (h:yw W0 b g eH st vd vo W) :
  Calls Tryz.prog 183 #[.pointer (some ⟨b,0,none⟩),.int .i64 x] W fun e W'=>e = .returned (.tuple #[])/\lU W0 b g eH (if 16<=st.o.length then { st with fM:=6 } else { st with o:=st.o ++ [x] }) W':=by
 obtain ⟨i0,hi,hz0,hz1,hz2⟩:=info_parts Tryz.kN;obtain ⟨ao,co,Je⟩:=yi h.o;subst Je;have H:=hid h;have Ot:=h.c.2.2.2.2.2.2.2.1;have hcap:=qU h.o;have hsz:=h.gr.size;by_cases hl:16<=st.o.length
 ·have d:decide ((16:Int)<=(st.o.length:Int))=true:=by simp; omega
  have c:=h.c.2.2.2.2.2.1;have f:=h.free 37;rw [if_pos hl];clear h;go_enter Tryz.func183,Tryz.ntmps183;go_wp2
  (try simp only [Exit.inBlock,Exit.then]); refine bodyPost_ret (results_none rfl _ _ _) rfl ?_
  exact ⟨rfl,_,_,H.o.kS 6⟩
 ·have d:decide ((16:Int)<=(st.o.length:Int))=false:=by simp; omega
  rw [if_neg hl];have HO:=hid h.o;clear h;go_enter Tryz.func183,Tryz.ntmps183;go_wp2_with (at_builtin; refine OT _ rfl _ _ 35 rfl W0.heap.size 3 i0 (.int .i64 0) 1 8 Tryz.underlying35 hi hz0 hz1 hz2 rfl (by decide) _ _ _ rfl (HO.o.alloc _) ⟨W.heap.size,0,none⟩ 1 1 [.int .i64 x] rfl rfl (cell_one_new _ _ _) (by intro u hu; simp at hu; subst hu; rfl) (by unfold maxLen; omega) (by omega) (by simp; omega) ?_; intro v' w3 hown' hgrow hblk; obtain ⟨oh,cv',rfl⟩:=yi hown'; have KB:=H.o.xu hgrow; have f39:=KB.free 39; have k39:=H.o.F5 hgrow; have K:=hid (H.o.Jz x (by omega) hown' hgrow hblk); clear hgrow hown' KB hblk)
  go_wp2
  go_end0
  exact ⟨rfl,_,_,K.o⟩
end Go.Proofs.YtpgklkhgfcjceaaGreatDoor
