
import Derived.Test.YtelehpmjhjljgaaGreatDoorV06
import Derived.Deep.CutRange
import Derived.Deep.RegionHeld3
import Derived.Deep.RegionWith
import Derived.Deep.LoopGhost
set_option maxHeartbeats 16000000
set_option maxRecDepth 100000
namespace Go.Proofs.YtelehpmjhjljgaaGreatDoor
open Go.RowKit
def bJ (f:Ln.nW):Value:=.agg #[.int .i64 f.e,.int .i64 f.at_,.string (bs f.name)]
theorem Xf (os r:List Lk.Obj) (k:Nat) (h:k < r.length):Ln.jF os k (r.drop k)=match Ln.aZ os k r[k].syms with | some f=>f | none=>Ln.jF os (k+1) (r.drop (k+1)):=by
 rw [jg h,Ln.jF]
 cases Ln.aZ os k r[k].syms <;> rfl
theorem Xg (os:List Lk.Obj) (i:Nat) (ys:List Lk.Sym) (k:Nat) (h:k < ys.length):Ln.aZ os i (ys.drop k)=if ys[k].bind≠1\/ys[k].ah=0 then Ln.aZ os i (ys.drop (k+1)) else if (Ln.find (os.take i) ys[k].name 1).mod.isSome then some ⟨33,i,ys[k].name⟩ else Ln.aZ os i (ys.drop (k+1)):=by
 rw [jg h,Ln.aZ]
theorem WT (os r:List Lk.Obj) (k:Nat) (h:k < r.length):Ln.wantedAt os k (r.drop k)=match Ln.aV os k r[k].syms with | some f=>f | none=>Ln.wantedAt os (k+1) (r.drop (k+1)):=by
 rw [jg h,Ln.wantedAt]
 cases Ln.aV os k r[k].syms <;> rfl
theorem WU (os:List Lk.Obj) (i:Nat) (ys:List Lk.Sym) (k:Nat) (h:k < ys.length):Ln.aV os i (ys.drop k)=if Ln.wanted ys[k]=false then Ln.aV os i (ys.drop (k+1)) else if (Ln.named os ys[k].name).mod.isSome then Ln.aV os i (ys.drop (k+1)) else some ⟨34,i,ys[k].name⟩:=by
 rw [jg h,Ln.aV]
theorem RZ (os:List Lk.Obj) (n:List UInt8) (i:Nat) (h:(Ln.named os n).mod=some i):i < os.length:=by
 unfold Ln.named at h;split at h
 ·exact Ni os n 1 i h
 ·exact Ni os n 2 i h
theorem yhB (P:Nat) (ao:Option Addr) (cap:Nat) (bl:List Nat) (os:List Lk.Obj) (w:World) (hp:w.cell? ⟨P,3,none⟩=some (.slice ao bl.length cap)) (h:rD w ao bl os) (hcap:bl.length<=cap) (hcm:cap<=maxLen) :
  Calls Tryz.prog 45 #[.pointer (some ⟨P,0,none⟩)] w fun e w'=>e = .returned (bJ (Ln.dS os))/\w.grownBy w' none:=by
 have H:=hid h;have HL:=hid h.len;have hbl:bl.length<=4096:=by rw [h.len]; exact h.few
 have HP:=hid hp;have G0:=hid (aH w (.cells #[.int .i64 0,.int .i64 0,.string ⟨#[]⟩] 32) none);have B0:=hid (ye.new w #[.int .i64 0,.int .i64 0,.string ⟨#[]⟩] 32);have c3:=yc hp G0.o;have hPw:=World.block_lt_of_cell? w _ hp;have hcm2:=hcm;unfold maxLen at hcm2;clear h hp hcm;go_enter Tryz.func45,Tryz.ntmps45;go_wp2;generalize w.alloc (.cells #[.int .i64 0,.int .i64 0,.string ⟨#[]⟩] 32)=W1 at *
 go_loopw [13] (fun i wr=>∃ k:Nat,k<=bl.length/\i = .int .i64 k/\Ln.dS os=Ln.jF os k (os.drop k)/\W1.grownBy wr none) (fun i _=>bl.length - (intOf i).toNat)
 case atStart=>exact ⟨0,Nat.zero_le _,rfl,rfl,World.grownBy.refl _ _⟩
 case round =>
  obtain ⟨k,hk,rfl,hf,hgr⟩:=hrel;have HF:=hid hf;have HG:=hid hgr;clear hf hgr;by_cases hlt:k < bl.length
  ·have hko:k < os.length:=by rw [<- HL.o]; exact hlt
   have MI:=H.o.kept (ya G0.o HG.o);obtain ⟨g0,off,hao,hc⟩:=MI.ptrs (by omega);subst hao;obtain ⟨og,hm0,lV⟩:=MI.mod k hlt hko;have ck:=hc k hlt;obtain ⟨at_,ct,af,cf,ad,cd,aa,ca,gF,cs,ar,cr,hb,-,-,-,-,q5,-⟩:=lV.open;have S:=hid (yI.aB q5);have k5:=hb.cell 5;simp only [dH,dL,dK] at k5;have hns:=MI.syms os[k] (dM hko);have FD:=hid (Xf os os k hko);clear hc lV hb q5 MI c3;generalize os[k].syms=ys at *;generalize bl[k]=bk at *;have g1:(k:Int) < (bl.length:Int):=by omega
   obtain ⟨U,hU⟩:∃ U:World,U=wr:=⟨_,rfl⟩
   subst hU;go_wp2
   go_loopw [26] (fun i wr=>∃ j:Nat,j<=ys.length/\i = .int .i64 j/\Ln.aZ os k ys=Ln.aZ os k (ys.drop j)/\U.grownBy wr none) (fun i _=>ys.length - (intOf i).toNat)
   case atStart=>exact ⟨0,Nat.zero_le _,rfl,rfl,World.grownBy.refl _ _⟩
   case round =>
    obtain ⟨j,hj,rfl,hf2,dN⟩:=hrel;have iq:=hid hf2;have HG2:=hid dN;clear hf2 dN ck hm0 k5;by_cases hlt2:j < ys.length
    ·obtain ⟨sg,hsg,hgs,hcs⟩:=S.o.grown HG2.o (by omega);subst hsg;obtain ⟨q0,q1,q2,q3⟩:=hcs j hlt2;clear hcs;have g2:(j:Int) < (ys.length:Int):=by omega
     have FI:=hid (show Ln.aZ os k ys=_ from iq.o.trans (Xg os k ys j hlt2));generalize ys[j]=y at *;have BX:=hid (ye.new wr #[.string (bs y.name),.int .i64 y.bind,.int .i64 y.ah,.int .i64 y.off] 77);have GA:=hid (aH wr (.cells #[.string (bs y.name),.int .i64 y.bind,.int .i64 y.ah,.int .i64 y.off] 77) none);have GW:=hid (ya HG2.o GA.o);have c3:=yc HP.o (ya G0.o (ya HG.o GW.o));by_cases e1:y.bind=1
     ·obtain ⟨yn,yb,yt,yo⟩:=y;dsimp only at *;subst e1;by_cases e2:yt=0
      ·have b2:(yt == 0)=true:=by simpa using e2
       have E:=hid (show Ln.aZ os k ys=Ln.aZ os k (ys.drop (j+1)) by rw [FI.o,if_pos (.inr e2)]);go_wp2
       go_roundw
       case rel=>exact ⟨j+1,by omega,by go_num,E.o,ya HG2.o (aH _ _ none)⟩
       case measure=>simp [intOf]; omega
      ·have b2:(yt == 0)=false:=by simpa using e2
       have ny:=hid (show Ln.aZ os k ys=if (Ln.find (os.take k) yn 1).mod.isSome then some ⟨33,k,yn⟩ else Ln.aZ os k (ys.drop (j+1)) by rw [FI.o,if_neg (fun h=>h.elim (fun a=>a rfl) e2)]);have cF:=hid (fun W (hg:(wr.alloc (.cells #[.string (bs yn),.int .i64 1,.int .i64 yt,.int .i64 yo] 77)).grownBy W none)=>Yq (some ⟨g0,off,none⟩) cap (bl.take k) (os.take k) yn 1 W (((H.o.kept (ya G0.o (ya HG.o GW.o))).kept hg).take k));have FL:=hid (fun i (hi:(Ln.find (os.take k) yn 1).mod=some i)=>show i < (bl.take k).length by rw [List.length_take,HL.o,<- List.length_take]; exact Ni (os.take k) yn 1 i hi);rw [show (bl.take k).length=k by rw [List.length_take]; omega] at cF
       generalize Ln.find (os.take k) yn 1=F1 at *;obtain ⟨m1,s1,o1⟩:=F1;unfold mU at cF;dsimp only at cF ny FL;generalize hqq:kW (bl.take k) m1=qq at *;have jX:=hid hqq;clear hqq;have x0:=hid (show (wr.alloc (.cells #[.string (bs yn),.int .i64 1,.int .i64 yt,.int .i64 yo] 77)).cell? ⟨wr.heap.size,0,none⟩=some (.string (bs yn)) from BX.o.cell 0);have C3:=hid c3;have JK:wr.heap.size < (wr.alloc (.cells #[.string (bs yn),.int .i64 1,.int .i64 yt,.int .i64 yo] 77)).heap.size:=BX.o.lt;have HXL:=hid JK;clear JK;go_wp2;generalize hV:wr.alloc (.cells #[.string (bs yn),.int .i64 1,.int .i64 yt,.int .i64 yo] 77)=V at *
       generalize hX:wr.heap.size=X at *;have y0':=x0.o;have y1':=C3.o;have hXV:=HXL.o;have gk:(k:Int)<=(cap:Int):=by omega
       go_cut [7] from 38 to 46 (fun v wx=>∃ b5,v = .pointer (some ⟨b5,0,none⟩)/\ye wx b5 #[.pointer qq,.int .i64 s1,.int .i64 o1] 103/\V.grownBy wx none/\V.heap.size<=b5)
       case first =>
        refine wp_region_held_drew (S:=(fun w'=>w'.cell? ⟨P,3,none⟩=some (.slice (some ⟨g0,off,none⟩) bl.length cap)/\w'.cell? ⟨X,0,none⟩=some (.string (bs yn)))) (by kernel_rfl) ⟨y1',y0'⟩ ?_;intro hS
        iterate 5
         refine yU (v:=?_) rfl (by kernel_rfl) (fun _ _ _ h=>h) hS ?_ ?_
         rotate_left
         ·intro w' hw'; obtain ⟨y0,y1⟩:=hw'; go_simp; with_reducible rfl
        refine wpAnyH_take (i:=5) (v:=.slice (some ⟨g0,off,none⟩) k cap) rfl (by kernel_rfl) (by kernel_rfl) (by kernel_rfl) (fun _ _ _ h=>h) (Or.inl ⟨by kernel_rfl,?_⟩) hS ?_
        ·intro w' hw'; obtain ⟨y0,y1⟩:=hw'; go_simp
        iterate 2
         refine yU (v:=?_) rfl (by kernel_rfl) (fun _ _ _ h=>h) hS ?_ ?_
         rotate_left
         ·intro w' hw'; obtain ⟨y0,y1⟩:=hw'; go_simp; with_reducible rfl
        refine wpAnyH_ready (rs:=[8,9]) (by kernel_rfl) (by simp) ?_;refine AllReadyH.cons rfl (fun K hK=>?_) (AllReadyH.cons rfl (fun K hK=>?_) AllReadyH.nil)
        ·go_simp;refine (cF.o _ (yd (World.grownBy.refl V none) 1)).mono ?_;rintro e w1 ⟨rfl,hq⟩;have hq1:=ya (yd (World.grownBy.refl V none) 1) hq;refine hK.out _ _ ⟨yc y1' hq1,yc y0' hq1⟩ (fun hS2=>?_);clear hK K;refine wpAnyH_ready (rs:=[9]) (by kernel_rfl) (by simp) ?_;refine AllReadyH.cons rfl (fun K hK=>?_) AllReadyH.nil;go_simp;have hz:=ya hq1 (aH w1 (.cells #[.pointer none,.int .i64 0,.int .i64 0] 103) none);refine hK.out _ _ ⟨yc y1' hz,yc y0' hz⟩ (fun iZ=>?_);clear hK K;refine wpAnyH_ready (rs:=[10]) (by kernel_rfl) (by simp) ?_;refine AllReadyH.cons rfl (fun K hK=>?_) AllReadyH.nil;go_simp
         have hy:=ya hq1 (aH w1 (.cells #[.pointer qq,.int .i64 s1,.int .i64 o1] 103) none);refine hK.out _ _ ⟨yc y1' hy,yc y0' hy⟩ (fun nD=>?_);clear hK K;refine wpAnyH_done (by kernel_rfl) ?_ _
         try simp only [Act.put,mh,kT,kI]
         go_wp2_with fail;go_meet;exact ⟨_,rfl,ye.new w1 #[.pointer qq,.int .i64 s1,.int .i64 o1] 103,hy,hq1.size⟩
        ·go_simp;have hz:=yd (aH V (.cells #[.pointer none,.int .i64 0,.int .i64 0] 103) none) 1;refine hK.out _ _ ⟨yc y1' hz,yc y0' hz⟩ (fun hS2=>?_);clear hK K;refine wpAnyH_ready (rs:=[8]) (by kernel_rfl) (by simp) ?_;refine AllReadyH.cons rfl (fun K hK=>?_) AllReadyH.nil;go_simp;refine (cF.o _ hz).mono ?_;rintro e w1 ⟨rfl,hq⟩;have hq1:=ya hz hq;have BN:=hid (((ye.new V #[.pointer none,.int .i64 0,.int .i64 0] 103).drewN 1).grown hq (by simp));have n0:w1.cell? ⟨V.heap.size,0,none⟩=some (.pointer none):=BN.o.cell 0;have n1:w1.cell? ⟨V.heap.size,1,none⟩=some (.int .i64 0):=BN.o.cell 1;have n2:w1.cell? ⟨V.heap.size,2,none⟩=some (.int .i64 0):=BN.o.cell 2
         have f0:=BN.o.free 0;have f1:=BN.o.free 1;have f2:=BN.o.free 2;refine hK.out _ _ ⟨yc y1' hq1,yc y0' hq1⟩ (fun iZ=>?_);clear hK K;refine wpAnyH_ready (rs:=[10]) (by kernel_rfl) (by simp) ?_;refine AllReadyH.cons rfl (fun K hK=>?_) AllReadyH.nil;go_simp;have hy:=yx hq1 V.heap.size (Nat.le_refl _) (.pointer qq) (.int .i64 s1) (.int .i64 o1);refine hK.out _ _ ⟨yc y1' hy,yc y0' hy⟩ (fun nD=>?_);clear hK K;refine wpAnyH_done (by kernel_rfl) ?_ _
         try simp only [Act.put,mh,kT,kI]
         go_wp2_with fail;go_meet;exact ⟨_,rfl,((BN.o.set 0 (.pointer qq)).set 1 (.int .i64 s1)).set 2 (.int .i64 o1),hy,Nat.le_refl _⟩
       case rest =>
       obtain ⟨b5,rfl,hb5,hg5,aah⟩:=hcut;have Q5:=hid hb5;have G5:=hid (ya GW.o hg5);have B5:=hid (BX.o.grown hg5 (by simp));have x0':=B5.o.cell 0;have t0:=Q5.o.cell 0;simp only [dH,dK] at x0' t0;clear hb5 hg5 cF
       cases m1 with
       | none =>
        have E:=hid (show Ln.aZ os k ys=Ln.aZ os k (ys.drop (j+1)) from ny.o);obtain rfl:none=qq:=jX.o;go_wp2
        go_roundw
        case rel=>exact ⟨j+1,by omega,by go_num,E.o,G5.o⟩
        case measure=>simp [intOf]; omega
       | some i =>
        have hi:=FL.o i rfl;obtain rfl:some ⟨(bl.take k)[i],0,none⟩=qq:=by rw [<- jX.o,Ki hi]
        generalize (bl.take k)[i]=bi at *;have E:=hid (show Ln.dS os=⟨33,k,yn⟩ by rw [HF.o,FD.o,ny.o]; rfl);have BR:=hid (B0.o.grown (ya HG.o G5.o) (by simp));have hRl:=BR.o.lt;have z0:=BR.o.cell 0;have z1:=BR.o.cell 1;have z2:=BR.o.cell 2;simp only [dH,dL,dK] at z0 z1 z2;have f0:=BR.o.free 0;have f1:=BR.o.free 1;have f2:=BR.o.free 2;go_wp2;have F:=((BR.o.set 0 (.int .i64 33)).set 1 (.int .i64 k)).set 2 (.string (bs yn));have h0:=F.cell 0;have h1:=F.cell 1;have h2:=F.cell 2;simp only [fu,fC,eX,dH,dL,dK] at h0 h1 h2;refine bodyPost_ret (v:=bJ ⟨33,k,yn⟩) ?_ rfl ⟨by rw [E.o],yx (ya G0.o (ya HG.o G5.o)) _ (Nat.le_refl _) _ _ _⟩
        clear F z0 z1 z2 f0 f1 f2;generalize World.setCell _ _ _=WF at *;simp [results,Tryz.results45,go_sem,bJ,h0,h1,h2]
     ·have b1:(y.bind == 1)=false:=by simpa using e1
      have E:=hid (show Ln.aZ os k ys=Ln.aZ os k (ys.drop (j+1)) by rw [FI.o,if_pos (.inl e1)]);clear e1;go_wp2
      go_roundw
      case rel=>exact ⟨j+1,by omega,by go_num,E.o,ya HG2.o (aH _ _ none)⟩
      case measure=>simp [intOf]; omega
    ·obtain rfl:j=ys.length:=by omega
     have E:=hid (show Ln.aZ os k ys=none by rw [iq.o,List.drop_length]; rfl);have g3:decide ((ys.length:Int) < (ys.length:Int))=false:=by simp
     go_wp2
     go_roundw
     case rel=>exact ⟨k+1,by omega,by go_num,by rw [HF.o,FD.o,E.o],ya HG.o HG2.o⟩
     case measure=>simp [intOf]; omega
  ·obtain rfl:k=bl.length:=by omega
   have E:=hid (show Ln.dS os=Ln.ok by rw [HF.o,HL.o,List.drop_length]; rfl);have g3:decide ((bl.length:Int) < (bl.length:Int))=false:=by simp
   have BR:=hid (B0.o.grown HG.o (by simp));have z0:wr.cell? ⟨w.heap.size,0,none⟩=some (.int .i64 0):=BR.o.cell 0;have z1:wr.cell? ⟨w.heap.size,1,none⟩=some (.int .i64 0):=BR.o.cell 1;have z2:wr.cell? ⟨w.heap.size,2,none⟩=some (.string ⟨#[]⟩):=BR.o.cell 2;have f0:=BR.o.free 0;have f1:=BR.o.free 1;have f2:=BR.o.free 2;go_wp2;have F:=((BR.o.set 0 (.int .i64 0)).set 1 (.int .i64 0)).set 2 (.string ⟨#[]⟩);have h0:=F.cell 0;have h1:=F.cell 1;have h2:=F.cell 2;simp only [fu,fC,eX,dH,dL,dK] at h0 h1 h2;refine bodyPost_ret (v:=bJ Ln.ok) ?_ rfl ⟨by rw [E.o],yx (ya G0.o HG.o) _ (Nat.le_refl _) _ _ _⟩;clear F z0 z1 z2 f0 f1 f2
   generalize World.setCell _ _ _=WF at *;simp [results,Tryz.results45,go_sem,bJ,Ln.ok,bs,h0,h1,h2]
theorem ygP (P:Nat) (ao:Option Addr) (cap:Nat) (bl:List Nat) (os:List Lk.Obj) (w:World) (hp:w.cell? ⟨P,3,none⟩=some (.slice ao bl.length cap)) (h:rD w ao bl os) :
  Calls Tryz.prog 46 #[.pointer (some ⟨P,0,none⟩)] w fun e w'=>e = .returned (bJ (Ln.dw os))/\w.grownBy w' none:=by
 have H:=hid h;have HL:=hid h.len;have hbl:bl.length<=4096:=by rw [h.len]; exact h.few
 have HP:=hid hp;have G0:=hid (aH w (.cells #[.int .i64 0,.int .i64 0,.string ⟨#[]⟩] 32) none);have B0:=hid (ye.new w #[.int .i64 0,.int .i64 0,.string ⟨#[]⟩] 32);have c3:=yc hp G0.o;have hPw:=World.block_lt_of_cell? w _ hp;have cW:=hid (fun y W=>Yh y W);have cNm:=hid (fun nm W (hg:w.grownBy W none)=>Rl P ao cap bl os nm W (yc hp hg) (h.kept hg));unfold oH at cW;clear h hp;go_enter Tryz.func46,Tryz.ntmps46;go_wp2;generalize w.alloc (.cells #[.int .i64 0,.int .i64 0,.string ⟨#[]⟩] 32)=W1 at *
 go_loopw [13] (fun i wr=>∃ k:Nat,k<=bl.length/\i = .int .i64 k/\Ln.dw os=Ln.wantedAt os k (os.drop k)/\W1.grownBy wr none) (fun i _=>bl.length - (intOf i).toNat)
 case atStart=>exact ⟨0,Nat.zero_le _,rfl,rfl,World.grownBy.refl _ _⟩
 case round =>
  obtain ⟨k,hk,rfl,hf,hgr⟩:=hrel;have HF:=hid hf;have HG:=hid hgr;clear hf hgr;by_cases hlt:k < bl.length
  ·have hko:k < os.length:=by rw [<- HL.o]; exact hlt
   have MI:=H.o.kept (ya G0.o HG.o);obtain ⟨g0,off,hao,hc⟩:=MI.ptrs (by omega);subst hao;obtain ⟨og,hm0,lV⟩:=MI.mod k hlt hko;have ck:=hc k hlt;obtain ⟨at_,ct,af,cf,ad,cd,aa,ca,gF,cs,ar,cr,hb,-,-,-,-,q5,-⟩:=lV.open;have S:=hid (yI.aB q5);have k5:=hb.cell 5;simp only [dH,dL,dK] at k5;have hns:=MI.syms os[k] (dM hko);have FD:=hid (WT os os k hko);clear hc lV hb q5 MI c3;generalize os[k].syms=ys at *;generalize bl[k]=bk at *;have g1:(k:Int) < (bl.length:Int):=by omega
   obtain ⟨U,hU⟩:∃ U:World,U=wr:=⟨_,rfl⟩
   subst hU;go_wp2
   go_loopw [26] (fun i wr=>∃ j:Nat,j<=ys.length/\i = .int .i64 j/\Ln.aV os k ys=Ln.aV os k (ys.drop j)/\U.grownBy wr none) (fun i _=>ys.length - (intOf i).toNat)
   case atStart=>exact ⟨0,Nat.zero_le _,rfl,rfl,World.grownBy.refl _ _⟩
   case round =>
    obtain ⟨j,hj,rfl,hf2,dN⟩:=hrel;have iq:=hid hf2;have HG2:=hid dN;clear hf2 dN ck hm0 k5;by_cases hlt2:j < ys.length
    ·obtain ⟨sg,hsg,hgs,hcs⟩:=S.o.grown HG2.o (by omega);subst hsg;obtain ⟨q0,q1,q2,q3⟩:=hcs j hlt2;clear hcs;have g2:(j:Int) < (ys.length:Int):=by omega
     have FI:=hid (show Ln.aV os k ys=_ from iq.o.trans (WU os k ys j hlt2));generalize ys[j]=y at *;have BX:=hid (ye.new wr #[.string (bs y.name),.int .i64 y.bind,.int .i64 y.ah,.int .i64 y.off] 77);have GA:=hid (aH wr (.cells #[.string (bs y.name),.int .i64 y.bind,.int .i64 y.ah,.int .i64 y.off] 77) none);have GW:=hid (ya HG2.o GA.o);have c3:=yc HP.o (ya G0.o (ya HG.o GW.o));have cY:=hid (cW.o y);have cN:=hid (fun W hg=>cNm.o y.name W hg);have FL:=hid (fun i (hi:(Ln.named os y.name).mod=some i)=>show i < bl.length by rw [HL.o]; exact RZ os y.name i hi);go_wp2_with fail;refine (cY.o _).mono ?_
     rintro e U4 ⟨rfl,h4⟩;have G4:=hid (ya GW.o h4);have B4:=hid (BX.o.grown h4 (by simp));have x0:U4.cell? ⟨wr.heap.size,0,none⟩=some (.string (bs y.name)):=B4.o.cell 0;clear h4 cY c3 q0 q1 q2 q3
     cases e1:Ln.wanted y
     ·have E:=hid (show Ln.aV os k ys=Ln.aV os k (ys.drop (j+1)) by rw [FI.o,if_pos e1]);clear e1;go_wp2
      go_roundw
      case rel=>exact ⟨j+1,by omega,by go_num,E.o,G4.o⟩
      case measure=>simp [intOf]; omega
     ·have ny:=hid (show Ln.aV os k ys=if (Ln.named os y.name).mod.isSome then Ln.aV os k (ys.drop (j+1)) else some ⟨34,k,y.name⟩ by rw [FI.o,if_neg (by rw [e1]; decide)]);clear e1;generalize Ln.named os y.name=F1 at *;obtain ⟨m1,s1,o1⟩:=F1;unfold mU at cN;dsimp only at cN ny FL;go_wp2_with fail;refine (cN.o _ (ya G0.o (ya HG.o G4.o))).mono ?_;rintro e U5 ⟨rfl,h5⟩;have G5:=hid (ya G4.o h5);have B5:=hid (B4.o.grown h5 (by simp));clear h5 cN x0;have x0:U5.cell? ⟨wr.heap.size,0,none⟩=some (.string (bs y.name)):=B5.o.cell 0;have hx:=B5.o.lt;have hxn:wr.heap.size≠U5.heap.size:=by omega
      cases m1 with
      | some i =>
       have hi:=FL.o i rfl;rw [Ki hi];generalize bl[i]=bi at *;have E:=hid (show Ln.aV os k ys=Ln.aV os k (ys.drop (j+1)) from ny.o);go_wp2
       go_roundw
       case rel=>exact ⟨j+1,by omega,by go_num,E.o,ya G5.o (aH _ _ none)⟩
       case measure=>simp [intOf]; omega
      | none =>
       rw [show kW bl none=none from rfl];have E:=hid (show Ln.dw os=⟨34,k,y.name⟩ by rw [HF.o,FD.o,ny.o]; rfl);have BR:=hid (B0.o.grown (ya HG.o G5.o) (by simp));have hRl:=BR.o.lt;have z0:U5.cell? ⟨w.heap.size,0,none⟩=some (.int .i64 0):=BR.o.cell 0;have z1:U5.cell? ⟨w.heap.size,1,none⟩=some (.int .i64 0):=BR.o.cell 1;have z2:U5.cell? ⟨w.heap.size,2,none⟩=some (.string ⟨#[]⟩):=BR.o.cell 2;have f0:=BR.o.free 0;have f1:=BR.o.free 1;have f2:=BR.o.free 2;have hne5:w.heap.size≠U5.heap.size:=by omega
       go_wp2;have F:=(((BR.o.set 0 (.int .i64 34)).set 1 (.int .i64 k)).set 2 (.string (bs y.name))).grown (aH _ (.cells #[.pointer none,.int .i64 s1,.int .i64 o1] 103) none) (by simp);have h0:=F.cell 0;have h1:=F.cell 1;have h2:=F.cell 2;simp only [fu,fC,eX,dH,dL,dK] at h0 h1 h2;refine bodyPost_ret (v:=bJ ⟨34,k,y.name⟩) ?_ rfl ⟨by rw [E.o],ya (yx (ya G0.o (ya HG.o G5.o)) _ (Nat.le_refl _) _ _ _) (aH _ _ none)⟩;clear F z0 z1 z2 f0 f1 f2;generalize World.alloc _ _=WF at *;simp [results,Tryz.results46,go_sem,bJ,h0,h1,h2]
    ·obtain rfl:j=ys.length:=by omega
     have E:=hid (show Ln.aV os k ys=none by rw [iq.o,List.drop_length]; rfl);have g3:decide ((ys.length:Int) < (ys.length:Int))=false:=by simp
     go_wp2
     go_roundw
     case rel=>exact ⟨k+1,by omega,by go_num,by rw [HF.o,FD.o,E.o],ya HG.o HG2.o⟩
     case measure=>simp [intOf]; omega
  ·obtain rfl:k=bl.length:=by omega
   have E:=hid (show Ln.dw os=Ln.ok by rw [HF.o,HL.o,List.drop_length]; rfl);have g3:decide ((bl.length:Int) < (bl.length:Int))=false:=by simp
   have BR:=hid (B0.o.grown HG.o (by simp));have z0:wr.cell? ⟨w.heap.size,0,none⟩=some (.int .i64 0):=BR.o.cell 0;have z1:wr.cell? ⟨w.heap.size,1,none⟩=some (.int .i64 0):=BR.o.cell 1;have z2:wr.cell? ⟨w.heap.size,2,none⟩=some (.string ⟨#[]⟩):=BR.o.cell 2;have f0:=BR.o.free 0;have f1:=BR.o.free 1;have f2:=BR.o.free 2;go_wp2;have F:=((BR.o.set 0 (.int .i64 0)).set 1 (.int .i64 0)).set 2 (.string ⟨#[]⟩);have h0:=F.cell 0;have h1:=F.cell 1;have h2:=F.cell 2;simp only [fu,fC,eX,dH,dL,dK] at h0 h1 h2;refine bodyPost_ret (v:=bJ Ln.ok) ?_ rfl ⟨by rw [E.o],yx (ya G0.o HG.o) _ (Nat.le_refl _) _ _ _⟩;clear F z0 z1 z2 f0 f1 f2
   generalize World.setCell _ _ _=WF at *;simp [results,Tryz.results46,go_sem,bJ,Ln.ok,bs,h0,h1,h2]
theorem M8 {w:World} {base:Nat} {e:TypeId} {n cap:Nat} {ao:Option Addr} {xs:List Value} (h:w.ownsRow base e 1 (.slice ao n cap) n xs) (h0:0 < n):∃ sg,ao=some ⟨sg,0,none⟩/\(∀ o,w.frozen? ⟨sg,o,none⟩=false)/\n<=cap/\cap<=maxLen/\∀ i,i < n->w.cell? ⟨sg,i,none⟩=xs[i]?:=by
 rcases h.2 with ⟨h1,h2⟩ | ⟨g',cap',cur,hv,_,hg,h3,h4,h5,h6⟩
 ·omega
 ·simp only [Value.slice.injEq] at hv;obtain ⟨rfl,_,rfl⟩:=hv;refine ⟨g',rfl,fun o=>(show ye w g' cur e from hg).free o,h3,h4,fun i hi=>?_⟩;rw [(show ye w g' cur e from hg).cell i,<- h6,List.getElem?_take];simp [hi]
section
variable {P:Program} (w:World)
theorem QE {ops:Array Oper} {rest:List Oper} {o:Oper} {a:Act} {Q:Exit->Act->World->Prop} (hgd:o.guard=none) (s x:Operand) (t:TypeId)
  (ho:o.op = .call { callee:=.builtin .append,args:=#[s,x],argTypes:=#[t,t] })
  (base:Nat) (e:TypeId) (i:TypeInfo) (z:Value) (size bytes:Nat) (ht:P.underlying t=some (.slice e)) (hi:P.info? e=some i) (hz:i.zero=some z)
  (hsize:i.size=size) (hby:i.bytes=bytes) (hzs:z.cells.size=size) (hsz:0 < size)
  (v:Value) (n:Nat) (xs:List Value) (hs:a.eval s=v) (hown:w.ownsRow base e size v n xs)
  (ad:Addr) (m c:Nat) (news:List Value) (hx:a.eval x = .slice (some ad) m c) (hl:news.length=m * size) (hnews:∀ j u,news[j]?=some u->w.cell? (ad.add j)=some u) (h1:∀ u∈news,u.oneCell'=true)
  (h63:n+m<=maxLen) (hbytes:(n+m) * bytes<=140737488355328) (hbase:base<=w.heap.size)
  (h:∀ v' w',w'.ownsRow base e size v' (n+m) (xs ++ news)->w.grownBy w' v.ownBlock->(v'.ownBlock=v.ownBlock\/v'.ownBlock=some w.heap.size)->wpList P ops Q rest (a.put o.dst v') w'):wpList P ops Q (o :: rest) a w:=by
 refine wpList_plain hgd fun K hK=>?_
 obtain ⟨v',w',hr,h2,h3,-,h5⟩:=run_append_own_at (P:=P) w base t o.type e i z size bytes ht hi hz hsize hby hzs hsz v n xs hown ad m c news hl hnews h1 h63 hbytes hbase;unfold Oper.wp execOp;simp only [ho,resolve,invoke,builtin,Sem.run_bind,Sem.run_pure,Result.andThen_ok,List.map_toArray,List.map_cons,List.map_nil,hs,hx,hr];exact hK _ _ (h v' w' h2 h3 h5)
end
def aP (b:Nat):Value:=.pointer (some ⟨b,0,none⟩)
def mK (g:Nat):Array Value:=#[aP g,.slice none 0 0,.slice none 0 0,.slice none 0 0,.slice none 0 0,.int .i64 0,.int .i64 0]
structure nJ (W0:World) (P:Nat) (bt bf bd:Int) (vm:Value) (bl gl:List Nat) (os:List Lk.Obj) (W:World):Prop where
 blk:ye W P #[.int .i64 bt,.int .i64 bf,.int .i64 bd,vm,.pointer none,.int .i64 0,.int .i64 0,.int .i64 0] 105
 row:W.ownsRow W0.heap.size 101 1 vm bl.length (bl.map aP)
 gX:gl.length=bl.length
 fT:os.length=bl.length
 mods:∀ i (h:i < bl.length),ye W bl[i] (mK (gl[i]'(by rw [gX]; exact h))) 109
 objs:∀ i (h:i < bl.length),yq W (gl[i]'(by rw [gX]; exact h)) (os[i]'(by rw [fT]; exact h))
 few:bl.length<=4096
 syms:∀ o∈os,o.syms.length<=65535
 lo:W0.heap.size<=P
 los:∀ b∈bl,W0.heap.size<=b
 gr:W0.grownBy W none
 nd:bl.Nodup
def aW (W:World) (row:Option Nat) (e:TypeId):Prop:=∀ k,row=some k->∃ cur,ye W k cur e
theorem aW.own {W:World} {B size n:Nat} {e:TypeId} {v:Value} {xs:List Value} (h:W.ownsRow B e size v n xs):aW W v.ownBlock e:=by
 intro k hk;rcases h.2 with ⟨h1,_⟩ | ⟨g,cap,cur,hv,_,hg,_⟩
 ·rw [h1] at hk; simp [Value.ownBlock] at hk
 ·rw [hv] at hk;simp only [Value.ownBlock,Option.some.injEq] at hk;subst hk;exact ⟨cur,hg⟩
theorem aW.blk {W:World} {b:Nat} {cs:Array Value} {e:TypeId} (h:ye W b cs e):aW W (some b) e:=fun k hk=>by
 simp only [Option.some.injEq] at hk;subst hk;exact ⟨cs,h⟩
theorem yy {W W':World} {row:Option Nat} {e t:TypeId} {b:Nat} {cs:Array Value} (h:ye W b cs t) (hg:W.grownBy W' row) (hr:aW W row e) (hne:t≠e):ye W' b cs t :=
 h.grown hg (fun c=>by
  obtain ⟨cur,hc⟩:=hr b c.symm
  have:=hc.symm.trans h
  simp at this;exact hne this.2.symm)
theorem yw {W W':World} {row:Option Nat} {e t:TypeId} {B size n:Nat} {v:Value} {xs:List Value} (h:W.ownsRow B t size v n xs) (hg:W.grownBy W' row) (hr:aW W row e) (hne:t≠e):W'.ownsRow B t size v n xs :=
 h.kept hg (by
  cases hv:v.ownBlock with
  | none=>exact .inl rfl
  | some k =>
   right
   intro c;obtain ⟨cur,hc⟩:=aW.own h k hv;obtain ⟨aac,hc2⟩:=hr k c.symm
   have:=hc.symm.trans hc2
   simp at this;exact hne this.2)
theorem oK {W W':World} {row:Option Nat} {e:TypeId} {g:Nat} {o:Lk.Obj} (h:yq W g o) (hg:W.grownBy W' row) (hr:aW W row e) (h1:75≠e) (h2:3≠e) (h3:77≠e) (h4:83≠e):yq W' g o:=by
 obtain ⟨vt,vf,vd,va,vs,vr,hb,q1,q2,q3,q4,q5,q6⟩:=h;exact ⟨vt,vf,vd,va,vs,vr,yy hb hg hr h1,yw q1 hg hr h2,yw q2 hg hr h2,yw q3 hg hr h2,yw q4 hg hr h2,yw q5 hg hr h3,yw q6 hg hr h4⟩
def kR (ts:List TypeId) (W W':World):Prop:=∀ k cs t,ye W k cs t->t ∉ ts->ye W' k cs t
theorem kR.grown {ts:List TypeId} {W W':World} (h:W.grownBy W' none):kR ts W W':=fun _ _ _ hb _=>hb.grown h (by simp)
theorem kR.trans {ts:List TypeId} {A B C:World} (h:kR ts A B) (k:kR ts B C):kR ts A C:=fun b cs t hb ht=>k b cs t (h b cs t hb ht) ht
theorem kR.row {ts:List TypeId} {W W':World} {row:Option Nat} {e:TypeId} (h:W.grownBy W' row) (hr:aW W row e) (he:e∈ts):kR ts W W':=fun _ _ _ hb ht=>yy hb h hr (fun c=>ht (c ▸ he))
theorem kR.own {ts:List TypeId} {W W':World} (h:kR ts W W') {B size n:Nat} {t:TypeId} {v:Value} {xs:List Value} (ho:W.ownsRow B t size v n xs) (ht:t ∉ ts):W'.ownsRow B t size v n xs:=by
 refine ⟨ho.1,?_⟩;rcases ho.2 with q | ⟨g,cap,cur,hv,hb,hg,r⟩
 ·exact .inl q
 ·exact .inr ⟨g,cap,cur,hv,hb,h g cur t hg ht,r⟩
theorem kR.obj {ts:List TypeId} {W W':World} (h:kR ts W W') {g:Nat} {o:Lk.Obj} (ho:yq W g o) (h1:75 ∉ ts) (h2:3 ∉ ts) (h3:77 ∉ ts) (h4:83 ∉ ts):yq W' g o:=by
 obtain ⟨vt,vf,vd,va,vs,vr,hb,q1,q2,q3,q4,q5,q6⟩:=ho;exact ⟨vt,vf,vd,va,vs,vr,h _ _ _ hb h1,h.own q1 h2,h.own q2 h2,h.own q3 h2,h.own q4 h2,h.own q5 h3,h.own q6 h4⟩
theorem Tryz.uw:(Tryz.prog.info? 101).map (fun i=>(i.zero,i.size,i.bytes))=some (some (.pointer none),1,8):=by kernel_rfl
section
variable {W0 W W':World} {P:Nat} {bt bf bd:Int} {vm:Value} {bl gl:List Nat} {os:List Lk.Obj}
theorem nJ.kept (h:nJ W0 P bt bf bd vm bl gl os W) (hg:W.grownBy W' none):nJ W0 P bt bf bd vm bl gl os W' :=
 ⟨h.blk.grown hg (by simp),h.row.kept hg (by cases vm.ownBlock <;> simp),h.gX,h.fT,fun i hi=>(h.mods i hi).grown hg (by simp),fun i hi=>(h.objs i hi).kept hg,h.few,h.syms,h.lo,h.los,ya h.gr hg,h.nd⟩
theorem nJ.ty {row:Option Nat} {e:TypeId} (h:nJ W0 P bt bf bd vm bl gl os W) (hg:W.grownBy W' row) (hr:aW W row e) (hlo:∀ k,row=some k->W0.heap.size<=k) (h1:105≠e) (h2:101≠e) (h3:109≠e) (h4:75≠e) (h5:3≠e) (h6:77≠e) (h7:83≠e):nJ W0 P bt bf bd vm bl gl os W' :=
 ⟨yy h.blk hg hr h1,yw h.row hg hr h2,h.gX,h.fT,fun i hi=>yy (h.mods i hi) hg hr h3,fun i hi=>oK (h.objs i hi) hg hr h4 h5 h6 h7,h.few,h.syms,h.lo,h.los,yD h.gr hg hlo,h.nd⟩
theorem nJ.iA {am:Option Addr} {cm:Nat} (h:nJ W0 P bt bf bd (.slice am bl.length cm) bl gl os W):rD W am bl os:=by
 refine ⟨fun hp=>?_,h.fT.symm,fun i h1 h2=>⟨_,(h.mods i h1).cell 0,h.objs i h1⟩,by rw [h.fT]; exact h.few,h.syms⟩;obtain ⟨sg,hs,-,-,-,hc⟩:=M8 h.row hp;refine ⟨sg,0,hs,fun i hi=>?_⟩;rw [Nat.zero_add,hc i hi,List.getElem?_map,gy hi];rfl
theorem nJ.more {og:Nat} {o:Lk.Obj} {w3:World} {v':Value} (h:nJ W0 P bt bf bd vm bl gl os W) (ho:yq W og o) (hf:bl.length < 4096) (hs:o.syms.length<=65535)
  (hown:w3.ownsRow W0.heap.size 101 1 v' (bl.length+1) (bl.map aP ++ [aP W.heap.size])) (hg:((W.alloc (.cells (mK og) 109)).alloc (.cells #[aP W.heap.size] 101)).grownBy w3 vm.ownBlock) :
  nJ W0 P bt bf bd v' (bl ++ [W.heap.size]) (gl ++ [og]) (os ++ [o]) (w3.setCell ⟨P,3,none⟩ v'):=by
 have A1:=aH W (.cells (mK og) 109) none;have A2:=aH (W.alloc (.cells (mK og) 109)) (.cells #[aP W.heap.size] 101) none;have A:=ya A1 A2;have hA:=h.kept A;have RT:=aW.own hA.row;have BM:=(ye.new W (mK og) 109).grown A2 (by simp);have b3:=yy hA.blk hg RT (by decide);have RP:=aW.blk b3;have gs:=yi w3 P 3 v';have hlt:=h.gr.size;have hrow:∀ k,vm.ownBlock=some k->W0.heap.size<=k:=fun k e=>(h.row.lt k e).1
 refine ⟨?_,?_,by simp [h.gX],by simp [h.fT],?_,?_,by simp; omega,?_,h.lo,?_,?_,?_⟩
 ·have:=b3.set 3 v'
  rw [fu] at this;exact this
 ·have:=yw hown gs RP (by decide)
  simpa using this
 ·intro i hi;have hg1:(gl ++ [og])[i]?=some ((gl ++ [og])[i]'(by simp [h.gX]; simpa using hi)):=gy _;by_cases hlt2:i < bl.length
  ·have e1:(bl ++ [W.heap.size])[i]=bl[i]:=List.getElem_append_left hlt2;have e2:(gl ++ [og])[i]'(by simp [h.gX]; omega)=gl[i]'(by rw [h.gX]; exact hlt2):=List.getElem_append_left _;rw [e1,e2];exact yy (yy (hA.mods i hlt2) hg RT (by decide)) gs RP (by decide)
  ·have hi2:i=bl.length:=by simp at hi; omega
   subst hi2;have e1:(bl ++ [W.heap.size])[bl.length]=W.heap.size:=by simp
   have e2:(gl ++ [og])[bl.length]'(by simp [h.gX])=og:=by simp [<- h.gX]
   rw [e1,e2];exact yy (yy BM hg RT (by decide)) gs RP (by decide)
 ·intro i hi;by_cases hlt2:i < bl.length
  ·have e1:(os ++ [o])[i]'(by simp [h.fT]; omega)=os[i]'(by rw [h.fT]; exact hlt2):=List.getElem_append_left _;have e2:(gl ++ [og])[i]'(by simp [h.gX]; omega)=gl[i]'(by rw [h.gX]; exact hlt2):=List.getElem_append_left _;rw [e1,e2];exact oK (oK (hA.objs i hlt2) hg RT (by decide) (by decide) (by decide) (by decide)) gs RP (by decide) (by decide) (by decide) (by decide)
  ·have hi2:i=bl.length:=by simp at hi; omega
   subst hi2;have e1:(os ++ [o])[bl.length]'(by simp [h.fT])=o:=by simp [<- h.fT]
   have e2:(gl ++ [og])[bl.length]'(by simp [h.gX])=og:=by simp [<- h.gX]
   rw [e1,e2];exact oK (oK (ho.kept A) hg RT (by decide) (by decide) (by decide) (by decide)) gs RP (by decide) (by decide) (by decide) (by decide)
 ·intro x hx;rcases List.mem_append.1 hx with hx | hx
  ·exact h.syms x hx
  ·simp at hx; subst hx; exact hs
 ·intro x hx;rcases List.mem_append.1 hx with hx | hx
  ·exact h.los x hx
  ·simp at hx; subst hx; exact hlt
 ·exact yD (yD (ya h.gr A) hg hrow) gs (by intro k e; simp at e; have:=h.lo; omega)
 ·rw [List.nodup_append];refine ⟨h.nd,by simp,fun a ha b hb=>?_⟩;simp at hb;subst hb;obtain ⟨i,hi,rfl⟩:=List.getElem_of_mem ha;exact Nat.ne_of_lt (h.mods i hi).lt
end
theorem YE (W0:World) (P:Nat) (bt bf bd:Int) (vm:Value) (bl gl:List Nat) (os:List Lk.Obj) (og:Nat) (o:Lk.Obj) (W:World) (h:nJ W0 P bt bf bd vm bl gl os W) (ho:yq W og o) (hf:bl.length < 4096) (hs:o.syms.length<=65535) :
  Calls Tryz.prog 73 #[aP P,aP og] W fun e W'=>e = .returned (.tuple #[])/\(∃ Kc b,nJ W0 P bt bf bd Kc (bl ++ [b]) (gl ++ [og]) (os ++ [o]) W')/\kR [101,105] W W':=by
 obtain ⟨i0,hi,hz0,hz1,hz2⟩:=info_parts Tryz.uw;obtain ⟨am,cm,rfl⟩:=yj h.row;have H:=hid h;have HO:=hid ho;have c3:W.cell? ⟨P,3,none⟩=some (.slice am bl.length cm):=h.blk.cell 3;have hP:=h.blk.lt;have hcap:=yZ h.row;have hsz:=h.gr.size;have SZ:(W.alloc (.cells (mK og) 109)).heap.size=W.heap.size+1:=Array.size_push _;have CN:=hid (show ∀ j u,[aP W.heap.size][j]?=some u->((W.alloc (.cells (mK og) 109)).alloc (.cells #[aP W.heap.size] 101)).cell? ((⟨W.heap.size+1,0,none⟩:Addr).add j)=some u by
  have:=cell_one_new (W.alloc (.cells (mK og) 109)) (aP W.heap.size) 101
  rw [SZ] at this;exact this)
 have HR:=hid ((h.kept (ya (aH W (.cells (mK og) 109) none) (aH _ (.cells #[aP W.heap.size] 101) none))).row);have HB:=hid ((h.kept (ya (aH W (.cells (mK og) 109) none) (aH _ (.cells #[aP W.heap.size] 101) none))).blk);have HS:=hid (show W0.heap.size<=((W.alloc (.cells (mK og) 109)).alloc (.cells #[aP W.heap.size] 101)).heap.size from (h.kept (ya (aH W (.cells (mK og) 109) none) (aH _ (.cells #[aP W.heap.size] 101) none))).gr.size);clear h ho SZ;unfold aP;go_enter Tryz.func73,Tryz.ntmps73;go_wp2_with (at_builtin; refine QE _ rfl _ _ 100 rfl W0.heap.size 101 i0 (.pointer none) 1 8 Tryz.underlying100 hi hz0 hz1 hz2 rfl (by decide) _ _ _ rfl HR.o ⟨W.heap.size+1,0,none⟩ 1 1 [aP W.heap.size] rfl rfl CN.o (by intro u hu; simp at hu; subst hu; rfl) (by unfold maxLen; omega) (by omega) HS.o ?_; intro v' w3 hown' hgrow hblk; obtain ⟨jN,cv',rfl⟩:=yj hown'; have RT:=aW.own HR.o; have b3:=yy HB.o hgrow RT (by decide); have f3:=b3.free 3; have k3:=b3.cell 3; have K:=hid (H.o.more HO.o hf hs hown' hgrow); have FR:=hid (((kR.grown (ts:=[101,105]) (ya (aH W (.cells (mK og) 109) none) (aH _ (.cells #[aP W.heap.size] 101) none))).trans (kR.row hgrow RT (by decide))).trans (kR.row (yi w3 P 3 (.slice jN (bl.length+1) cv')) (aW.blk b3) (by decide))); clear hgrow hown' RT b3 hblk)
 go_end0
 exact ⟨rfl,⟨_,_,K.o⟩,FR.o⟩
structure pU (W:World) (mg:Nat) (gs:List Nat) (ms:List (Lk.Obj×Bool)):Prop where
 len:gs.length=ms.length
 row:∃ cur,ye W mg cur 144/\∀ i (h:i < ms.length),cur[i * 2]?=some (aP (gs[i]'(by rw [len]; exact h)))/\cur[i * 2+1]?=some (.bool ms[i].2)
 objs:∀ i (h:i < ms.length),yq W (gs[i]'(by rw [len]; exact h)) ms[i].1
 syms:∀ m∈ms,m.1.syms.length<=65535
def qP (ts:List TypeId) (mg:Nat) (W W':World):Prop:=∀ k cs t,ye W k cs t->t ∉ ts->k≠mg->ye W' k cs t
theorem qP.refl (ts:List TypeId) (mg:Nat) (W:World):qP ts mg W W:=fun _ _ _ h _ _=>h
theorem kR.x {ts:List TypeId} {A B:World} (h:kR ts A B) (mg:Nat):qP ts mg A B:=fun k cs t hb ht _=>h k cs t hb ht
theorem qP.trans {ts:List TypeId} {mg:Nat} {A B C:World} (h:qP ts mg A B) (k:qP ts mg B C):qP ts mg A C:=fun b cs t hb ht hn=>k b cs t (h b cs t hb ht hn) ht hn
theorem qP.set (ts:List TypeId) (W:World) (mg o:Nat) (v:Value):qP ts mg W (W.setCell ⟨mg,o,none⟩ v):=fun _ _ _ hb _ hn=>hb.grown (yi W mg o v) (by simp; omega)
def nI (ms:List (Lk.Obj×Bool)):Nat:=(ms.filter fun m=>!m.2).length
section
variable {W W':World} {mg:Nat} {gs:List Nat} {ms:List (Lk.Obj×Bool)}
theorem pU.frame {ts:List TypeId} (h:pU W mg gs ms) (hf:kR ts W W') (h0:144 ∉ ts) (h1:75 ∉ ts) (h2:3 ∉ ts) (h3:77 ∉ ts) (h4:83 ∉ ts):pU W' mg gs ms:=by
 obtain ⟨cur,hb,hc⟩:=h.row;exact ⟨h.len,⟨cur,hf _ _ _ hb h0,hc⟩,fun i hi=>hf.obj (h.objs i hi) h1 h2 h3 h4,h.syms⟩
theorem pU.kept (h:pU W mg gs ms) (hg:W.grownBy W' none):pU W' mg gs ms:=h.frame (ts:=[]) (kR.grown hg) (by simp) (by simp) (by simp) (by simp) (by simp)
theorem pU.cells (h:pU W mg gs ms) (i:Nat) (hi:i < ms.length):W.cell? ⟨mg,i * 2,none⟩=some (aP (gs[i]'(by rw [h.len]; exact hi)))/\W.cell? ⟨mg,i * 2+1,none⟩=some (.bool ms[i].2)/\W.frozen? ⟨mg,i * 2+1,none⟩=false:=by
 obtain ⟨cur,hb,hc⟩:=h.row;exact ⟨(hb.cell _).trans (hc i hi).1,(hb.cell _).trans (hc i hi).2,hb.free _⟩
theorem pU.put (h:pU W mg gs ms) (i:Nat) (hi:i < ms.length):pU (W.setCell ⟨mg,i * 2+1,none⟩ (.bool true)) mg gs (ms.set i (ms[i].1,true)):=by
 obtain ⟨cur,hb,hc⟩:=h.row;have RT:=aW.blk hb;have gs':=yi W mg (i * 2+1) (.bool true);have hsz:i * 2+1 < cur.size:=by
  have:=(hc i hi).2
  exact (Array.getElem?_eq_some_iff.1 this).1
 refine ⟨by rw [List.length_set]; exact h.len,⟨_,hb.set (i * 2+1) (.bool true),fun j hj=>?_⟩,fun j hj=>?_,fun m hm=>?_⟩
 ·rw [List.length_set] at hj;rw [Array.getElem?_setIfInBounds,Array.getElem?_setIfInBounds,if_neg (by omega)];refine ⟨(hc j hj).1,?_⟩;by_cases e:i=j
  ·subst e;rw [if_pos rfl,if_pos hsz,List.getElem_set_self]
  ·rw [if_neg (by omega),List.getElem_set_ne e];exact (hc j hj).2
 ·rw [List.length_set] at hj;have e:(ms.set i (ms[i].1,true))[j].1=ms[j].1:=by
   by_cases e:i=j
   ·subst e; rw [List.getElem_set_self]
   ·rw [List.getElem_set_ne e]
  rw [e];exact oK (h.objs j hj) gs' RT (by decide) (by decide) (by decide) (by decide)
 ·obtain ⟨j,hj,rfl⟩:=List.getElem_of_mem hm;rw [List.length_set] at hj;by_cases e:i=j
  ·subst e; rw [List.getElem_set_self]; exact h.syms ms[i] (dM hi)
  ·rw [List.getElem_set_ne e]; exact h.syms _ (dM hj)
end
theorem Yx (ms:List (Lk.Obj×Bool)) (k:Nat) (os:List Lk.Obj) (h:k < ms.length):Ln.pass (ms.drop k) os=if ms[k].2=false/\Ln.needs os ms[k].1=true then ((ms[k].1,true) :: (Ln.pass (ms.drop (k+1)) (os ++ [ms[k].1])).1,(Ln.pass (ms.drop (k+1)) (os ++ [ms[k].1])).2.1,true) else (ms[k] :: (Ln.pass (ms.drop (k+1)) os).1,(Ln.pass (ms.drop (k+1)) os).2.1,(Ln.pass (ms.drop (k+1)) os).2.2):=by
 rw [jg h];generalize ms[k]=m;obtain ⟨o,t⟩:=m;rw [Ln.pass]
theorem Rc:∀ (ms:List (Lk.Obj×Bool)) (i:Nat) (h:i < ms.length) (o:Lk.Obj),ms[i].2=false->nI (ms.set i (o,true))+1=nI ms:=by
 intro ms
 induction ms with
 | nil=>intro i h; simp at h
 | cons m ms ih =>
  intro i h o hf;obtain ⟨mo,mt⟩:=m
  cases i with
  | zero =>
   simp only [kI] at hf;subst hf;simp [nI]
  | succ i =>
   have:=ih i (by simpa using h) o (by simpa using hf)
   unfold nI at this ⊢;simp only [fC,List.filter_cons];split <;> (try simp only [gL]) <;> omega
theorem ylL (ms:List (Lk.Obj×Bool)):nI ms<=ms.length:=List.length_filter_le _ _
structure sZ (ms1:List (Lk.Obj×Bool)) (os1:List Lk.Obj) (j:Nat) (ms2:List (Lk.Obj×Bool)) (os2:List Lk.Obj) (more:Bool):Prop where
 len:ms2.length=ms1.length
 rest:ms2.drop j=ms1.drop j
 eq:Ln.pass ms1 os1=(ms2.take j ++ (Ln.pass (ms1.drop j) os2).1,(Ln.pass (ms1.drop j) os2).2.1,more || (Ln.pass (ms1.drop j) os2).2.2)
 un:nI ms2+(if more then 1 else 0)<=nI ms1
theorem sZ.start (ms:List (Lk.Obj×Bool)) (os:List Lk.Obj):sZ ms os 0 ms os false:=⟨rfl,rfl,by simp,by simp⟩
theorem sZ.at {ms1 ms2:List (Lk.Obj×Bool)} {os1 os2:List Lk.Obj} {j:Nat} {more:Bool} (h:sZ ms1 os1 j ms2 os2 more) (hj:j < ms1.length):ms2[j]'(by rw [h.len]; exact hj)=ms1[j]:=by
 have e:=h.rest;rw [jg (by rw [h.len]; exact hj),jg hj] at e;exact (List.cons.inj e).1
theorem sZ.yes {ms1 ms2:List (Lk.Obj×Bool)} {os1 os2:List Lk.Obj} {j:Nat} {more:Bool} (h:sZ ms1 os1 j ms2 os2 more) (hj:j < ms1.length) (hj2:j < ms2.length) (h1:ms2[j].2=false) (h2:Ln.needs os2 ms2[j].1=true):sZ ms1 os1 (j+1) (ms2.set j (ms2[j].1,true)) (os2 ++ [ms2[j].1]) true:=by
 have ea:=h.at hj;have e:=h.eq;rw [Yx ms1 j os2 hj,<- ea,if_pos ⟨h1,h2⟩] at e;refine ⟨by rw [List.length_set]; exact h.len,?_,?_,?_⟩
 ·have r:=h.rest;rw [List.drop_set_of_lt (by omega),<- List.drop_drop (i:=1) (j:=j),<- List.drop_drop (i:=1) (j:=j) (l:=ms1),r]
 ·rw [e];have t:(ms2.set j (ms2[j].1,true)).take (j+1)=ms2.take j ++ [(ms2[j].1,true)]:=by
   rw [List.take_succ_eq_append_getElem (by rw [List.length_set]; exact hj2),List.getElem_set_self,List.take_set_of_le (by omega)]
  rw [t];simp
 ·have:=Rc ms2 j hj2 ms2[j].1 h1
  have u:=h.un;simp only [if_true];omega
theorem sZ.no {ms1 ms2:List (Lk.Obj×Bool)} {os1 os2:List Lk.Obj} {j:Nat} {more:Bool} (h:sZ ms1 os1 j ms2 os2 more) (hj:j < ms1.length) (hj2:j < ms2.length) (h1:¬ (ms2[j].2=false/\Ln.needs os2 ms2[j].1=true)):sZ ms1 os1 (j+1) ms2 os2 more:=by
 have ea:=h.at hj;have e:=h.eq;rw [Yx ms1 j os2 hj,<- ea,if_neg h1] at e;refine ⟨h.len,?_,?_,h.un⟩
 ·have r:=h.rest;rw [<- List.drop_drop (i:=1) (j:=j),<- List.drop_drop (i:=1) (j:=j) (l:=ms1),r]
 ·rw [e,List.take_succ_eq_append_getElem hj2,List.append_assoc];rfl
theorem sZ.fin {ms1 ms2:List (Lk.Obj×Bool)} {os1 os2:List Lk.Obj} {j:Nat} {more:Bool} (h:sZ ms1 os1 j ms2 os2 more) (hj:j=ms1.length):Ln.pass ms1 os1=(ms2,os2,more):=by
 have e:=h.eq;subst hj;rw [List.drop_length,Ln.pass,List.take_of_length_le (by rw [h.len]; exact Nat.le_refl _)] at e;rw [e];simp
theorem yhk (W0:World) (P:Nat) (bt bf bd:Int) (vm:Value) (bl gl:List Nat) (os:List Lk.Obj) (mg cm:Nat) (gs:List Nat) (ms:List (Lk.Obj×Bool)) (W:World) (h:nJ W0 P bt bf bd vm bl gl os W) (hm:pU W mg gs ms) (hc:bl.length+nI ms<=4096) (hml:W0.heap.size<=mg) (hn:ms.length<=4096) (hcm:ms.length<=cm/\cm<=maxLen) :
  Calls Tryz.prog 72 #[aP P,.slice (some ⟨mg,0,none⟩) ms.length cm] W fun e W'=>e = .returned (.tuple #[])/\(∃ Kc Ji Jt,nJ W0 P bt bf bd Kc Ji Jt (Ln.dJ (ms.length+1) ms os) W'/\Ji.length<=bl.length+nI ms)/\qP [101,105] mg W W':=by
 have H:=hid h;have HM:=hid hm;have hcm1:=hcm.2;unfold maxLen at hcm1;clear h hm;unfold aP;go_enter Tryz.func72,Tryz.ntmps72;obtain ⟨T,hT⟩:∃ T,T=Ln.dJ (ms.length+1) ms os:=⟨_,rfl⟩
 rw [<- hT];have HT:=hid hT;clear hT;have hu:=ylL ms;go_wp2
 go_loopg [4] (ms.length+1) (fun g mo wr=>∃ (more:Bool) (ms1:List (Lk.Obj×Bool)) (os1:List Lk.Obj) (Jj Bq:List Nat) (L6:Value),mo = .bool more/\nJ W0 P bt bf bd L6 Jj Bq os1 wr/\pU wr mg gs ms1/\ms1.length=ms.length/\Jj.length+nI ms1<=bl.length+nI ms/\qP [101,105] mg W wr/\(more=true->nI ms1+1<=g/\T=Ln.dJ g ms1 os1)/\(more=false->T=os1))
 case atStart=>exact ⟨true,ms,os,bl,gl,vm,rfl,H.o,HM.o,rfl,Nat.le_refl _,qP.refl _ _ _,fun _=>⟨by omega,HT.o⟩,fun c=>by cases c⟩
 case round =>
  obtain ⟨more,ms1,os1,Jj,Bq,L6,rfl,hg,hm,hl,hb,hfr,hy,hno⟩:=hrel
  cases more with
  | false =>
   have E:=hid (hno rfl);have HG:=hid hg;have Fp:=hid hfr;clear hg hm hfr hy hno;go_wp2
   go_end0
   rw [E.o];exact ⟨rfl,⟨L6,Jj,Bq,HG.o,by omega⟩,Fp.o⟩
  | true =>
   obtain ⟨hk,hE⟩:=hy rfl;obtain ⟨gk',rfl⟩:∃ k,gk=k+1:=⟨gk - 1,by omega⟩
   have E:=hid hE;have HG:=hid hg;have Fw:=hid hm;have Fp:=hid hfr;clear hg hm hfr hy hno hE;obtain ⟨U,hU⟩:∃ U:World,U=wr:=⟨_,rfl⟩
   subst hU;go_wp2
   go_loopw [4,9] (fun mo i wr=>∃ (j:Nat) (jo:Bool) (ms2:List (Lk.Obj×Bool)) (os2:List Lk.Obj) (jO qh:List Nat) (BJ:Value),j<=ms.length/\i = .int .i64 j/\mo = .bool jo/\nJ W0 P bt bf bd BJ jO qh os2 wr/\pU wr mg gs ms2/\sZ ms1 os1 j ms2 os2 jo/\jO.length+nI ms2<=bl.length+nI ms/\qP [101,105] mg W wr) (fun _ i _=>ms.length - (intOf i).toNat)
   case atStart=>exact ⟨0,false,ms1,os1,Jj,Bq,L6,Nat.zero_le _,rfl,rfl,HG.o,Fw.o,sZ.start _ _,hb,Fp.o⟩
   case round =>
    obtain ⟨j,jo,ms2,os2,jO,qh,BJ,hj,rfl,rfl,hg2,hm2,hp2,hb2,hf2⟩:=hrel;have HG2:=hid hg2;have Cq:=hid hm2;have qE:=hid hp2;have iq:=hid hf2;clear hg2 hm2 hp2 hf2;by_cases hlt:j < ms.length
    ·have hj1:j < ms1.length:=by omega
     have hj2:j < ms2.length:=by rw [qE.o.len]; exact hj1
     obtain ⟨m0,m1,Ql⟩:=Cq.o.cells j hj2;have g1:(j:Int) < (ms.length:Int):=by omega
     have YES:=hid (qE.o.yes hj1 hj2);have NO:=hid (qE.o.no hj1 hj2);have OB:=hid (Cq.o.objs j hj2);have SY:=Cq.o.syms ms2[j] (dM hj2);have PT:=hid (fun V (hV:pU V mg gs ms2)=>hV.put j hj2);have US:=hid (Rc ms2 j hj2 ms2[j].1);generalize ms2[j]=mj at *;obtain ⟨oj,tj⟩:=mj;dsimp only at *;unfold aP at m0;generalize hgj:gs[j]'_=gj at *;have Q0:=hid hgj;clear hgj
     cases tj with
     | true =>
      have E2:=hid (NO.o (fun c=>by cases c.1));go_wp2
      go_roundw
      case rel=>exact ⟨j+1,jo,ms2,os2,jO,qh,BJ,by omega,by go_num,rfl,HG2.o,Cq.o,E2.o,hb2,iq.o⟩
      case measure=>simp [intOf]; omega
     | false =>
      obtain ⟨am,VA,hvm⟩:=yj HG2.o.row;subst hvm;have c3:wr.cell? ⟨P,3,none⟩=some (.slice am jO.length VA):=HG2.o.blk.cell 3;have cN:=hid (ymt P am VA jO os2 gj oj wr c3 HG2.o.iA OB.o SY);clear c3;go_wp2_with fail;refine cN.o.mono ?_;rintro e W5 ⟨rfl,h5⟩;have KX:=hid (HG2.o.kept h5);have Cr:=hid (Cq.o.kept h5);have Tz:=hid (iq.o.trans ((kR.grown h5).x mg));have Bd:=hid (OB.o.kept h5);have m0':=yc m0 h5;have m1':=yc m1 h5;clear h5 cN m0 m1 Ql;obtain ⟨-,-,Ql⟩:=Cr.o.cells j hj2
      cases hn2:Ln.needs os2 oj with
      | false =>
       have E2:=hid (NO.o (fun c=>by rw [hn2] at c; cases c.2));clear hn2;go_wp2
       go_roundw
       case rel=>exact ⟨j+1,jo,ms2,os2,jO,qh,_,by omega,by go_num,rfl,KX.o,Cr.o,E2.o,hb2,Tz.o⟩
       case measure=>simp [intOf]; omega
      | true =>
       have E2:=hid (YES.o trivial hn2);have hus:=US.o trivial;clear hn2;obtain ⟨cur,hcb,-⟩:=Cr.o.row;have RM:=aW.blk hcb;have GS:=yi W5 mg (j * 2+1) (.bool true);have Ik:=hid (KX.o.ty GS RM (by intro k e; simp at e; omega) (by decide) (by decide) (by decide) (by decide) (by decide) (by decide) (by decide));have tH:=hid (PT.o W5 Cr.o);have IZ:=hid (oK Bd.o GS RM (by decide) (by decide) (by decide) (by decide));have Z4:=hid (Tz.o.trans (qP.set _ W5 mg (j * 2+1) (.bool true)));have n0:(W5.setCell ⟨mg,j * 2+1,none⟩ (.bool true)).cell? ⟨mg,j * 2,none⟩=some (.pointer (some ⟨gj,0,none⟩)):=by
        obtain ⟨q0,-,-⟩:=tH.o.cells j (by rw [List.length_set]; exact hj2);exact q0.trans (by rw [<- Q0.o]; rfl)
       clear hcb RM GS PT;have cT:=hid (YE W0 P bt bf bd _ jO qh os2 gj oj _ Ik.o IZ.o (by omega) SY);unfold aP at cT;go_wp2_with fail;refine cT.o.mono ?_;rintro e W7 ⟨rfl,⟨Ws,b7,h7⟩,f7⟩;have Il:=hid h7;have iR:=hid (tH.o.frame f7 (by decide) (by decide) (by decide) (by decide) (by decide));have Ii:=hid (Z4.o.trans (f7.x mg));clear h7 f7 cT n0 m0' m1' Ql;go_wp2
       go_roundw
       case rel=>exact ⟨j+1,true,_,_,_,_,_,by omega,by go_num,rfl,Il.o,iR.o,E2.o,by simp; omega,Ii.o⟩
       case measure=>simp [intOf]; omega
    ·obtain rfl:j=ms.length:=by omega
     have E2:=hid (qE.o.fin (by omega));have g3:decide ((ms.length:Int) < (ms.length:Int))=false:=by simp
     have TE:=hid (show T=if (Ln.pass ms1 os1).2.2=true then Ln.dJ gk' (Ln.pass ms1 os1).1 (Ln.pass ms1 os1).2.1 else (Ln.pass ms1 os1).2.1 from E.o);rw [E2.o] at TE;dsimp only at TE;have hun:=qE.o.un;have hl2:=qE.o.len;go_wp2
     go_roundg gk'
     case measure=>omega
     case rel =>
      refine ⟨jo,ms2,os2,jO,qh,BJ,rfl,HG2.o,Cq.o,by omega,hb2,iq.o,fun c=>?_,fun c=>?_⟩
      ·subst c;simp only [if_true] at hun;exact ⟨by omega,by rw [TE.o,if_pos rfl]⟩
      ·subst c;rw [TE.o,if_neg (by decide)]
theorem Tryz.uy:(Tryz.prog.info? 5).map (fun i=>(i.zero,i.size,i.bytes))=some (some (.int .u8 0),1,1):=by kernel_rfl
def qc (l:List UInt8):List Value:=l.map fun c=>.int .u8 c.toNat
def kr (W:World) (b:Nat) (l:List UInt8):Prop :=
 ∃ ao cap,ye W b #[.slice ao l.length cap] 123/\W.ownsRow (b+1) 5 1 (.slice ao l.length cap) l.length (qc l)
theorem ynX (W:World):kr (W.alloc (.cells #[.slice none 0 0] 123)) W.heap.size [] :=
 ⟨none,0,ye.new W _ _,World.ownsRow_nil _ _ _ _⟩
theorem ylj (n:Int):bits .and .i64 n 255=n % 256:=by
 have Pk:(BitVec.ofInt 64 255).toNat=2 ^ 8 - 1:=by decide
 have key:(BitVec.ofInt 64 n &&& BitVec.ofInt 64 255).toNat=(n % ((2 ^ 64:Nat):Int)).toNat % 2 ^ 8:=by
  rw [BitVec.toNat_and,BitVec.toNat_ofInt,Pk,Nat.and_two_pow_sub_one_eq_mod]
 show IntKind.i64.wrap ((BitVec.ofInt 64 n &&& BitVec.ofInt 64 255).toNat:Nat)=n % 256;rw [key,IntKind.wrap_i64];omega
def zU (x:Int):UInt8:=UInt8.ofNat (x % 256).toNat
theorem ynm (x:Int):((zU x).toNat:Int)=bits .and .i64 x 255 % 256:=by
 rw [ylj];unfold zU;rw [UInt8.toNat_ofNat'];omega
theorem ynn {w:World} {base:Nat} {v:Value} {n:Nat} {xs:List Value} {x:Int} (h:w.ownsRow base 5 1 v n (xs ++ [.int .u8 (bits .and .i64 x 255 % 256)])):w.ownsRow base 5 1 v n (xs ++ [.int .u8 (zU x).toNat]):=by
 rw [ynm]; exact h
def Cg (b:Nat) (w w':World):Prop:=∀ k cs t,k≠b->t≠5->ye w k cs t->ye w' k cs t
theorem Cg.refl (b:Nat) (w:World):Cg b w w:=fun _ _ _ _ _ h=>h
theorem Cg.trans {b:Nat} {x y z:World} (h:Cg b x y) (k:Cg b y z):Cg b x z:=fun i cs t hi ht hb=>k i cs t hi ht (h i cs t hi ht hb)
def Wk (b:Nat) (w w':World):Prop:=Below b w w'/\Cg b w w'
theorem Wk.refl (b:Nat) (w:World):Wk b w w:=⟨Below.refl _ _,Cg.refl _ _⟩
theorem Wk.trans {b:Nat} {x y z:World} (h:Wk b x y) (k:Wk b y z):Wk b x z:=⟨h.1.trans k.1,h.2.trans k.2⟩
theorem yni {wr w1:World} {b:Nat} {o:Obj} {base:Nat} {v0:Value} {n:Nat} {xs:List Value} (hown:wr.ownsRow base 5 1 v0 n xs) (hg:(wr.alloc o).grownBy w1 v0.ownBlock) (v:Value):Cg b wr (w1.setCell ⟨b,0,none⟩ v):=by
 intro k cs t hk ht hb;have h1:=hb.grown (aH wr o none) (by simp);have h2:ye w1 k cs t:=h1.grown hg (by
  rcases hown.2 with ⟨rfl,_⟩ | ⟨g,cap,cur,rfl,_,hh,_⟩
  ·simp [Value.ownBlock]
  ·intro e;simp only [Value.ownBlock,Option.some.injEq] at e;subst e;unfold ye at hb;rw [hb] at hh;simp only [Option.some.injEq,Obj.cells.injEq] at hh;exact ht hh.2.1)
 exact h2.grown (yi w1 b 0 v) (by simpa using hk)
theorem Sq {w wr w1:World} {b:Nat} {l:List UInt8} {ao:Option Addr} {cap:Nat} {o:Obj} {v:Value} {c:UInt8} (hb:ye wr b #[.slice ao l.length cap] 123) (hwk:Wk b w wr) (hown0:wr.ownsRow (b+1) 5 1 (.slice ao l.length cap) l.length (qc l))
  (hg:(wr.alloc o).grownBy w1 (Value.ownBlock (.slice ao l.length cap))) (hrow:∀ g,Value.ownBlock (.slice ao l.length cap)=some g->b+1<=g) (hown:w1.ownsRow (b+1) 5 1 v (l.length+1) (qc l ++ [.int .u8 c.toNat])) :
  kr (w1.setCell ⟨b,0,none⟩ v) b (l ++ [c])/\Wk b w (w1.setCell ⟨b,0,none⟩ v):=by
 have hkt:=yni (b:=b) hown0 hg v;have hB1:ye w1 b #[.slice ao l.length cap] 123:=(hb.grown (aH wr o none) (by simp)).grown hg (fun e=>by have:=hrow b e.symm; omega);obtain ⟨Jg,cap',rfl⟩:=yj hown;have hlen:(l ++ [c]).length=l.length+1:=by simp
 refine ⟨⟨Jg,cap',?_,?_⟩,?_⟩
 ·rw [hlen];exact hB1.set 0 _
 ·have e:qc (l ++ [c])=qc l ++ [.int .u8 c.toNat]:=by simp [qc]
  rw [hlen,e];exact ownsRow_setCell_below hown (Nat.lt_succ_self b) _
 ·refine ⟨?_,hwk.2.trans hkt⟩;exact ((hwk.1.alloc (Nat.le_of_lt hb.lt) o).grown hg (by have:=hb.lt; simp; omega) (fun g hg=>by have:=hrow g hg; omega)).setCell (Nat.le_refl b) _
theorem Gp {wr w1:World} {b:Nat} {cs:Array Value} {t:TypeId} {o:Obj} {row:Option Nat} (hb:ye wr b cs t) (hg:(wr.alloc o).grownBy w1 row) (hrow:∀ g,row=some g->b+1<=g):ye w1 b cs t :=
 (hb.grown (aH wr o none) (by simp)).grown hg (fun e=>by have:=hrow b e.symm; omega)
theorem X3 (b:Nat) (n:Int) (size:Nat) (l:List UInt8) (w:World) (h:kr w b l) (hl:l.length<=16777216) (hs:size<=4) (hn0:-1099511627776<=n) (hn1:n<=1099511627776) :
  Calls Tryz.prog 55 #[.pointer (some ⟨b,0,none⟩),.int .i64 n,.int .i64 size] w fun e w'=>e = .returned (.tuple #[])/\kr w' b (l ++ Lk.le n size)/\Wk b w w':=by
 obtain ⟨i0,hi,hz0,hz1,hz2⟩:=info_parts Tryz.uy;have H:=hid h;clear h;go_enter Tryz.func55,Tryz.ntmps55;go_wp2
 go_loopw [1,6] (fun m i wr=>∃ (k:Nat) (x:Int),k<=size/\i = .int .i64 k/\m = .int .i64 x/\-1099511627776<=x/\x<=1099511627776/\(∃ acc:List UInt8,acc.length=l.length+k/\kr wr b acc/\l ++ Lk.le n size=acc ++ Lk.le x (size - k))/\Wk b w wr) (fun _ i _=>size - (intOf i).toNat)
 case atStart=>exact ⟨0,n,Nat.zero_le _,rfl,rfl,hn0,hn1,⟨l,rfl,H.o,by simp⟩,Wk.refl _ _⟩
 case round =>
  obtain ⟨k,x,hk,rfl,rfl,hx0,hx1,hdone,hbel⟩:=hrel;have HD:=hid hdone;have HB:=hid hbel;clear hdone hbel;by_cases hlt:k < size
  ·obtain ⟨acc,hdl,hw,hle⟩:=HD.o;obtain ⟨ao,cap,hblk,hown⟩:=hw;have c0:=hblk.cell 0;have f0:=hblk.free 0;have hbl:=hblk.lt;have xB:=hid hblk;have KZ:=hid hle;have KS:=hid hdl;have PU:acc.length<=16777220:=by omega
   have hrow:=hid (show ∀ g,Value.ownBlock (.slice ao acc.length cap)=some g->b+1<=g from fun g hg=>(hown.lt g hg).1);clear hblk hle hdl HD;go_wp2_with (at_builtin; refine wpList_append_own _ rfl _ _ 121 rfl (b+1) 5 i0 (.int .u8 0) 1 1 Tryz.underlying121 hi hz0 hz1 hz2 rfl (by decide) (.slice ao acc.length cap) acc.length (qc acc) rfl (hown.alloc _) ⟨wr.heap.size,0,none⟩ 1 1 [.int .u8 (bits .and .i64 x 255 % 256)] rfl rfl (cell_one_new _ _ _) (by intro u hu; simp at hu; subst hu; rfl) (by unfold maxLen; omega) (by omega) (by simp; omega) ?_; intro v' w3 hown' hgrow _; obtain ⟨Jg,cap',rfl⟩:=yj hown'; have m0:=(Gp xB.o hgrow hrow.o).cell 0; have n0:=(Gp xB.o hgrow hrow.o).free 0; have P:=hid (Sq xB.o HB.o hown hgrow hrow.o (ynn hown')); clear hown' hgrow hown c0 f0)
   go_roundw
   case rel =>
    refine ⟨k+1,x / 256,by omega,by go_num,rfl,by omega,by omega,⟨acc ++ [zU x],?_,P.o.1,?_⟩,P.o.2⟩
    ·have:=KS.o; simp; omega
    ·have e:size - k=(size - (k+1))+1:=by omega
     rw [KZ.o,e];simp [Lk.le,zU]
   case measure=>simp [intOf]; omega
  ·go_wp2
   go_end0
   obtain ⟨acc,hdl,hw,hle⟩:=HD.o;have e:size - k=0:=by omega
   rw [e] at hle;simp only [Lk.le,List.append_nil] at hle;rw [hle];exact ⟨rfl,hw,HB.o⟩
end Go.Proofs.YtelehpmjhjljgaaGreatDoor
