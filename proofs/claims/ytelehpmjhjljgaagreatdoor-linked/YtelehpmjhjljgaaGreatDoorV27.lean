
import Derived.Test.YtelehpmjhjljgaaGreatDoorV26
import Derived.Laws.AppendOwn
set_option maxHeartbeats 16000000
set_option maxRecDepth 100000
namespace Go.Proofs.YtelehpmjhjljgaaGreatDoor
open Go.RowKit
theorem ymo {w:World} {B n g:Nat} (h:w.ownsRow B 3 1 (.slice (some ⟨g,0,none⟩) n n) n (madeCells (Value.int .i64 0).cells (n * 1)).toList):ye w g ((List.replicate n (0:Int)).map (Value.int .i64)).toArray 3:=by
 have e2:(madeCells (Value.int .i64 0).cells (n * 1)).toList=(List.replicate n (0:Int)).map (Value.int .i64):=by
  rw [Nat.mul_one];show (madeCells #[Value.int .i64 0] n).toList=_;rw [toList_madeCells_one];simp
 rw [e2] at h;exact M7 h
def tQ (W:World) (b:Nat) (L:List Int):Prop:=ye W b (L.map (Value.int .i64)).toArray 3
theorem tQ.set {W:World} {b:Nat} {L:List Int} (h:tQ W b L) (i:Nat) (x:Int):tQ (W.setCell ⟨b,i,none⟩ (.int .i64 x)) b (L.set i x):=by
 have:=ye.set h i (.int .i64 x)
 unfold tQ;rw [List.map_set];simpa using this
theorem tQ.cell {W:World} {b:Nat} {L:List Int} (h:tQ W b L) (i:Nat) (hi:i < L.length):W.cell? ⟨b,i,none⟩=some (.int .i64 L[i]):=by
 have:=ye.cell h i
 rw [this];simp [hi]
theorem tQ.own {W:World} {b n:Nat} {L:List Int} {base:Nat} (h:tQ W b L) (hn:L.length=n) (hb:base<=b) (hm:n<=maxLen):W.ownsRow base 3 1 (.slice (some ⟨b,0,none⟩) n n) n (L.map (Value.int .i64)) :=
 ⟨by simp [hn],.inr ⟨b,n,_,rfl,hb,h,Nat.le_refl _,hm,by simp [hn],by rw [List.take_of_length_le (by simp [hn])]⟩⟩
theorem ymc (n k:Nat) (fl:Int) (h:k < n):(List.replicate k fl ++ List.replicate (n - k) (0:Int)).set k fl=List.replicate (k+1) fl ++ List.replicate (n - (k+1)) 0:=by
 rw [List.set_append_right _ _ (by rw [List.length_replicate]; exact Nat.le_refl _),List.length_replicate,Nat.sub_self,show n - k=(n - (k+1))+1 by omega,List.replicate_succ,eX,<- List.singleton_append,<- List.append_assoc]
 congr 1
 rw [List.replicate_succ']
theorem yko (ML:List Ln.Mod) (s base fl:Int) (i:Nat) (h:i < ML.length) (pre:List Int):Ln.region ML s base fl (ML.drop i) pre=Ln.region ML s base fl (ML.drop (i+1)) (Ln.gB base fl (Ln.address ML[i] s 0) pre ++ Ln.aU ML ML[i] s 0 (yh ML[i].obj s)):=by
 rw [jg h,Ln.region];rfl
theorem yjP (P:Nat) (ao:Option Addr) (cap:Nat) (gl:List Nat) (os:List Lk.Obj) (ms:List Ln.Mod) (bt bf bd:Int) (lF:Option Addr) (pF:Nat) (w:World) (h:Laid w P ao gl os (Dl.tab bt bf bd ms) [0,Dl.ends bt bf bd ms 1,Dl.ends bt bf bd ms 2,Dl.ends bt bf bd ms 3,Dl.ends bt bf bd ms 4]) (hr:Dl.lU os ms) (hsh:vO w lF gl.length ms) (ah:Nat) (s1:1<=ah) (s3:ah<=3) (base fl:Int) (hbase:Dl.bN bt bf bd ms ah=base) (hb0:0<=base) (hb1:base<=1073741824) (hb4:base % 4=0) (n:Nat) (hn:Dl.ends bt bf bd ms ah=base+4 * (n:Int)) :
  Calls Tryz.prog 37 #[.slice ao gl.length cap,.pointer (some ⟨P,0,none⟩),.slice lF gl.length pF,.int .i64 ah,.int .i64 base,.int .i64 fl] w fun e w'=>∃ v L pre,e = .returned v/\w'.ownsRow w.heap.size 3 1 v n (L.map (Value.int .i64))/\Dl.kg fl n pre L/\pre=Ln.region (Ln.lay bt bf bd ms) ah base fl (Ln.lay bt bf bd ms) []/\w.grownBy w' none:=by
 obtain ⟨i0,hi0,hz0,hz1,hz2⟩:=info_parts Tryz.fP;have H:=hid h;have HR:=hid hr;have Fx:=hid hsh;have hgl:gl.length<=48:=by rw [h.parts.len]; exact h.parts.few
 have hml:ms.length<=48:=by have:=hr.len; have:=h.parts.few; omega
 have HV:=hid (hr.val h.parts.val);have hnl:n<=100000:=by
  have:=(Dl.iI ah s1 (by omega) ms base HV.o hb0 (by omega) ms.length).2.2
  unfold Dl.ends at hn;rw [hbase] at hn;omega
 obtain ⟨al,ca,E,l1,l2,l3,l4⟩:=h.ld.main;have ce:w.cell? ⟨E,ah,none⟩=some (.int .i64 (base+4 * (n:Int))):=by
  have:=l3 ah (by simp; omega)
  rw [this,<- hn];rcases (show ah=1\/ah=2\/ah=3 by omega) with rfl | rfl | rfl <;> rfl
 have LD:=hid (And.intro l1 l4);have i5:(ah:Int) < 5:=by omega
 have w1:IntKind.i64.wrap (base+4 * (n:Int) - base)=4 * (n:Int):=by rw [show base+4 * (n:Int) - base=4 * (n:Int) by omega]; exact IntWalk.i64_in _ ⟨by omega,by omega⟩
 have t1:Int.tdiv (4 * (n:Int)) 4=(n:Int):=by rw [Int.tdiv_eq_ediv_of_nonneg (by omega)]; omega
 have t2:(4 * (n:Int)) / 4=(n:Int):=by omega
 have w2:IntKind.i64.wrap (n:Int)=(n:Int):=IntWalk.i64_in _ ⟨by omega,by omega⟩;clear h hr hsh l1 l3 l4;go_enter Tryz.func37,Tryz.ntmps37
 go_upto_region 3 with (at_make; refine wpList_make_full _ rfl _ _ 35 rfl w.heap.size 3 i0 (.int .i64 0) 1 Tryz.underlying35 hi0 hz0 hz1 .i64 .i64 _ _ n rfl rfl rfl rfl (by rw [hz2]; omega) (by unfold maxLen; omega) (Nat.le_refl _) ?_; intro w2' hown2 hg2; have OE:=hid (ymo hown2); have G2:=hid hg2; clear hown2 hg2)
 have UE:=hid (show tQ w2' w.heap.size (List.replicate 0 fl ++ List.replicate (n - 0) 0) from OE.o);clear OE ce l2;have Jd:=hid (fun (W:World) (q:Nat) (u:Value) (hg:w.grownBy W none)=>show w.grownBy (W.setCell ⟨w.heap.size,q,none⟩ u) none from yD hg (yi W _ q u) (by intro b e; simp at e; omega));go_wp2
 go_loopw [15] (fun i wr=>∃ k:Nat,k<=n/\i = .int .i64 k/\tQ wr w.heap.size (List.replicate k fl ++ List.replicate (n - k) 0)/\w.grownBy wr none) (fun i _=>n - (intOf i).toNat)
 case atStart=>exact ⟨0,Nat.zero_le _,rfl,UE.o,G2.o⟩
 case round =>
  clear UE G2;obtain ⟨k,hk,rfl,hik,hgr⟩:=hrel;have IK:=hid hik;have HG:=hid hgr;clear hik hgr;by_cases hlt:k < n
  ·have g1:(k:Int) < (n:Int):=by omega
   have Dz:=hid (IK.o.set k fl);rw [ymc n k fl hlt] at Dz;have ck:=IK.o.cell k (by rw [fE,List.length_replicate,List.length_replicate]; omega);have fk:=ye.free IK.o k;have HG2:=hid (Jd.o wr k (.int .i64 fl) HG.o);clear IK HG;go_wp2
   go_roundw
   case rel=>exact ⟨k+1,by omega,by go_num,Dz.o,HG2.o⟩
   case measure=>simp [intOf]; omega
  ·obtain rfl:k=n:=by omega
   have g3:decide ((k:Int) < (k:Int))=false:=by simp
   have Un:=hid (show tQ wr w.heap.size (List.replicate k fl) by have:=IK.o; rw [Nat.sub_self,List.replicate_zero,List.append_nil] at this; exact this);have R0:=hid (Dl.kg.start fl k);clear IK;obtain ⟨ML,Ef⟩:∃ ML,ML=Ln.lay bt bf bd ms:=⟨_,rfl⟩
   have MLH:=hid Ef;go_wp2
   go_loopw [16] (fun i wr=>∃ (m:Nat) (pre L:List Int),m<=gl.length/\i = .int .i64 m/\Dl.kg fl k pre L/\tQ wr w.heap.size L/\base+4 * (pre.length:Int)=Dl.aR ah (ms.take m) base/\Ln.region (Ln.lay bt bf bd ms) ah base fl (Ln.lay bt bf bd ms) []=Ln.region (Ln.lay bt bf bd ms) ah base fl ((Ln.lay bt bf bd ms).drop m) pre/\w.grownBy wr none) (fun i _=>gl.length - (intOf i).toNat)
   case atStart=>exact ⟨0,[],_,Nat.zero_le _,rfl,R0.o,Un.o,by simp [Dl.aR],rfl,HG.o⟩
   case round =>
    clear Un R0 HG;obtain ⟨m,pre,L,hm,rfl,xM,hik,hbp,hrg,hgr⟩:=hrel;have RI:=hid xM;have IK:=hid hik;have ZW:=hid hbp;have Uc:=hid hrg;have HG:=hid hgr;clear xM hik hbp hrg hgr;by_cases hlm:m < gl.length
    ·have hmo:m < os.length:=by rw [<- H.o.parts.len]; exact hlm
     have him:m < ms.length:=by rw [HR.o.len]; exact hmo
     have LM:m < (Ln.lay bt bf bd ms).length:=by rw [xS]; exact him
     have VM:=hid (HV.o ms[m] (dM him));have EO:=hid (HR.o.obj m him hmo);have FV:=hid (show Dl.tab bt bf bd ms m ah=Ln.aA ms[m] ah 0 (eZ ms[m].obj ah) (Ln.rup (Dl.aR ah (ms.take m) base) (Dl.fG ms[m] ah)) by unfold Dl.tab; rw [hbase]; exact Dl.qm ah ms base m him);have MON:=Dl.iI ah s1 (by omega) ms base HV.o hb0 (by omega) m;have IY:=Dl.iI ah s1 (by omega) ms base HV.o hb0 (by omega) (m+1);have qC:=hid (Dl.sQ ah ms base m him);have hend:Dl.aR ah ms base=base+4 * (k:Int):=by unfold Dl.ends at hn; rw [hbase] at hn; exact hn
     have KA:=hid (fun (q:Nat) (hq:q<=(yh os[m] ah).length)=>show Ln.address (Ln.lay bt bf bd ms)[m] ah (4 * (q:Int))=(Dl.tab bt bf bd ms m ah).getD q 0 by
      have:=Dl.mE (bt:=bt) (bf:=bf) (bd:=bd) HV.o m ah him LM s1 (by omega) (4 * (q:Int)) (by omega) (by omega) (by rw [EO.o]; unfold kY; rw [if_neg (by omega)]; omega)
      rw [show (4 * (q:Int) / 4).toNat=q by omega] at this;exact this)
     have IV:=hid (show (eZ ms[m].obj ah)=yh os[m] ah by rw [EO.o]; exact Dl.gV os[m] ah (by omega));have OG:=hid (show (Dl.tab bt bf bd ms m ah).length=(yh os[m] ah).length+1 by rw [FV.o,QO,IV.o]);have hwl:(yh os[m] ah).length<=1200:=by have:=EY VM.o ah; rw [IV.o] at this; exact this
     obtain ⟨_,CJ⟩:=Dl.nN VM.o ah s1 (by omega);have RR:=ru (Dl.aR ah (ms.take m) base) (Dl.fG ms[m] ah) (by omega) (by omega) (by omega);have STP:=hid (fun q (hq:q < (yh os[m] ah).length)=>show (Dl.tab bt bf bd ms m ah).getD (q+1) 0=(Dl.tab bt bf bd ms m ah).getD q 0\/(Dl.tab bt bf bd ms m ah).getD (q+1) 0=(Dl.tab bt bf bd ms m ah).getD q 0+4 by rw [FV.o]; exact Dl.sK _ _ _ _ _ q (by rw [IV.o]; exact hq));have GE:=hid (fun q (hq:q<=(yh os[m] ah).length)=>show (Dl.tab bt bf bd ms m ah).getD q 0<=Dl.aR ah (ms.take (m+1)) base by rw [FV.o,qC.o]; exact Dl.wY _ _ _ _ _ q (by rw [IV.o]; exact hq));have T0:=hid (show (Dl.tab bt bf bd ms m ah).getD 0 0=Ln.rup (Dl.aR ah (ms.take m) base) (Dl.fG ms[m] ah) by rw [FV.o]; exact Dl.sM _ _ _ _ _)
     have TN:=hid (show (Dl.tab bt bf bd ms m ah).getD (yh os[m] ah).length 0=Dl.aR ah (ms.take (m+1)) base by rw [FV.o,qC.o,<- IV.o]; exact Dl.sI _ _ _ _ _);have A0:=hid (KA.o 0 (Nat.zero_le _));have g00:=GE.o 0 (Nat.zero_le _);have hbp:=ZW.o;have t00:=T0.o;have UL:=hid (RI.o.gap base (Ln.address (Ln.lay bt bf bd ms)[m] ah 0) (by have:=A0.o; simp only [Int.natCast_zero,Int.mul_zero] at this; rw [this]; omega));have IU:=hid (show base+4 * ((Ln.gB base fl (Ln.address (Ln.lay bt bf bd ms)[m] ah 0) pre).length:Int)=(Dl.tab bt bf bd ms m ah).getD 0 0 by
      have:=A0.o
      simp only [Int.natCast_zero,Int.mul_zero] at this;rw [Kw,this,t00];omega)
     have Ox:=hid (show Ln.region (Ln.lay bt bf bd ms) ah base fl (Ln.lay bt bf bd ms) []=Ln.region (Ln.lay bt bf bd ms) ah base fl ((Ln.lay bt bf bd ms).drop (m+1)) (Ln.gB base fl (Ln.address (Ln.lay bt bf bd ms)[m] ah 0) pre ++ Ln.aU (Ln.lay bt bf bd ms) (Ln.lay bt bf bd ms)[m] ah 0 ((yh os[m] ah).drop 0)) by
      rw [Uc.o,yko _ _ _ _ m LM,(HR.o.lay bt bf bd).obj m LM hmo];rfl)
     have hm1:=IY;have Vy:=hid (fun (q:Nat) W (hg:w.grownBy W none) (hq:q < (yh os[m] ah).length)=>ylX P ao cap gl os ms bt bf bd _ lF pF W (H.o.kept hg) HR.o (Fx.o.kept hg) m ah q hmo LM s1 s3 hq);obtain ⟨ga,hga,hgc⟩:=LD.o.2 (by omega);subst hga;obtain ⟨b,l5,l6⟩:=hgc m hlm;obtain ⟨au,cu,l7,l8⟩:=l6 ah s1 (by omega);obtain ⟨ag,ao4,hag,hac⟩:=l8 (by rw [OG.o]; omega);subst hag;have m1:=yc LD.o.1 HG.o;have m5:=yc l5 HG.o;have m7:=yc l7 HG.o;have Ib:=hid hac;have PG:=World.block_lt_of_cell? w _ (hac 0 (by rw [OG.o]; omega));dsimp only at PG;have j5:(m:Int) < (gl.length:Int):=by omega
     have NZ:=hid hend;clear hgc l5 l6 l7 l8 hac MON IY hend RR CJ t00 hbp g00 FV qC T0 A0;generalize Ln.gB base fl (Ln.address (Ln.lay bt bf bd ms)[m] ah 0) pre=Qr at *;generalize hTL:Dl.tab bt bf bd ms m ah=TL at *;clear hTL;have tll:=OG.o;rw [tll] at m7;go_wp2;obtain ⟨mk,hmk⟩:∃ mk,mk=(Ln.lay bt bf bd ms)[m]:=⟨_,rfl⟩
     rw [<- hmk] at Vy KA Ox;clear hmk
     go_loopw [18] (fun i wr=>∃ (q:Nat) (p2 L2:List Int),q<=(yh os[m] ah).length/\i = .int .i64 q/\Dl.kg fl k p2 L2/\tQ wr w.heap.size L2/\base+4 * (p2.length:Int)=TL.getD q 0/\Ln.region (Ln.lay bt bf bd ms) ah base fl (Ln.lay bt bf bd ms) []=Ln.region (Ln.lay bt bf bd ms) ah base fl ((Ln.lay bt bf bd ms).drop (m+1)) (p2 ++ Ln.aU (Ln.lay bt bf bd ms) mk ah q ((yh os[m] ah).drop q))/\w.grownBy wr none) (fun i _=>(yh os[m] ah).length - (intOf i).toNat)
     case atStart=>exact ⟨0,Qr,L,Nat.zero_le _,rfl,UL.o,IK.o,IU.o,Ox.o,HG.o⟩
     case round =>
      clear UL IK IU Ox HG m1 m5 m7;obtain ⟨q,p2,L2,hq,rfl,xM,hik,hbp,hrg,hgr⟩:=hrel;have Ja:=hid xM;have Dz:=hid hik;have HB2:=hid hbp;have HR2:=hid hrg;have HG2:=hid hgr;clear xM hik hbp hrg hgr;by_cases hlq:q < (yh os[m] ah).length
      ·have hq0:q < TL.length:=by omega
       have hq1:q+1 < TL.length:=by omega
       have c0:=yc (Ib.o q hq0) HG2.o;have c1:=yc (Ib.o (q+1) hq1) HG2.o;have e0:TL[q]=base+4 * (p2.length:Int):=by rw [HB2.o,iJ,gy hq0]; rfl
       have e1:TL.getD (q+1) 0=TL[q+1]:=by rw [iJ,gy hq1]; rfl
       have st:=STP.o q hlq;have ge:=GE.o (q+1) (by omega);have hen:=NZ.o;have hp2:=Ja.o.2;have Gu:=hid (show Ln.aU (Ln.lay bt bf bd ms) mk ah q ((yh os[m] ah).drop q)=if TL.getD q 0 < TL.getD (q+1) 0 then Ln.linked (Ln.lay bt bf bd ms) mk ah (4 * (q:Int)) (yh os[m] ah)[q] :: Ln.aU (Ln.lay bt bf bd ms) mk ah (q+1) ((yh os[m] ah).drop (q+1)) else Ln.aU (Ln.lay bt bf bd ms) mk ah (q+1) ((yh os[m] ah).drop (q+1)) by
        have a1:=KA.o (q+1) (by omega);rw [show (4 * ((q+1:Nat):Int))=4 * (q:Int)+4 by omega] at a1;rw [WC _ _ _ _ q hlq,KA.o q (by omega),a1])
       rw [e0] at c0;rw [e1,<- HB2.o] at st Gu;rw [e1] at ge;have gq:(q:Int)+1 < ((yh os[m] ah).length:Int)+1:=by omega
       have wq:IntKind.i64.wrap ((q:Int)+1)=(q:Int)+1:=IntWalk.i64_in _ ⟨by omega,by omega⟩;have gq2:(q:Int) < ((yh os[m] ah).length:Int):=by omega
       have gq0:(q:Int) < ((yh os[m] ah).length:Int)+1:=by omega
       have cW2:=hid (fun W hg=>Vy.o q W hg hlq);have NY:=hid e1;clear e0 e1;generalize hv2:TL[q+1]=a2 at *;generalize Ln.linked (Ln.lay bt bf bd ms) mk ah (4 * (q:Int)) (yh os[m] ah)[q]=lv at *;by_cases hst:base+4 * (p2.length:Int) < a2
       ·have d5:decide (base+4 * (p2.length:Int) < a2)=true:=by simpa using hst
        have pk:p2.length < k:=by omega
        have w5:IntKind.i64.wrap (base+4 * (p2.length:Int) - base)=4 * (p2.length:Int):=by rw [show base+4 * (p2.length:Int) - base=4 * (p2.length:Int) by omega]; exact IntWalk.i64_in _ ⟨by omega,by omega⟩
        have t5:Int.tdiv (4 * (p2.length:Int)) 4=(p2.length:Int):=by rw [Int.tdiv_eq_ediv_of_nonneg (by omega)]; omega
        have t6:(4 * (p2.length:Int)) / 4=(p2.length:Int):=by omega
        have w6:IntKind.i64.wrap (p2.length:Int)=(p2.length:Int):=IntWalk.i64_in _ ⟨by omega,by omega⟩;have g5:(p2.length:Int) < (k:Int):=by omega
        have IR:=hid (Ja.o.put pk lv);have LL:=hid (show p2.length < L2.length by rw [Ja.o.len]; exact pk);have E:=hid (show Ln.region (Ln.lay bt bf bd ms) ah base fl (Ln.lay bt bf bd ms) []=Ln.region (Ln.lay bt bf bd ms) ah base fl ((Ln.lay bt bf bd ms).drop (m+1)) ((p2 ++ [lv]) ++ Ln.aU (Ln.lay bt bf bd ms) mk ah (q+1) ((yh os[m] ah).drop (q+1))) by rw [HR2.o,Gu.o,if_pos hst,List.append_cons]);have NB:=hid (show base+4 * ((p2 ++ [lv]).length:Int)=TL.getD (q+1) 0 by rw [NY.o,fE,o7]; omega);clear Gu st ge;go_wp2
        go_quiet (fail)
        have GQ:=hid (yd HG2.o nq);have IQ:=hid (show tQ (wr.drewN nq) w.heap.size L2 from ye.drewN Dz.o nq);have d0:=yc c0 (yd (World.grownBy.refl wr none) nq);clear c0 c1 Dz HG2;have nha:ag≠w.heap.size:=by omega
        have nhb:w.heap.size≠ag:=by omega
        generalize wr.drewN nq=wz at *;go_wp2
        go_region_held3 (fun w'=>w'.cell? ⟨ag,ao4+q,none⟩=some (.int .i64 (base+4 * (p2.length:Int))))
         (first | go_keep | (simp [World.cell?_setCell_far,nha,nhb]; assumption))
         (first | (go_at_call 68; refine (cW2.o _ (yf GQ.o)).mono ?_; rintro e w' ⟨rfl,hq'⟩; have s0:=yc (yc d0 (yf (World.grownBy.refl wz none))) hq'; have Ot:=hid (show tQ w' w.heap.size L2 from ye.grown IQ.o (ya (yf (World.grownBy.refl wz none)) hq') (by simp)); have s2:=Ot.o.cell p2.length LL.o; have s3:=ye.free Ot.o p2.length))
        have G4:=hid (Jd.o w' p2.length (.int .i64 lv) (ya (yf GQ.o) hq'));have IK5:=hid (Ot.o.set p2.length lv);go_wp2
        go_roundw
        case rel=>exact ⟨q+1,p2 ++ [lv],L2.set p2.length lv,by omega,by go_num,IR.o,IK5.o,NB.o,E.o,G4.o⟩
        case measure=>simp [intOf]; omega
       ·have d5:decide (base+4 * (p2.length:Int) < a2)=false:=by simpa using hst
        have E:=hid (show Ln.region (Ln.lay bt bf bd ms) ah base fl (Ln.lay bt bf bd ms) []=Ln.region (Ln.lay bt bf bd ms) ah base fl ((Ln.lay bt bf bd ms).drop (m+1)) (p2 ++ Ln.aU (Ln.lay bt bf bd ms) mk ah (q+1) ((yh os[m] ah).drop (q+1))) by rw [HR2.o,Gu.o,if_neg hst]);have NB:=hid (show base+4 * (p2.length:Int)=TL.getD (q+1) 0 by rw [NY.o]; omega);have GQ:=hid (fun nq=>yd HG2.o nq);have IQ:=hid (fun nq=>show tQ (wr.drewN nq) w.heap.size L2 from ye.drewN Dz.o nq);clear Gu st ge;go_wp2
        go_quiet (fail)
        go_wp2
        go_roundw
        case rel=>exact ⟨q+1,p2,L2,by omega,by go_num,Ja.o,IQ.o nq,NB.o,E.o,GQ.o nq⟩
        case measure=>simp [intOf]; omega
      ·obtain rfl:q=(yh os[m] ah).length:=by omega
       have E:=hid (show Ln.region (Ln.lay bt bf bd ms) ah base fl (Ln.lay bt bf bd ms) []=Ln.region (Ln.lay bt bf bd ms) ah base fl ((Ln.lay bt bf bd ms).drop (m+1)) p2 by rw [HR2.o,List.drop_length,Ln.aU,List.append_nil]);have NB:=hid (show base+4 * (p2.length:Int)=Dl.aR ah (ms.take (m+1)) base by rw [HB2.o,TN.o]);have g6:decide (((yh os[m] ah).length:Int)+1 < ((yh os[m] ah).length:Int)+1)=false:=by simp
       go_wp2
       go_roundw
       case rel=>exact ⟨m+1,p2,L2,by omega,by go_num,Ja.o,Dz.o,NB.o,E.o,HG2.o⟩
       case measure=>simp [intOf]; omega
    ·obtain rfl:m=gl.length:=by omega
     have g4:decide ((gl.length:Int) < (gl.length:Int))=false:=by simp
     have HRF:=hid (show pre=Ln.region (Ln.lay bt bf bd ms) ah base fl (Ln.lay bt bf bd ms) [] by
      rw [Uc.o,show gl.length=(Ln.lay bt bf bd ms).length by rw [xS,HR.o.len]; exact H.o.parts.len,List.drop_length];rfl)
     have OWN:=hid (IK.o.own RI.o.len (Nat.le_refl _) (by unfold maxLen; omega));go_wp2;go_ret;exact ⟨_,L,pre,rfl,OWN.o,RI.o,HRF.o,HG.o⟩
theorem QS {ms:List Ln.Mod} {bt bf bd:Int} (hv:∀ m∈ms,yp m.obj) (hl:ms.length<=48) (ht:0<=bt/\bt<=1073741824/\bt % 4=0) (hf:0<=bf/\bf<=1073741824/\bf % 4=0) (hd:0<=bd/\bd<=1073741824/\bd % 4=0) :
  Dl.ends bt bf bd ms 1=bt+4 * ((Ln.region (Ln.lay bt bf bd ms) 1 bt 19 (Ln.lay bt bf bd ms) []).length:Int)/\Dl.ends bt bf bd ms 2=bf+4 * ((Ln.region (Ln.lay bt bf bd ms) 2 bf 19 (Ln.lay bt bf bd ms) []).length:Int)/\Dl.ends bt bf bd ms 3=bd+4 * ((Ln.region (Ln.lay bt bf bd ms) 3 bd 0 (Ln.lay bt bf bd ms) []).length:Int):=by
 have hv2:=xk (Au ms bt bf bd) hv;have ll:=xS ms bt bf bd;have ch:=WL ms bt bf bd;have c1:uU 1 Ln.Mod.text (Ln.lay bt bf bd ms) bt (uZ 1 ms bt):=Md 1 Ln.Mod.text (fun _ _=>rfl) _ _ _ _ ch.1;have c2:uU 2 Ln.Mod.far (Ln.lay bt bf bd ms) bf (uZ 2 ms bf):=Md 2 Ln.Mod.far (fun _ _=>rfl) _ _ _ _ ch.2;have c3:xV (Ln.lay bt bf bd ms) bd (Ln.bH ms bd):=WK _ _ _ _ (WX ms bt bf bd);have e1:=MU (Ln.lay bt bf bd ms) 1 (.inl rfl) Ln.Mod.text bt 19 ht.2.2 WW (Ln.lay bt bf bd ms) [] bt _ hv2 ht.1 (by rw [ll]; omega) (by simp) c1;have e2:=MU (Ln.lay bt bf bd ms) 2 (.inr rfl) Ln.Mod.far bf 19 hf.2.2 Xh (Ln.lay bt bf bd ms) [] bf _ hv2 hf.1 (by rw [ll]; omega) (by simp) c2
 have e3:=XR (Ln.lay bt bf bd ms) bd 0 hd.2.2 (Ln.lay bt bf bd ms) [] bd _ hv2 hd.1 (by rw [ll]; omega) (by simp) c3;have f1:Dl.ends bt bf bd ms 1=uZ 1 ms bt:=Dl.rR 1 (.inl rfl) ms bt;have f2:Dl.ends bt bf bd ms 2=uZ 2 ms bf:=Dl.rR 2 (.inr rfl) ms bf;have f3:Dl.ends bt bf bd ms 3=Ln.bH ms bd:=Dl.lH ms bd hv;simp only [Int.cast_ofNat_Int] at e1 e2;exact ⟨by rw [f1,<- e1],by rw [f2,<- e2],by rw [f3,<- e3]⟩
theorem Xr {ms:List Ln.Mod} (bt bf bd:Int) (hv:∀ m∈ms,yp m.obj):Ln.noughts bd ms=(Dl.ends bt bf bd ms 4 - Dl.ends bt bf bd ms 3) / 4:=by
 have f3:Dl.ends bt bf bd ms 3=Ln.bH ms bd:=Dl.lH ms bd hv;have f4:Dl.ends bt bf bd ms 4=Ln.fM ms (Ln.bH ms bd):=by
  show Dl.aR 4 ms (Dl.aR 3 ms bd)=_;rw [Dl.Bl _ _ hv,Dl.lH _ _ hv]
 rw [f3,f4];rfl
theorem QK (P:Nat) (ao:Option Addr) (cap:Nat) (gl:List Nat) (os:List Lk.Obj) (ms:List Ln.Mod) (bt bf bd:Int) (lF:Option Addr) (pF:Nat) (w:World) (h:Laid w P ao gl os (Dl.tab bt bf bd ms) [0,Dl.ends bt bf bd ms 1,Dl.ends bt bf bd ms 2,Dl.ends bt bf bd ms 3,Dl.ends bt bf bd ms 4]) (hr:Dl.lU os ms) (hsh:vO w lF gl.length ms) (ah:Nat) (s1:1<=ah) (s3:ah<=3) (base fl:Int) (hbase:Dl.bN bt bf bd ms ah=base) (hb0:0<=base) (hb1:base<=1073741824) (hb4:base % 4=0) (hn:Dl.ends bt bf bd ms ah=base+4 * ((Ln.region (Ln.lay bt bf bd ms) ah base fl (Ln.lay bt bf bd ms) []).length:Int)) :
  Calls Tryz.prog 37 #[.slice ao gl.length cap,.pointer (some ⟨P,0,none⟩),.slice lF gl.length pF,.int .i64 ah,.int .i64 base,.int .i64 fl] w fun e w'=>∃ v,e = .returned v/\w'.ownsRow w.heap.size 3 1 v (Ln.region (Ln.lay bt bf bd ms) ah base fl (Ln.lay bt bf bd ms) []).length ((Ln.region (Ln.lay bt bf bd ms) ah base fl (Ln.lay bt bf bd ms) []).map (Value.int .i64))/\w.grownBy w' none:=by
 refine (yjP P ao cap gl os ms bt bf bd lF pF w h hr hsh ah s1 s3 base fl hbase hb0 hb1 hb4 _ hn).mono ?_;rintro e w' ⟨v,L,pre,rfl,ho,xM,hpre,hg⟩
 have:=xM.done (by rw [hpre])
 subst this;rw [hpre] at ho;exact ⟨v,rfl,ho,hg⟩
namespace Im
def bytes (m:lC):List UInt8:=[73,77] ++ Lk.le m.start 4 ++ Lk.le m.text 4 ++ Lk.le m.far 4 ++ Lk.le m.data 4 ++ Lk.le (m.T.length:Int) 2 ++ Lk.le (m.F.length:Int) 2 ++ Lk.le (m.D.length:Int) 2 ++ Lk.le m.noughts 2 ++ Lk.nums m.T 4 ++ Lk.nums m.F 4 ++ Lk.nums m.D 4
end Im
structure zl (W:World) (b g:Nat) (m:Im.lC) (at_:Option Addr) (ct:Nat) (af:Option Addr) (cf:Nat) (ad:Option Addr) (cd:Nat):Prop where
 blk:ye W g #[.int .i64 m.start,.int .i64 m.text,.int .i64 m.far,.int .i64 m.data,.slice at_ m.T.length ct,.slice af m.F.length cf,.slice ad m.D.length cd,.int .i64 m.noughts] 117
 ne:g≠b
 text:xX W b at_ m.T
 far:xX W b af m.F
 data:xX W b ad m.D
structure Je (w:World) (b g:Nat) (m:Im.lC) (at_:Option Addr) (ct:Nat) (af:Option Addr) (cf:Nat) (ad:Option Addr) (cd:Nat) (l:List UInt8) (W:World):Prop where
 wr:kr W b l
 ob:zl W b g m at_ ct af cf ad cd
 be:Below b w W
section
variable {w W W':World} {b g:Nat} {m:Im.lC} {at_ af ad:Option Addr} {ct cf cd:Nat} {l l':List UInt8}
theorem zl.kept (h:zl W b g m at_ ct af cf ad cd) (hk:Wk b W W'):zl W' b g m at_ ct af cf ad cd :=
 ⟨hk.2 g _ _ h.ne (by decide) h.blk,h.ne,h.text.kept hk,h.far.kept hk,h.data.kept hk⟩
theorem Je.step (h:Je w b g m at_ ct af cf ad cd l W) (hw:kr W' b l') (hk:Wk b W W'):Je w b g m at_ ct af cf ad cd l' W' :=
 ⟨hw,h.ob.kept hk,h.be.trans hk.1⟩
end
theorem tO.toB {W:World} {g:Nat} {m:Im.lC} (h:tO W g m) (ob:Obj):∃ at_ ct af cf ad cd,zl (W.alloc ob) W.heap.size g m at_ ct af cf ad cd:=by
 obtain ⟨at_,ct,af,cf,ad,cd,hb,h1,h2,h3⟩:=h.open;have ne:∀ {e:TypeId} {size:Nat} {ao:Option Addr} {n cap:Nat} {xs:List Value},W.ownsRow 0 e size (.slice ao n cap) n xs->∀ k,Value.ownBlock (.slice ao n cap)=some k->k≠W.heap.size:=fun h k hk=>by have:=(h.lt k hk).2; omega
 refine ⟨at_,ct,af,cf,ad,cd,hb.grown (aH _ _ none) (by simp),by have:=hb.lt; omega,?_,?_,?_⟩
 ·exact xX.aB (h1.alloc _) (ne h1)
 ·exact xX.aB (h2.alloc _) (ne h2)
 ·exact xX.aB (h3.alloc _) (ne h3)
def Nf (xs:List Int):Prop:=∀ i (h:i < xs.length),-1099511627776<=xs[i]/\xs[i]<=1099511627776
theorem yiU (g:Nat) (m:Im.lC) (w:World) (h:tO w g m) (ht:Im.pq m) (hT:Nf m.T) (hF:Nf m.F) (hD:Nf m.D) :
  Calls Tryz.prog 26 #[.pointer (some ⟨g,0,none⟩)] w fun e w'=>e = .returned (.string (bs (Im.bytes m)))/\w.grownBy w' none:=by
 obtain ⟨a1,a2,a3,a4,a5,a6⟩:=ht;have HT:=hid hT;have HF:=hid hF;have HD:=hid hD;obtain ⟨at_,ct,af,cf,ad,cd,lV⟩:=h.toB (.cells #[.slice none 0 0] 123);have S0:Hd (Je w w.heap.size g m at_ ct af cf ad cd [] (w.alloc (.cells #[.slice none 0 0] 123))):=⟨ynX w,lV,(Below.refl _ _).alloc (Nat.le_refl _) _⟩
 clear lV h hT hF hD;go_enter Tryz.func26,Tryz.ntmps26;go_wp2_with fail;generalize hbb:w.heap.size=b at *;have mX:=hid hbb;clear hbb;refine Calls.bG (Je w b g m at_ ct af cf ad cd []) S0.o ?_;clear S0;intro V0 h0;have S0:=hid h0;clear h0;refine (ymN b ⟨#[73,77]⟩ [] V0 S0.o.wr (by simp) (by decide)).mono ?_;rintro e V1 ⟨rfl,hw,hk⟩;have S1:=hid (S0.o.step hw hk);clear S0;generalize hE1:[] ++ sl ⟨#[73,77]⟩=l1 at *;have n1:l1.length<=2:=by rw [<- hE1]; decide
 have E1:=hid hE1;clear hE1 hw hk;have k0:=S1.o.ob.blk.cell 0;go_wp2_with fail;refine (C8 b m.start 4 4 rfl l1 V1 S1.o.wr (by omega) (by omega) (by omega) (by omega)).mono ?_;rintro e V2 ⟨rfl,hw,hk⟩;have S2:=hid (S1.o.step hw hk);clear S1 k0;generalize hE2:l1 ++ Lk.le m.start 4=l2 at *;have n2:l2.length<=6:=by rw [<- hE2,fE,Lk.aD]; omega
 have E2:=hid hE2;clear hE2 hw hk;have k0:=S2.o.ob.blk.cell 1;go_wp2_with fail;refine (C8 b m.text 4 4 rfl l2 V2 S2.o.wr (by omega) (by omega) (by omega) (by omega)).mono ?_;rintro e V3 ⟨rfl,hw,hk⟩;have S3:=hid (S2.o.step hw hk);clear S2 k0;generalize Pm:l2 ++ Lk.le m.text 4=l3 at *;have n3:l3.length<=10:=by rw [<- Pm,fE,Lk.aD]; omega
 have E3:=hid Pm;clear Pm hw hk;have k0:=S3.o.ob.blk.cell 2;go_wp2_with fail;refine (C8 b m.far 4 4 rfl l3 V3 S3.o.wr (by omega) (by omega) (by omega) (by omega)).mono ?_;rintro e V4 ⟨rfl,hw,hk⟩;have S4:=hid (S3.o.step hw hk);clear S3 k0;generalize Pn:l3 ++ Lk.le m.far 4=l4 at *;have n4:l4.length<=14:=by rw [<- Pn,fE,Lk.aD]; omega
 have E4:=hid Pn;clear Pn hw hk;have k0:=S4.o.ob.blk.cell 3;go_wp2_with fail;refine (C8 b m.data 4 4 rfl l4 V4 S4.o.wr (by omega) (by omega) (by omega) (by omega)).mono ?_;rintro e V5 ⟨rfl,hw,hk⟩;have S5:=hid (S4.o.step hw hk);clear S4 k0;generalize Po:l4 ++ Lk.le m.data 4=l5 at *;have n5:l5.length<=18:=by rw [<- Po,fE,Lk.aD]; omega
 have E5:=hid Po;clear Po hw hk;have k0:=S5.o.ob.blk.cell 4;go_wp2_with fail;refine (C8 b (m.T.length:Int) 2 2 rfl l5 V5 S5.o.wr (by omega) (by omega) (by omega) (by omega)).mono ?_;rintro e V6 ⟨rfl,hw,hk⟩;have S6:=hid (S5.o.step hw hk);clear S5 k0;generalize Pp:l5 ++ Lk.le (m.T.length:Int) 2=l6 at *;have n6:l6.length<=20:=by rw [<- Pp,fE,Lk.aD]; omega
 have E6:=hid Pp;clear Pp hw hk;have k0:=S6.o.ob.blk.cell 5;go_wp2_with fail;refine (C8 b (m.F.length:Int) 2 2 rfl l6 V6 S6.o.wr (by omega) (by omega) (by omega) (by omega)).mono ?_;rintro e V7 ⟨rfl,hw,hk⟩;have S7:=hid (S6.o.step hw hk);clear S6 k0;generalize Pq:l6 ++ Lk.le (m.F.length:Int) 2=l7 at *;have n7:l7.length<=22:=by rw [<- Pq,fE,Lk.aD]; omega
 have E7:=hid Pq;clear Pq hw hk;have k0:=S7.o.ob.blk.cell 6;go_wp2_with fail;refine (C8 b (m.D.length:Int) 2 2 rfl l7 V7 S7.o.wr (by omega) (by omega) (by omega) (by omega)).mono ?_;rintro e V8 ⟨rfl,hw,hk⟩;have S8:=hid (S7.o.step hw hk);clear S7 k0;generalize Pt:l7 ++ Lk.le (m.D.length:Int) 2=l8 at *;have n8:l8.length<=24:=by rw [<- Pt,fE,Lk.aD]; omega
 have E8:=hid Pt;clear Pt hw hk;have k0:=S8.o.ob.blk.cell 7;go_wp2_with fail;refine (C8 b m.noughts 2 2 rfl l8 V8 S8.o.wr (by omega) (by omega) (by omega) (by omega)).mono ?_;rintro e V9 ⟨rfl,hw,hk⟩;have S9:=hid (S8.o.step hw hk);clear S8 k0;generalize Pv:l8 ++ Lk.le m.noughts 2=l9 at *;have n9:l9.length<=26:=by rw [<- Pv,fE,Lk.aD]; omega
 have E9:=hid Pv;clear Pv hw hk;have k0:=S9.o.ob.blk.cell 4;go_wp2_with fail;refine (Qz b at_ ct 4 4 rfl m.T l9 V9 S9.o.wr S9.o.ob.text (by omega) (by omega) (by omega) HT.o).mono ?_;rintro e wh ⟨rfl,hw,hk⟩;have Al:=hid (S9.o.step hw hk);clear S9 k0;generalize Ec:l9 ++ Lk.nums m.T 4=l10 at *;have n10:l10.length<=262166:=by rw [<- Ec,fE,xg]; omega
 have ZL:=hid Ec;clear Ec hw hk;have k0:=Al.o.ob.blk.cell 5;go_wp2_with fail;refine (Qz b af cf 4 4 rfl m.F l10 wh Al.o.wr Al.o.ob.far (by omega) (by omega) (by omega) HF.o).mono ?_;rintro e tX ⟨rfl,hw,hk⟩;have Am:=hid (Al.o.step hw hk);clear Al k0;generalize Ed:l10 ++ Lk.nums m.F 4=Er at *;have n11:Er.length<=524306:=by rw [<- Ed,fE,xg]; omega
 have ZM:=hid Ed;clear Ed hw hk;have k0:=Am.o.ob.blk.cell 6;go_wp2_with fail;refine (Qz b ad cd 4 4 rfl m.D Er tX Am.o.wr Am.o.ob.data (by omega) (by omega) (by omega) HD.o).mono ?_;rintro e xJ ⟨rfl,hw,hk⟩;have DU:=hid (Am.o.step hw hk);clear Am k0;generalize Ee:Er ++ Lk.nums m.D 4=JY at *;have n12:JY.length<=786446:=by rw [<- Ee,fE,xg]; omega
 have KH:=hid Ee;clear Ee hw hk;go_wp2_with fail;refine (ylM b JY xJ DU.o.wr).mono ?_;rintro e w2 ⟨rfl,rfl⟩;have FIN:=hid (show JY=Im.bytes m by rw [<- KH.o,<- ZM.o,<- ZL.o,<- E9.o,<- E8.o,<- E7.o,<- E6.o,<- E5.o,<- E4.o,<- E3.o,<- E2.o,<- E1.o]; simp [Im.bytes,sl]);have GR:=hid DU.o.be;clear DU;go_wp2;go_ret;refine ⟨by rw [FIN.o]; rfl,?_⟩;have hb:=GR.o;exact ⟨hb.os,hb.tape,hb.output,hb.size,fun i hi _=>hb.block i (by have:=mX.o; omega)⟩
namespace Ln
def jm (os:List Lk.Obj) (bt bf bd:Int):List UInt8×nW :=
 if (aM os).e≠0 then ([],aM os)
 else if (aX (dG os bt bf bd) (dh os bt bf bd)).e≠0 then ([],aX (dG os bt bf bd) (dh os bt bf bd))
 else (Im.bytes (dG os bt bf bd),ok)
end Ln
def Ar (bt bf bd:Int) (fs:List (List UInt8)) (e:Ending):Prop :=
 (∃ f:Ln.nW,f.e≠0/\e = .returned (.tuple #[.string (bs []),bJ f]) /\
  (f=mV bt bf bd \/
  (mV bt bf bd=Ln.ok/\(fs.length < 1\/8 < fs.length)/\f=⟨31,0,[]⟩) \/
  (mV bt bf bd=Ln.ok/\1<=fs.length/\fs.length<=8/\∃ i,∃ h:i < fs.length,f=⟨32,i,[]⟩/\Gq fs[i]/\∀ j (hj:j < i),∃ a os,vK (fs[j]'(by omega)) a os))) \/
 (mV bt bf bd=Ln.ok/\1<=fs.length/\fs.length<=8/\∃ (xs:List (Bool×List Lk.Obj)) (hx:xs.length=fs.length),(∀ i (h:i < fs.length),vK fs[i] (xs[i]'(by omega)).1 (xs[i]'(by omega)).2)/\e = .returned (.tuple #[.string (bs (Ln.jm (Ln.bO xs) bt bf bd).1),bJ (Ln.jm (Ln.bO xs) bt bf bd).2]))
theorem Xw {bt bf bd:Int} (h:mV bt bf bd=Ln.ok):Im.Base bt/\Im.Base bf/\Im.Base bd:=by
 have e:(mV bt bf bd).e=0:=by rw [h]; rfl
 unfold mV at e;by_cases h1:¬ Im.Base bt
 ·rw [if_pos h1] at e; cases e
 rw [if_neg h1] at e;by_cases h2:¬ Im.Base bf
 ·rw [if_pos h2] at e; cases e
 rw [if_neg h2] at e;by_cases h3:¬ Im.Base bd
 ·rw [if_pos h3] at e; cases e
 exact ⟨Classical.not_not.1 h1,Classical.not_not.1 h2,Classical.not_not.1 h3⟩
theorem yjS {fs:List (List UInt8)} {xs:List (Bool×List Lk.Obj)} (hx:xs.length=fs.length) (h8:fs.length<=8) (h:∀ i (h:i < fs.length),vK fs[i] (xs[i]'(by omega)).1 (xs[i]'(by omega)).2):(∀ o∈Ln.bO xs,yp o)/\(Ln.bO xs).length<=48:=by
 have q:∀ x∈xs,(∀ o∈x.2,yp o)/\x.2.length<=6:=by
  intro x hm;obtain ⟨i,hi,rfl⟩:=List.getElem_of_mem hm;exact Xp (h i (by omega))
 refine ⟨yku yp xs [] (fun x hm=>(q x hm).1) (by simp),?_⟩
 have:=XZ xs [] (fun x hm=>(q x hm).2)
 unfold Ln.bO;simp only [List.length_nil] at this;omega
theorem tO.flt {W:World} {I R:Nat} {img:Im.lC} {cs:Array Value} (h:tO W I img) (hb:ye W R cs 32) (a b c:Value):tO (((W.setCell ⟨R,0,none⟩ a).setCell ⟨R,1,none⟩ b).setCell ⟨R,2,none⟩ c) I img:=by
 have G:=World.grownBy.trans (World.grownBy.trans (yi W R 0 a) (yi _ R 1 b)) (yi _ R 2 c);obtain ⟨vt,vf,vd,q0,q1,q2,q3⟩:=h;have RT:=aW.blk hb;exact ⟨vt,vf,vd,yy q0 G RT (by decide),yw q1 G RT (by decide),yw q2 G RT (by decide),yw q3 G RT (by decide)⟩
theorem Nj {W:World} {R:Nat} {x y z:Value} (h:ye W R #[x,y,z] 32) (a b c:Value):ye (((W.setCell ⟨R,0,none⟩ a).setCell ⟨R,1,none⟩ b).setCell ⟨R,2,none⟩ c) R #[a,b,c] 32:=by
 simpa using ((h.set 0 a).set 1 b).set 2 c
theorem Sn {xs:List Int} (h:pY xs):Nf xs:=fun i hi=>by
 have:=h _ (dM hi)
 omega
theorem ynl (bt bf bd:Int) (af:Option Addr) (cf:Nat) (fs:List (List UInt8)) (w:World) (hin:vQ w af fs) (hsz:∀ f∈fs,f.length<=1048576) (ht:fZ w) (hn:fs.length<=1048576) :
  Calls Tryz.prog 9 #[.slice af fs.length cf,.agg #[.int .i64 bt,.int .i64 bf,.int .i64 bd]] w fun e w'=>Ar bt bf bd fs e/\w.grownBy w' none:=by
 have HT:=hid ht;have HI:=hid hin;have cG:=hid (fun W (hg:w.grownBy W none)=>ylh bt bf bd af cf fs W (HI.o.kept hg) hsz (HT.o.grown hg) hn);have hs1:(w.alloc (.cells #[.int .i64 bt,.int .i64 bf,.int .i64 bd] 27)).heap.size=w.heap.size+1:=Array.size_push _;have A1:=aH (w.alloc (.cells #[.int .i64 bt,.int .i64 bf,.int .i64 bd] 27)) (.cells #[.int .i64 0,.int .i64 0,.string ⟨#[]⟩] 32) none;have G1:=hid (ya (aH w (.cells #[.int .i64 bt,.int .i64 bf,.int .i64 bd] 27) none) A1);have BR:=hid (ye.new (w.alloc (.cells #[.int .i64 bt,.int .i64 bf,.int .i64 bd] 27)) #[.int .i64 0,.int .i64 0,.string ⟨#[]⟩] 32)
 rw [hs1] at BR;clear hin ht A1 hs1;go_enter Tryz.func9,Tryz.ntmps9;go_wp2_with fail;generalize (w.alloc (.cells #[.int .i64 bt,.int .i64 bf,.int .i64 bd] 27)).alloc (.cells #[.int .i64 0,.int .i64 0,.string ⟨#[]⟩] 32)=W1 at *;have oQ:w.heap.size<=w.heap.size+1:=by omega
 generalize w.heap.size+1=R at *;refine (cG.o _ G1.o).mono ?_;rintro e W2 ⟨hg,h2⟩;have G2:=hid (ya G1.o h2);have kU:=hid (BR.o.grown h2 (by simp));have Py:=BR.o.lt;have hR2:=kU.o.lt;have ZR:=hid h2;clear h2 cG BR;rcases hg with ⟨f,hf,rfl,hc⟩ | ⟨hb,hl1,hl2,xs,hx,P,vm,bl,gl,hfi,rfl,hga⟩
 ·have mD:=hid (show Ar bt bf bd fs (.returned (.tuple #[.string (bs []),bJ f])) from .inl ⟨f,hf,rfl,hc⟩);obtain ⟨fe,fa,fn⟩:=f;unfold bJ;dsimp only at *;have d1:(fe == 0)=false:=by simpa using hf
  have d2:(fe != 0)=true:=by simpa using hf
  have BX:=hid (ye.new W2 #[.int .i64 fe,.int .i64 fa,.string (bs fn)] 32);have AX:=hid (aH W2 (.cells #[.int .i64 fe,.int .i64 fa,.string (bs fn)] 32) none);have BF:=hid (kU.o.grown AX.o (by simp));have G3:=hid (ya G2.o AX.o);clear hf hc;go_wp2;generalize W2.alloc (.cells #[.int .i64 fe,.int .i64 fa,.string (bs fn)] 32)=V at *;have Eh:R≠W2.heap.size:=by omega
  generalize W2.heap.size=X at *;have x0:V.cell? ⟨X,0,none⟩=some (.int .i64 fe):=BX.o.cell 0;have x1:V.cell? ⟨X,1,none⟩=some (.int .i64 fa):=BX.o.cell 1;have x2:V.cell? ⟨X,2,none⟩=some (.string (bs fn)):=BX.o.cell 2;have z0:V.cell? ⟨R,0,none⟩=some (.int .i64 0):=BF.o.cell 0;have z1:V.cell? ⟨R,1,none⟩=some (.int .i64 0):=BF.o.cell 1;have z2:V.cell? ⟨R,2,none⟩=some (.string ⟨#[]⟩):=BF.o.cell 2;have f0:=BF.o.free 0;have f1:=BF.o.free 1;have f2:=BF.o.free 2
  go_region_held3 (fun w'=>w'.cell? ⟨X,0,none⟩=some (.int .i64 fe)/\w'.cell? ⟨X,1,none⟩=some (.int .i64 fa)/\w'.cell? ⟨X,2,none⟩=some (.string (bs fn)))
   (go_keep)
   (fail)
  go_wp2;have F:=uV (((BF.o.set 0 (.int .i64 fe)).set 1 (.int .i64 fa)).set 2 (.string (bs fn)));have h0:=F.cell 0;have h1:=F.cell 1;have h2:=F.cell 2;simp only [fu,fC,eX,dH,dL,dK] at h0 h1 h2;refine bodyPost_ret (v:=.tuple #[.string (bs []),bJ ⟨fe,fa,fn⟩]) ?_ rfl ⟨mD.o,yf (yx G3.o _ oQ _ _ _)⟩;clear F z0 z1 z2 f0 f1 f2;generalize World.drew _=WF at *;simp [results,Tryz.results9,go_sem,bJ,bs,h0,h1,h2]
 ·have LV:=yjS hx hl2 hfi;have FIN:=hid (fun (b:List UInt8) (f:Ln.nW) (h:Ln.jm (Ln.bO xs) bt bf bd=(b,f))=>show Ar bt bf bd fs (.returned (.tuple #[.string (bs b),bJ f])) from .inr ⟨hb,hl1,hl2,xs,hx,hfi,by rw [h]⟩);have hbs:=Xw hb;clear hb hl1 hl2 hfi;generalize Ln.bO xs=os at *;have OK:=hid (yov LV.1 LV.2 hbs.1 hbs.2.1 hbs.2.2);have RA:=hid (Rm os LV.1);have t:=BK hbs.1;have f:=BK hbs.2.1;have d:=BK hbs.2.2;have LO:=hga.fT;have AX:=aH W2 (.cells #[.int .i64 0,.int .i64 0,.string (bs [])] 32) none;have HP:=hid ((hga.prog.kept AX).f);have BX:=hid (ye.new W2 #[.int .i64 0,.int .i64 0,.string (bs [])] 32)
  have BF:=hid (kU.o.grown AX (by simp));have Eh:R≠W2.heap.size:=by omega
  have hX1:=hid ZR.o.size;have RS:=hid (show Ln.jm os bt bf bd=if (Ln.aM os).e≠0 then ([],Ln.aM os) else if (Ln.aX (Ln.dG os bt bf bd) (Ln.dh os bt bf bd)).e≠0 then ([],Ln.aX (Ln.dG os bt bf bd) (Ln.dh os bt bf bd)) else (Im.bytes (Ln.dG os bt bf bd),Ln.ok) from rfl);have N9:=hid LV.2;clear hga AX hx LV hbs;unfold bJ Ln.ok;dsimp only
  go_upto_region 4 with fail
  generalize W2.alloc (.cells #[.int .i64 0,.int .i64 0,.string (bs [])] 32)=V at *;generalize W2.heap.size=X at *;have D7:=hid (ykq V W1 P bt bf bd vm bl gl os V HP.o);generalize Ln.aM os=tf at *;obtain ⟨te,ta,tn⟩:=tf;unfold bJ aP at D7;unfold aP;dsimp only at *;go_wp2_with fail;refine D7.o.mono ?_;rintro e V3 ⟨rfl,h3⟩;have P3:=hid h3.toProgAt;have lT:=hid (h3.kf _ _ BX.o);have fF:=hid (h3.kf _ _ BF.o);clear h3 D7 HP BX BF kU;have P4:=hid (P3.o.flt lT.o hX1.o (.int .i64 te) (.int .i64 ta) (.string (bs tn)));have y9:=hid (Nj lT.o (.int .i64 te) (.int .i64 ta) (.string (bs tn)));have BF:=hid (CY fF.o Eh (.int .i64 te) (.int .i64 ta) (.string (bs tn)))
  have x0:V3.cell? ⟨X,0,none⟩=some (.int .i64 0):=lT.o.cell 0;have x1:V3.cell? ⟨X,1,none⟩=some (.int .i64 0):=lT.o.cell 1;have x2:V3.cell? ⟨X,2,none⟩=some (.string (bs [])):=lT.o.cell 2;have y0:V3.frozen? ⟨X,0,none⟩=false:=lT.o.free 0;have y1:V3.frozen? ⟨X,1,none⟩=false:=lT.o.free 1;have y2:V3.frozen? ⟨X,2,none⟩=false:=lT.o.free 2
  go_upto_region 5 with fail
  clear x0 x1 x2 y0 y1 y2 P3 lT fF;generalize (((V3.setCell ⟨X,0,none⟩ (.int .i64 te)).setCell ⟨X,1,none⟩ (.int .i64 ta)).setCell ⟨X,2,none⟩ (.string (bs tn)))=V4 at *;have x0:V4.cell? ⟨X,0,none⟩=some (.int .i64 te):=y9.o.cell 0;have x1:V4.cell? ⟨X,1,none⟩=some (.int .i64 ta):=y9.o.cell 1;have x2:V4.cell? ⟨X,2,none⟩=some (.string (bs tn)):=y9.o.cell 2;have G3:=hid (ya G1.o P4.o.gr);by_cases he:te=0
  case neg =>
   have d1:(te == 0)=false:=by simpa using he
   have d2:(te != 0)=true:=by simpa using he
   have mD:=hid (FIN.o [] ⟨te,ta,tn⟩ (by rw [RS.o,if_pos he]));clear he;go_wp2;have z0:V4.cell? ⟨R,0,none⟩=some (.int .i64 0):=BF.o.cell 0;have z1:V4.cell? ⟨R,1,none⟩=some (.int .i64 0):=BF.o.cell 1;have z2:V4.cell? ⟨R,2,none⟩=some (.string ⟨#[]⟩):=BF.o.cell 2;have f0:=BF.o.free 0;have f1:=BF.o.free 1;have f2:=BF.o.free 2
   go_region_held3 (fun w'=>w'.cell? ⟨X,0,none⟩=some (.int .i64 te)/\w'.cell? ⟨X,1,none⟩=some (.int .i64 ta)/\w'.cell? ⟨X,2,none⟩=some (.string (bs tn)))
    (go_keep)
    (fail)
   go_wp2;have F:=uV (((BF.o.set 0 (.int .i64 te)).set 1 (.int .i64 ta)).set 2 (.string (bs tn)));have h0:=F.cell 0;have h1:=F.cell 1;have h2:=F.cell 2;simp only [fu,fC,eX,dH,dL,dK] at h0 h1 h2;refine bodyPost_ret (v:=.tuple #[.string (bs []),bJ ⟨te,ta,tn⟩]) ?_ rfl ⟨mD.o,yf (yx G3.o _ oQ _ _ _)⟩;clear F z0 z1 z2 f0 f1 f2;generalize World.drew _=WF at *;simp [results,Tryz.results9,go_sem,bJ,bs,h0,h1,h2]
  case pos =>
   subst he;have UO:=hid (show Ln.jm os bt bf bd=if (Ln.aX (Ln.dG os bt bf bd) (Ln.dh os bt bf bd)).e≠0 then ([],Ln.aX (Ln.dG os bt bf bd) (Ln.dh os bt bf bd)) else (Im.bytes (Ln.dG os bt bf bd),Ln.ok) by rw [RS.o,if_neg (by simp)]);have wC:=hid (ylq V4 W1 P bt bf bd vm bl gl _ _ 0 V4 P4.o.f (fun m hm=>by rw [<- LO]; exact (RA.o m hm).nice) (fun m hm=>(RA.o m hm).obj) (fun m hm=>(RA.o m hm).short) (by omega) (by omega) (by omega));clear RS RA;unfold aP at wC;go_wp2_with fail;refine wC.o.mono ?_;rintro e V5 ⟨rfl,h5⟩;have P5:=hid (show ProgAt W1 P bt bf bd vm bl gl (Ln.dh os bt bf bd) (Ln.named os Ln.eU) (Ln.noughts bd (Ln.shorten (Ln.lay bt bf bd (Ln.bA os (os.map Ln.bare))))) V5 from h5.toProgAt)
   have AU:=hid (h5.kf _ _ y9.o);have gK:=hid (h5.kf _ _ BF.o);clear h5 wC x0 x1 x2 P4 y9 BF G3;have cB:=hid (ylU W1 P bt bf bd vm bl gl _ _ _ V5 (HT.o.grown (ya G1.o P5.o.gr)) P5.o (by rw [<- LO]; exact OK.o.nice) OK.o.valid OK.o.low OK.o.mean (by rw [<- LO]; exact OK.o.start) (by rw [<- LO]; exact N9.o) (by omega) (by omega) (by omega));unfold aP at cB;go_wp2_with fail;refine cB.o.mono ?_;rintro e V6 ⟨I,rfl,hI,h6⟩;have I6:=hid (show tO V6 I (Ln.dG os bt bf bd) from hI);have P6:=hid (P5.o.kept h6);have Ta:=hid (AU.o.grown h6 (by simp));have GZ:=hid (gK.o.grown h6 (by simp));clear hI h6 cB P5 AU gK
   have cC:=hid (ygO W1 P bt bf bd vm bl gl _ _ _ I _ V6 P6.o (by rw [<- LO]; exact OK.o.nice) I6.o OK.o.Ka);generalize Ln.aX (Ln.dG os bt bf bd) (Ln.dh os bt bf bd)=pf at *;obtain ⟨pe,pa,pn⟩:=pf;unfold aP bJ at cC;dsimp only at *;go_wp2_with fail;refine cC.o.mono ?_;rintro e V7 ⟨rfl,h7⟩;have I7:=hid (I6.o.kept h7);have P7:=hid (P6.o.kept h7);have tC:=hid (Ta.o.grown h7 (by simp));have AJ:=hid (GZ.o.grown h7 (by simp));clear h7 cC I6 P6 Ta GZ;have I8:=hid (I7.o.flt tC.o (.int .i64 pe) (.int .i64 pa) (.string (bs pn)));have P8:=hid (P7.o.flt tC.o hX1.o (.int .i64 pe) (.int .i64 pa) (.string (bs pn)))
   have KC:=hid (Nj tC.o (.int .i64 pe) (.int .i64 pa) (.string (bs pn)));have BF:=hid (CY AJ.o Eh (.int .i64 pe) (.int .i64 pa) (.string (bs pn)));have x0:V7.cell? ⟨X,0,none⟩=some (.int .i64 0):=tC.o.cell 0;have x1:V7.cell? ⟨X,1,none⟩=some (.int .i64 ta):=tC.o.cell 1;have x2:V7.cell? ⟨X,2,none⟩=some (.string (bs tn)):=tC.o.cell 2;have y0:V7.frozen? ⟨X,0,none⟩=false:=tC.o.free 0;have y1:V7.frozen? ⟨X,1,none⟩=false:=tC.o.free 1;have y2:V7.frozen? ⟨X,2,none⟩=false:=tC.o.free 2
   go_upto_region 10 with fail
   clear x0 x1 x2 y0 y1 y2 P7 tC AJ I7;generalize (((V7.setCell ⟨X,0,none⟩ (.int .i64 pe)).setCell ⟨X,1,none⟩ (.int .i64 pa)).setCell ⟨X,2,none⟩ (.string (bs pn)))=V8 at *;have x0:V8.cell? ⟨X,0,none⟩=some (.int .i64 pe):=KC.o.cell 0;have x1:V8.cell? ⟨X,1,none⟩=some (.int .i64 pa):=KC.o.cell 1;have x2:V8.cell? ⟨X,2,none⟩=some (.string (bs pn)):=KC.o.cell 2;have G3:=hid (ya G1.o P8.o.gr);by_cases he:pe=0
   case neg =>
    have d1:(pe == 0)=false:=by simpa using he
    have d2:(pe != 0)=true:=by simpa using he
    have mD:=hid (FIN.o [] ⟨pe,pa,pn⟩ (by rw [UO.o,if_pos he]));clear he;go_wp2;have z0:V8.cell? ⟨R,0,none⟩=some (.int .i64 0):=BF.o.cell 0;have z1:V8.cell? ⟨R,1,none⟩=some (.int .i64 0):=BF.o.cell 1;have z2:V8.cell? ⟨R,2,none⟩=some (.string ⟨#[]⟩):=BF.o.cell 2;have f0:=BF.o.free 0;have f1:=BF.o.free 1;have f2:=BF.o.free 2
    go_region_held3 (fun w'=>w'.cell? ⟨X,0,none⟩=some (.int .i64 pe)/\w'.cell? ⟨X,1,none⟩=some (.int .i64 pa)/\w'.cell? ⟨X,2,none⟩=some (.string (bs pn)))
     (go_keep)
     (fail)
    go_wp2;have F:=uV (((BF.o.set 0 (.int .i64 pe)).set 1 (.int .i64 pa)).set 2 (.string (bs pn)));have h0:=F.cell 0;have h1:=F.cell 1;have h2:=F.cell 2;simp only [fu,fC,eX,dH,dL,dK] at h0 h1 h2;refine bodyPost_ret (v:=.tuple #[.string (bs []),bJ ⟨pe,pa,pn⟩]) ?_ rfl ⟨mD.o,yf (yx G3.o _ oQ _ _ _)⟩;clear F z0 z1 z2 f0 f1 f2;generalize World.drew _=WF at *;simp [results,Tryz.results9,go_sem,bJ,bs,h0,h1,h2]
   case pos =>
    subst he;have mD:=hid (FIN.o (Im.bytes (Ln.dG os bt bf bd)) Ln.ok (by rw [UO.o,if_neg (by simp)]));have iw:=yjW (Ln.named os Ln.eU) bt bf bd (Ln.noughts bd (Ln.shorten (Ln.lay bt bf bd (Ln.bA os (os.map Ln.bare))))) OK.o.valid;have cW:=hid (yiU I (Ln.dG os bt bf bd) V8 I8.o OK.o.Ka (Sn iw.1) (Sn iw.2.1) (Sn iw.2.2));clear iw;go_wp2_with fail;refine cW.o.mono ?_;rintro e V9 ⟨rfl,h9⟩;have G9:=hid (ya G3.o h9);have BR:=hid (BF.o.grown h9 (by simp));clear h9 cW x0 x1 x2 P8 KC I8 BF;have z0:V9.cell? ⟨R,0,none⟩=some (.int .i64 0):=BR.o.cell 0;have z1:V9.cell? ⟨R,1,none⟩=some (.int .i64 0):=BR.o.cell 1
    have z2:V9.cell? ⟨R,2,none⟩=some (.string ⟨#[]⟩):=BR.o.cell 2;have f0:=BR.o.free 0;have f1:=BR.o.free 1;have f2:=BR.o.free 2;go_wp2;have F:=((BR.o.set 0 (.int .i64 0)).set 1 (.int .i64 0)).set 2 (.string ⟨#[]⟩);have h0:=F.cell 0;have h1:=F.cell 1;have h2:=F.cell 2;simp only [fu,fC,eX,dH,dL,dK] at h0 h1 h2;refine bodyPost_ret (v:=.tuple #[.string (bs (Im.bytes (Ln.dG os bt bf bd))),bJ Ln.ok]) ?_ rfl ⟨mD.o,yx G9.o _ oQ _ _ _⟩;clear F z0 z1 z2 f0 f1 f2;generalize World.setCell _ _ _=WF at *;simp [results,Tryz.results9,go_sem,bJ,Ln.ok,bs,h0,h1,h2]
theorem yoy (P:Nat) (ao:Option Addr) (cap:Nat) (gl:List Nat) (os:List Lk.Obj) (ms:List Ln.Mod) (bt bf bd:Int) (lF:Option Addr) (pF:Nat) (w:World) (h:Laid w P ao gl os (Dl.tab bt bf bd ms) [0,Dl.ends bt bf bd ms 1,Dl.ends bt bf bd ms 2,Dl.ends bt bf bd ms 3,Dl.ends bt bf bd ms 4]) (hr:Dl.lU os ms) (hsh:vO w lF gl.length ms) (ht:0<=bt/\bt<=1073741824/\bt % 4=0) (hf:0<=bf/\bf<=1073741824/\bf % 4=0) (hd:0<=bd/\bd<=1073741824/\bd % 4=0) (hp:∀ p,Dl.start os=some p->Dl.Ba os (Dl.tab bt bf bd ms) p) :
  Calls Tryz.prog 20 #[.slice ao gl.length cap,.pointer (some ⟨P,0,none⟩),.slice lF gl.length pF,.agg #[.int .i64 bt,.int .i64 bf,.int .i64 bd]] w fun e w'=>e = .returned (.string (bs (Im.bytes ⟨Dl.addr os (Dl.tab bt bf bd ms) (Dl.start os),bt,bf,bd,Ln.region (Ln.lay bt bf bd ms) 1 bt 19 (Ln.lay bt bf bd ms) [],Ln.region (Ln.lay bt bf bd ms) 2 bf 19 (Ln.lay bt bf bd ms) [],Ln.region (Ln.lay bt bf bd ms) 3 bd 0 (Ln.lay bt bf bd ms) [],Ln.noughts bd ms⟩)))/\w.grownBy w' none:=by
 have hml:ms.length<=48:=by have:=hr.len; have:=h.parts.few; omega
 have hv:=hr.val h.parts.val;obtain ⟨n1,n2,n3⟩:=QS hv hml ht hf hd;obtain ⟨l1,l2,l3⟩:=XK hv hml ht hf hd;have cS:=hid (fun W (hg:w.grownBy W none)=>yet ao cap gl os W (h.parts.kept hg));have cA:=hid (fun W (hg:w.grownBy W none)=>QY P ao cap gl os (Dl.tab bt bf bd ms) _ (Dl.start os) W (h.parts.kept hg) (h.ld.kept hg) hp);have c1:=hid (fun W (hg:w.grownBy W none)=>QK P ao cap gl os ms bt bf bd lF pF W (h.kept hg) hr (hsh.kept hg) 1 (by omega) (by omega) bt 19 rfl ht.1 ht.2.1 ht.2.2 n1);have c2:=hid (fun W (hg:w.grownBy W none)=>QK P ao cap gl os ms bt bf bd lF pF W (h.kept hg) hr (hsh.kept hg) 2 (by omega) (by omega) bf 19 rfl hf.1 hf.2.1 hf.2.2 n2)
 have c3:=hid (fun W (hg:w.grownBy W none)=>QK P ao cap gl os ms bt bf bd lF pF W (h.kept hg) hr (hsh.kept hg) 3 (by omega) (by omega) bd 0 rfl hd.1 hd.2.1 hd.2.2 n3);have no:=Xr bt bf bd hv;have M4:=Dl.iI 4 (by omega) (by omega) ms (Dl.ends bt bf bd ms 3) hv (by omega) (by omega) ms.length;have e4:Dl.ends bt bf bd ms 4=Dl.aR 4 ms (Dl.ends bt bf bd ms 3):=rfl;obtain ⟨al,ca,E,-,q2,q3,-⟩:=h.ld.main;have cE:w.cell? ⟨E,4,none⟩=some (.int .i64 (Dl.ends bt bf bd ms 4)):=q3 4 (by simp);have Q2:=hid q2;have CE:=hid cE;have w1:IntKind.i64.wrap (Dl.ends bt bf bd ms 4 - bd)=Dl.ends bt bf bd ms 4 - bd:=IntWalk.i64_in _ ⟨by omega,by omega⟩
 have t1:Int.tdiv (Dl.ends bt bf bd ms 4 - bd) 4=(Dl.ends bt bf bd ms 4 - bd) / 4:=Int.tdiv_eq_ediv_of_nonneg (by omega);have w2:IntKind.i64.wrap ((Dl.ends bt bf bd ms 4 - bd) / 4)=(Dl.ends bt bf bd ms 4 - bd) / 4:=IntWalk.i64_in _ ⟨by omega,by omega⟩;have w3:IntKind.i64.wrap ((Dl.ends bt bf bd ms 4 - bd) / 4 - ((Ln.region (Ln.lay bt bf bd ms) 3 bd 0 (Ln.lay bt bf bd ms) []).length:Int))=Ln.noughts bd ms:=by
  rw [show (Dl.ends bt bf bd ms 4 - bd) / 4 - ((Ln.region (Ln.lay bt bf bd ms) 3 bd 0 (Ln.lay bt bf bd ms) []).length:Int)=Ln.noughts bd ms by omega];exact IntWalk.i64_in _ ⟨by omega,by omega⟩
 clear q2 q3 cE no M4 e4;clear h hr hsh hp hv;simp only [Int.cast_ofNat_Int] at c1 c2 c3;generalize Ln.region (Ln.lay bt bf bd ms) 1 bt 19 (Ln.lay bt bf bd ms) []=R1 at *;generalize Ln.region (Ln.lay bt bf bd ms) 2 bf 19 (Ln.lay bt bf bd ms) []=R2 at *;generalize Ln.region (Ln.lay bt bf bd ms) 3 bd 0 (Ln.lay bt bf bd ms) []=R3 at *;generalize Ln.noughts bd ms=NN at *;generalize Dl.ends bt bf bd ms 4=E4 at *;generalize Dl.addr os (Dl.tab bt bf bd ms) (Dl.start os)=AD at *;generalize Dl.start os=M at *;obtain ⟨mp,mq,vB⟩:∃ mp mq:Int,iF M = .agg #[.int .i64 mp,.int .i64 mq]:=by
  cases M with
  | none=>exact ⟨-1,0,rfl⟩
  | some p=>exact ⟨p.1,p.2,rfl⟩
 rw [vB] at cS cA;clear vB;have BB:=hid (ye.new w #[.int .i64 bt,.int .i64 bf,.int .i64 bd] 27);have G1:=hid (aH w (.cells #[.int .i64 bt,.int .i64 bf,.int .i64 bd] 27) none);go_enter Tryz.func20,Tryz.ntmps20;go_wp2_with fail;generalize w.alloc (.cells #[.int .i64 bt,.int .i64 bf,.int .i64 bd] 27)=W1 at *;refine (cS.o _ G1.o).mono ?_;rintro e W2 ⟨rfl,hg2⟩;have BM:=hid (ye.new W2 #[.int .i64 mp,.int .i64 mq] 51);have g3:=ya hg2 (aH W2 (.cells #[.int .i64 mp,.int .i64 mq] 51) none);have G3:=hid (ya G1.o g3);have vT:=hid (BB.o.grown g3 (by simp));clear hg2 g3 BB G1
 go_upto_region 2 with fail
 generalize W2.alloc (.cells #[.int .i64 mp,.int .i64 mq] 51)=W3 at *;generalize W2.heap.size=Y at *;generalize w.heap.size=B at *;have m0:W3.cell? ⟨Y,0,none⟩=some (.int .i64 mp):=BM.o.cell 0;have m1:W3.cell? ⟨Y,1,none⟩=some (.int .i64 mq):=BM.o.cell 1;go_wp2_with fail;refine (cA.o _ G3.o).mono ?_;rintro e W4 ⟨rfl,hg4⟩;have G4:=hid (ya G3.o hg4);have Ck:=hid (vT.o.grown hg4 (by simp));have x0:W4.cell? ⟨B,0,none⟩=some (.int .i64 bt):=Ck.o.cell 0;clear hg4 vT G3 m0 m1 BM;go_wp2_with fail;refine (c1.o _ G4.o).mono ?_;rintro e W5 ⟨v1,rfl,ho1,hg5⟩;have G5:=hid (ya G4.o hg5);have xA:=hid (Ck.o.grown hg5 (by simp))
 have x1:W5.cell? ⟨B,1,none⟩=some (.int .i64 bf):=xA.o.cell 1;have O1:=hid ho1;clear hg5 ho1 Ck G4 x0;go_wp2_with fail;refine (c2.o _ G5.o).mono ?_;rintro e W6 ⟨v2,rfl,ho2,zH⟩;have G6:=hid (ya G5.o zH);have Az:=hid (xA.o.grown zH (by simp));have x2:W6.cell? ⟨B,2,none⟩=some (.int .i64 bd):=Az.o.cell 2;have vY:=hid (sU O1.o zH);have O2:=hid ho2;clear zH ho2 xA G5 x1 O1;go_wp2_with fail;refine (c3.o _ G6.o).mono ?_;rintro e W7 ⟨v3,rfl,ho3,JC⟩;obtain ⟨a1,k1,rfl⟩:=yj vY.o;obtain ⟨a2,k2,rfl⟩:=yj O2.o;obtain ⟨a3,k3,rfl⟩:=yj ho3;have I1:=hid (ym.aB (sU vY.o JC));have I2:=hid (ym.aB (sU O2.o JC));have I3:=hid (ym.aB ho3)
 have G7:=hid (ya G6.o JC);have u6:=hid (Az.o.grown JC (by simp));clear JC ho3 vY O2 Az G6 x2 c1 c2 c3 cA cS;have F0:=hid (World.grownBy.refl W7 none);go_wp2_with fail;refine (Cc AD 4 _ (by omega)).mono ?_;rintro e U0 ⟨rfl,r0⟩;have F1:=hid (ya F0.o r0);clear r0;have y0:U0.cell? ⟨B,0,none⟩=some (.int .i64 bt):=(u6.o.grown F1.o (by simp)).cell 0;go_wp2_with fail;refine (Cc bt 4 _ (by omega)).mono ?_;rintro e U1 ⟨rfl,r1⟩;have F2:=hid (ya F1.o r1);clear r1;have y1:U1.cell? ⟨B,1,none⟩=some (.int .i64 bf):=(u6.o.grown F2.o (by simp)).cell 1;go_wp2_with fail;refine (Cc bf 4 _ (by omega)).mono ?_;rintro e U2 ⟨rfl,r2⟩
 have F3:=hid (ya F2.o r2);clear r2;have y2:U2.cell? ⟨B,2,none⟩=some (.int .i64 bd):=(u6.o.grown F3.o (by simp)).cell 2;go_wp2_with fail;refine (Cc bd 4 _ (by omega)).mono ?_;rintro e U3 ⟨rfl,r3⟩;have F4:=hid (ya F3.o r3);clear r3;have z0:=nu AD 4 (by omega);have z1:=nu bt 4 (by omega);have z2:=nu bf 4 (by omega);have z3:=nu bd 4 (by omega);go_wp2_with fail;refine (Cc (R1.length:Int) 2 _ (by omega)).mono ?_;rintro e U4 ⟨rfl,r4⟩;have F5:=hid (ya F4.o r4);clear r4;go_wp2_with fail;refine (Cc (R2.length:Int) 2 _ (by omega)).mono ?_;rintro e U5 ⟨rfl,r5⟩;have F6:=hid (ya F5.o r5);clear r5;go_wp2_with fail
 refine (Cc (R3.length:Int) 2 _ (by omega)).mono ?_;rintro e U6 ⟨rfl,r6⟩;have F7:=hid (ya F6.o r6);clear r6;have GG:=hid (ya G7.o F7.o);have p1:=yc Q2.o GG.o;have p2:=yc CE.o GG.o;have p3:U6.cell? ⟨B,2,none⟩=some (.int .i64 bd):=(u6.o.grown F7.o (by simp)).cell 2;clear y0 y1 y2
 go_upto_region 14 with fail
 go_region_held3 (fun w'=>w'.cell? ⟨P,1,none⟩=some (.slice (some ⟨E,0,none⟩) 5 5)/\w'.cell? ⟨E,4,none⟩=some (.int .i64 E4)/\w'.cell? ⟨B,2,none⟩=some (.int .i64 bd))
  (go_keep)
  (first | (go_at_call 38; refine (Cc NN 2 _ (by omega)).mono ?_; rintro e w' ⟨rfl,hq⟩; have s0:=yc (yc p1 (yf (World.grownBy.refl U6 none))) hq; have s1:=yc (yc p2 (yf (World.grownBy.refl U6 none))) hq; have s2:=yc (yc p3 (yf (World.grownBy.refl U6 none))) hq))
 have F8:=hid (ya (yf F7.o) hq);clear hq s0 s1 s2 p1 p2 p3 GG;have z4:=nu (R1.length:Int) 2 (by omega);have z5:=nu (R2.length:Int) 2 (by omega);have z6:=nu (R3.length:Int) 2 (by omega);have z7:=nu NN 2 (by omega);go_wp2_with fail;refine (Gf a1 k1 R1 _ (I1.o.kept (fun a v hv=>yc hv F8.o)) (by omega)).mono ?_;rintro e V1 ⟨rfl,r1⟩;have F9:=hid (ya F8.o r1);clear r1;go_wp2_with fail;refine (Gf a2 k2 R2 _ (I2.o.kept (fun a v hv=>yc hv F9.o)) (by omega)).mono ?_;rintro e V2 ⟨rfl,r1⟩;have FA:=hid (ya F9.o r1);clear r1;go_wp2_with fail;refine (Gf a3 k3 R3 _ (I3.o.kept (fun a v hv=>yc hv FA.o)) (by omega)).mono ?_
 rintro e V3 ⟨rfl,r1⟩;have FB:=hid (ya G7.o (ya FA.o r1));clear r1;have x1:=vR (Lk.nums R1 4) 262140 (by rw [xg]; omega);have x2:=vR (Lk.nums R2 4) 262140 (by rw [xg]; omega);have x3:=vR (Lk.nums R3 4) 262140 (by rw [xg]; omega);go_wp2;go_ret;refine ⟨EM ?_,FB.o⟩;rw [show (⟨#[73,77]⟩:ByteArray)=bs [73,77] from rfl];simp only [yT]
 congr 1
namespace Dl
theorem zO {os:List Lk.Obj} {bt bf bd:Int} {ms:List Ln.Mod} (hm:ms=Ln.shorten (Ln.lay bt bf bd (Ln.bA os (os.map Ln.bare)))) (hr:lU os ms) (hv:∀ o∈os,yp o) (hp:Pos os) (hs:start os=(cand os bF).head?) (hl:∀ p,start os=some p->iP os p/\1<=(bD os p.1 p.2).ah) :
  Ln.dG os bt bf bd=⟨addr os (tab bt bf bd ms) (start os),bt,bf,bd,Ln.region (Ln.lay bt bf bd ms) 1 bt 19 (Ln.lay bt bf bd ms) [],Ln.region (Ln.lay bt bf bd ms) 2 bf 19 (Ln.lay bt bf bd ms) [],Ln.region (Ln.lay bt bf bd ms) 3 bd 0 (Ln.lay bt bf bd ms) [],Ln.noughts bd ms⟩:=by
 unfold Ln.dG Ln.image Ln.dh Ln.layout;rw [<- hm,<- qo hr hv (start os) hl,hs,<- iW hp];rfl
end Dl
namespace Im
instance (a b c d:Int):Decidable (gG a b c d):=by unfold gG; infer_instance
end Im
theorem M9 {a b:Bool} (h:a=b):Ending.returned (.bool a) = .returned (.bool b):=by rw [h]
theorem ylS (a b c d:Int) (w:World) :
  Calls Tryz.prog 15 #[.int .i64 a,.int .i64 b,.int .i64 c,.int .i64 d] w fun e w'=>e = .returned (.bool (decide (¬ Im.gG a b c d)))/\w'=w:=by
 by_cases c1:a=b
 ·have d1:(a == b)=true:=by simpa using c1
  have Q:=hid (show decide (¬ Im.gG a b c d)=true by simp [Im.gG,c1]);clear c1;go_enter Tryz.func15,Tryz.ntmps15;go_wp2;go_ret;exact ⟨M9 Q.o.symm,rfl⟩
 ·have d1:(a == b)=false:=by simpa using c1
  by_cases c2:c=d
  ·have d2:(c == d)=true:=by simpa using c2
   have Q:=hid (show decide (¬ Im.gG a b c d)=true by simp [Im.gG,c2]);clear c1 c2;go_enter Tryz.func15,Tryz.ntmps15;go_wp2;go_ret;exact ⟨M9 Q.o.symm,rfl⟩
  ·have d2:(c == d)=false:=by simpa using c2
   by_cases c3:b<=c
   ·have d3:decide (b<=c)=true:=by simpa using c3
    have Q:=hid (show decide (¬ Im.gG a b c d)=true by rw [decide_eq_true_iff]; intro h; have:=h.2.2.2; omega);clear c1 c2 c3;go_enter Tryz.func15,Tryz.ntmps15;go_wp2;go_ret;exact ⟨M9 Q.o.symm,rfl⟩
   ·have d3:decide (b<=c)=false:=by simpa using c3
    have Q:=hid (show decide (¬ Im.gG a b c d)=decide (d<=a) by
     rw [Bool.eq_iff_iff,decide_eq_true_iff,decide_eq_true_iff];unfold Im.gG;omega)
    clear c1 c2 c3;go_enter Tryz.func15,Tryz.ntmps15;go_wp2;go_ret;exact ⟨M9 Q.o.symm,rfl⟩
end Go.Proofs.YtelehpmjhjljgaaGreatDoor
