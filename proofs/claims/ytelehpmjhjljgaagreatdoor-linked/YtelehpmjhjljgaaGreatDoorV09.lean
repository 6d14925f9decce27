
import Derived.Test.YtelehpmjhjljgaaGreatDoorV08
import Derived.Maps.AppendAt
import Derived.BigQuiet
import Derived.BigRegion
import Derived.Deep.RegionHeld3
set_option maxHeartbeats 16000000
set_option maxRecDepth 100000
namespace Go.Proofs.YtelehpmjhjljgaaGreatDoor
open Go.RowKit
def vK (l:List UInt8) (a:Bool) (os:List Lk.Obj):Prop :=
 (a=false/\jG l/\os=[yF l])\/(a=true/\¬ jG l/\∃ ms,nH l ms/\os=ms.map yF)
def Gq (l:List UInt8):Prop:=¬ jG l/\∀ ms,¬ nH l ms
def jM (os:List Lk.Obj):List (Lk.Obj×Bool):=os.map fun o=>(o,false)
theorem Tryz.uq:(Tryz.prog.info? 144).map (fun i=>(i.zero,i.size,i.bytes))=some (some (.agg #[.pointer none,.bool false]),2,16):=by kernel_rfl
def Zk (W:World) (B:Nat) (v:Value) (a:Bool) (os:List Lk.Obj):Prop :=
 ∃ mg cap gs,v = .agg #[.bool a,.slice (some ⟨mg,0,none⟩) os.length cap]/\B<=mg/\pU W mg gs (jM os)/\os.length<=cap/\cap<=maxLen
def yjJ (B:Nat) (l:List UInt8) (e:Ending) (w':World):Prop :=
 (∃ v a os,vK l a os/\e = .returned (.tuple #[v,.bool true])/\Zk w' B v a os)\/(Gq l/\e = .returned (.tuple #[.agg #[.bool false,.slice none 0 0],.bool false]))
theorem Sz {w V:World} (h:w.grownBy V none) (r:Nat) (hr:w.heap.size<=r) (a b:Value):w.grownBy ((V.setCell ⟨r,0,none⟩ a).setCell ⟨r,1,none⟩ b) none :=
 yD (yD h (yi V r 0 a) (by intro k e; simp at e; omega)) (yi _ r 1 b) (by intro k e; simp at e; omega)
theorem Zp {V:World} {r:Nat} {cs:Array Value} {t:TypeId} (hb:ye V r cs t) (a b:Value):kR [t] V ((V.setCell ⟨r,0,none⟩ a).setCell ⟨r,1,none⟩ b) :=
 (kR.row (yi V r 0 a) (aW.blk hb) (by simp)).trans (kR.row (yi _ r 1 b) (aW.blk (hb.set 0 a)) (by simp))
theorem ypQ (V:World) (r:Nat) (a b:Value):((V.setCell ⟨r,0,none⟩ a).setCell ⟨r,1,none⟩ b).heap.size=V.heap.size:=by simp [World.setCell]
def oz (gs:List Nat):List Value:=gs.flatMap fun g=>[aP g,.bool false]
theorem ynp:∀ (gs:List Nat) (i:Nat) (h:i < gs.length),(oz gs)[i * 2]?=some (aP gs[i])/\(oz gs)[i * 2+1]?=some (.bool false):=by
 intro gs
 induction gs with
 | nil=>intro i h; simp at h
 | cons g gs ih =>
  intro i h
  cases i with
  | zero=>exact ⟨rfl,rfl⟩
  | succ i =>
   have:=ih i (by simpa using h)
   have e:oz (g :: gs)=aP g :: .bool false :: oz gs:=rfl;rw [e,show (i+1) * 2=i * 2+1+1 by omega];simp only [dL,kT];exact this
theorem ymp (gs:List Nat) (g:Nat):oz gs ++ [aP g,.bool false]=oz (gs ++ [g]):=by simp [oz]
theorem ypP (U:World) (g:Nat):∀ j u,[aP g,Value.bool false][j]?=some u->(U.alloc (.cells #[aP g,.bool false] 144)).cell? ((⟨U.heap.size,0,none⟩:Addr).add j)=some u:=by
 intro j u hu;have e:(⟨U.heap.size,0,none⟩:Addr).add j=⟨U.heap.size,j,none⟩:=by
  unfold Addr.add;by_cases h0:j=0
  ·subst h0; simp
  ·simp [h0]
 rw [e,(ye.new U #[aP g,.bool false] 144).cell j];simpa using hu
theorem XL {W:World} {mg:Nat} {gs:List Nat} {os:List Lk.Obj} {cur:Array Value} (hb:ye W mg cur 144) (ht:cur.toList.take (gs.length * 2)=oz gs) (hl:gs.length=os.length) (ho:∀ i (h:i < os.length),yq W (gs[i]'(by rw [hl]; exact h)) os[i]) (hs:∀ o∈os,o.syms.length<=65535):pU W mg gs (jM os):=by
 have fl:(jM os).length=os.length:=by simp [jM]
 refine ⟨by rw [fl]; exact hl,⟨cur,hb,fun i hi=>?_⟩,fun i hi=>?_,fun m hm=>?_⟩
 ·rw [fl] at hi;have hi2:i < gs.length:=by omega
  obtain ⟨q0,q1⟩:=ynp gs i hi2;rw [<- ht,List.getElem?_take,if_pos (by omega)] at q0;rw [<- ht,List.getElem?_take,if_pos (by omega)] at q1;have e:(jM os)[i]'(by rw [fl]; exact hi)=(os[i],false):=by simp [jM]
  rw [e];exact ⟨by simpa using q0,by simpa using q1⟩
 ·rw [fl] at hi;have e:(jM os)[i]'(by rw [fl]; exact hi)=(os[i],false):=by simp [jM]
  rw [e];exact ho i hi
 ·simp only [jM,List.mem_map] at hm;obtain ⟨o,ho',rfl⟩:=hm;exact hs o ho'
theorem yjn (s:ByteArray) (w:World) (ht:fZ w) (hs:s.size<=1048576) :
  Calls Tryz.prog 41 #[.string s] w fun e w'=>yjJ w.heap.size (sl s) e w'/\w.grownBy w' none:=by
 have G0:=hid (aH w (.cells #[.bool false,.slice none 0 0] 97) none);have B0:=hid (ye.new w #[.bool false,.slice none 0 0] 97);have cR:=hid (fun W (hg:w.grownBy W none)=>R8 s W (ht.grown hg) hs);have cM:=hid (fun W (hg:w.grownBy W none)=>ykh s W (ht.grown hg) hs);have HT:=hid ht;clear ht;go_enter Tryz.func41,Tryz.ntmps41;go_wp2_with fail;refine (cR.o _ G0.o).mono ?_;rintro e W1 ⟨hr,hg1⟩;have G1:=hid (ya G0.o hg1);have B1:=hid (B0.o.grown hg1 (by simp));clear hg1;have z0:W1.cell? ⟨w.heap.size,0,none⟩=some (.bool false):=B1.o.cell 0;have z1:W1.cell? ⟨w.heap.size,1,none⟩=some (.slice none 0 0):=B1.o.cell 1
 have f0:=B1.o.free 0;have f1:=B1.o.free 1;have hlt:=B1.o.lt;rcases hr with ⟨o,g,h1,h2,rfl,h3,h4⟩ | ⟨h1,rfl⟩
 ·have HO:=hid h3;have HI:=hid (QU h1 h2);have hne:w.heap.size≠W1.heap.size:=by omega
  have hsy:o.syms.length<=65535:=(Mw (MX h2)).1.2.2.2.2.1;clear h1 h2 h3 cM cR;go_wp2;have F2:=Zp B1.o (.bool false) (.slice (some ⟨W1.heap.size,0,none⟩) 1 1);have GF:=Sz G1.o w.heap.size (Nat.le_refl _) (.bool false) (.slice (some ⟨W1.heap.size,0,none⟩) 1 1);have SZ:=ypQ W1 w.heap.size (.bool false) (.slice (some ⟨W1.heap.size,0,none⟩) 1 1);have BR:=(B1.o.set 0 (.bool false)).set 1 (.slice (some ⟨W1.heap.size,0,none⟩) 1 1);have Ct:=F2.obj HO.o (by decide) (by decide) (by decide) (by decide);generalize (W1.setCell ⟨w.heap.size,0,none⟩ (.bool false)).setCell ⟨w.heap.size,1,none⟩ (.slice (some ⟨W1.heap.size,0,none⟩) 1 1)=V at *
  have AL:=aH V (.cells #[.pointer (some ⟨g,0,none⟩),.bool false] 144) none;have BN:=ye.new V #[.pointer (some ⟨g,0,none⟩),.bool false] 144;rw [SZ] at BN;have kU:=BR.grown AL (by simp);have h0:=kU.cell 0;have h1:=kU.cell 1;simp only [fu,fC,eX,dH,dL,dK] at h0 h1;have MM:pU (V.alloc (.cells #[.pointer (some ⟨g,0,none⟩),.bool false] 144)) W1.heap.size [g] (jM [o]):=XL BN rfl rfl (fun i hi=>by
   obtain rfl:i=0:=by simp at hi; omega
   exact Ct.kept AL) (fun x hx=>by simp at hx; subst hx; exact hsy)
  refine bodyPost_ret (v:=.tuple #[.agg #[.bool false,.slice (some ⟨W1.heap.size,0,none⟩) 1 1],.bool true]) ?_ rfl ⟨.inl ⟨_,false,[o],.inl ⟨rfl,HI.o.1,by rw [HI.o.2]⟩,rfl,W1.heap.size,1,[g],rfl,by omega,MM,by simp,by decide⟩,ya GF AL⟩;clear MM kU BR AL F2 GF BN z0 z1 f0 f1;generalize World.alloc _ _=WF at *;simp [results,Tryz.results41,go_sem,h0,h1]
 ·have HI:=hid (QD h1);clear h1 cR;go_wp2_with fail;refine (cM.o _ G1.o).mono ?_;rintro e W2 ⟨hm,hg2⟩;have G2:=hid (ya G1.o hg2);have B2:=hid (B1.o.grown hg2 (by simp));clear z0 z1 f0 f1 cM;have z0:W2.cell? ⟨w.heap.size,0,none⟩=some (.bool false):=B2.o.cell 0;have z1:W2.cell? ⟨w.heap.size,1,none⟩=some (.slice none 0 0):=B2.o.cell 1;have f0:=B2.o.free 0;have f1:=B2.o.free 1;rcases hm with ⟨ms,v,hA,rfl,hown⟩ | ⟨hA,rfl⟩
  ·obtain ⟨av,cv,rfl⟩:=yj hown;have HA:=hid hA;have HO:=hid hown;have hml:=hA.1;have Cu:=hid hA.2.1;clear hA hown z0 z1 f0 f1;have hcv:=yZ HO.o;have hX:w.heap.size < W2.heap.size:=B2.o.lt;have A3:=hid (aH W2 (.cells #[.bool true,.slice none 0 0] 97) none);have B3:=hid (ye.new W2 #[.bool true,.slice none 0 0] 97);have R3:=hid (B2.o.grown A3.o (by simp));have S3:=hid (HO.o.alloc (.cells #[.bool true,.slice none 0 0] 97));have SZ3:=hid (show (W2.alloc (.cells #[.bool true,.slice none 0 0] 97)).heap.size=W2.heap.size+1 from Array.size_push _);have G3:=hid (ya G2.o A3.o);obtain ⟨i0,hi,hz0,hz1,hz2⟩:=info_parts Tryz.uq
   go_wp2;generalize W2.alloc (.cells #[.bool true,.slice none 0 0] 97)=W3 at *;generalize W2.heap.size=X at *
   go_loopw [34] (fun i wr=>∃ (k:Nat) (gs:List Nat) (vm:Value),k<=ms.length/\i = .int .i64 k/\gs.length=k/\ye wr X #[.bool true,vm] 97/\wr.ownsRow (X+1) 144 2 vm k (oz gs)/\(∀ j (h:j < k) (h1:j < gs.length) (h2:j < ms.length),yq wr gs[j] (yF ms[j]))/\ye wr w.heap.size #[.bool false,.slice none 0 0] 97/\wr.ownsRow W1.heap.size 9 1 (.slice av ms.length cv) ms.length (eB ms)/\w.grownBy wr none/\X+1<=wr.heap.size) (fun i _=>ms.length - (intOf i).toNat)
   case atStart=>exact ⟨0,[],_,Nat.zero_le _,rfl,rfl,B3.o,World.ownsRow_nil _ _ _ _,fun j h=>by omega,R3.o,S3.o,G3.o,by rw [SZ3.o]; exact Nat.le_refl _⟩
   case round =>
    obtain ⟨k,gs,vm,hk,rfl,hgl,hb,hrow,lV,hres,hstr,hgw,hxs⟩:=hrel;obtain ⟨am,cm,rfl⟩:=yj hrow;have HB:=hid hb;have HRW:=hid hrow;have Ob:=hid lV;have zk:=hid hres;have HST:=hid hstr;have vV:=hid hgw;clear hb hrow lV hres hstr hgw B3 R3 S3;by_cases hlt:k < ms.length
    ·have Pw:=Cu.o ms[k] (dM hlt);have hsz:=Kl Pw;obtain ⟨sg,hsg,-,-,-,hsc⟩:=M8 HST.o (by omega);have ck:=hsc k hlt;rw [show (eB ms)[k]?=some (.string (bs ms[k])) by simp [eB,List.getElem?_map,gy hlt]] at ck;have cR:=hid (R8 (bs ms[k]) wr (HT.o.grown vV.o) (by rw [uY]; omega));have g1:(k:Int) < (ms.length:Int):=by omega
     have KI:=hid Pw;clear hsc Pw hsz;generalize hmk:ms[k]=mk at *;have Z9:=hid hmk;clear hmk;subst hsg;go_wp2_with fail;refine cR.o.mono ?_;rintro e U5 ⟨Qc,h5⟩;rcases Qc with ⟨o,g,q1,q2,rfl,q3,q4⟩ | ⟨q1,rfl⟩
     ·rw [Df] at q1;have EO:=hid (QU q1 q2).2;have hsy:o.syms.length<=65535:=(Mw (MX q2)).1.2.2.2.2.1;have Bd:=hid q3;have KN:=hid (HB.o.grown h5 (by simp));have Ub:=hid (HRW.o.kept h5 (by cases Value.ownBlock _ <;> simp));have TQ:=hid (fun j h h1 h2=>(Ob.o j h h1 h2).kept h5);have UR:=hid (zk.o.grown h5 (by simp));have Va:=hid (HST.o.kept h5 (by cases Value.ownBlock _ <;> simp));have Fh:=hid (ya vV.o h5);have hx5:X+1<=U5.heap.size:=Nat.le_trans hxs h5.size;clear q1 q2 q3 cR ck h5 HB HRW Ob zk HST vV;have x1:U5.cell? ⟨X,1,none⟩=some (.slice am k cm):=KN.o.cell 1;have xf:=KN.o.free 1;have hcm:=yZ Ub.o
      have CN:=hid (ypP U5 g);have AM:=hid (aH U5 (.cells #[aP g,.bool false] 144) none);have Aj:=hid (Ub.o.alloc (.cells #[aP g,.bool false] 144));have ZU:=hid (KN.o.grown AM.o (by simp));have hXr:X≠w.heap.size:=by omega
      have STEP:=hid (fun (v':Value) (w3:World) (hown':w3.ownsRow (X+1) 144 2 v' (k+1) (oz gs ++ [aP g,.bool false])) (hgrow:(U5.alloc (.cells #[aP g,.bool false] 144)).grownBy w3 (Value.ownBlock (.slice am k cm)))=>show (ye w3 X #[.bool true,.slice am k cm] 97)/\∃ (gs':List Nat),gs'.length=k+1/\ye (w3.setCell ⟨X,1,none⟩ v') X #[.bool true,v'] 97/\(w3.setCell ⟨X,1,none⟩ v').ownsRow (X+1) 144 2 v' (k+1) (oz gs')/\(∀ j (h:j < k+1) (h1:j < gs'.length) (h2:j < ms.length),yq (w3.setCell ⟨X,1,none⟩ v') gs'[j] (yF ms[j]))/\ye (w3.setCell ⟨X,1,none⟩ v') w.heap.size #[.bool false,.slice none 0 0] 97/\(w3.setCell ⟨X,1,none⟩ v').ownsRow W1.heap.size 9 1 (.slice (some ⟨sg,0,none⟩) ms.length cv) ms.length (eB ms)/\w.grownBy (w3.setCell ⟨X,1,none⟩ v') none/\X+1<=(w3.setCell ⟨X,1,none⟩ v').heap.size by
       have RT:=aW.own Aj.o;have b3:=yy ZU.o hgrow RT (by decide);have gS:=yi w3 X 1 v';have RP:=aW.blk b3;refine ⟨b3,gs ++ [g],by simp [hgl],b3.set 1 v',?_,fun j h h1 h2=>?_,?_,?_,?_,?_⟩
       ·rw [<- ymp];exact yw hown' gS RP (by decide)
       ·by_cases hjk:j < k
        ·rw [List.getElem_append_left (by omega)];exact oK (oK ((TQ.o j hjk (by omega) h2).kept AM.o) hgrow RT (by decide) (by decide) (by decide) (by decide)) gS RP (by decide) (by decide) (by decide) (by decide)
        ·obtain rfl:j=k:=by omega
         have e1:(gs ++ [g])[j]=g:=by simp [<- hgl]
         rw [e1,Z9.o,EO.o];exact oK (oK (Bd.o.kept AM.o) hgrow RT (by decide) (by decide) (by decide) (by decide)) gS RP (by decide) (by decide) (by decide) (by decide)
       ·exact (yy (UR.o.grown AM.o (by simp)) hgrow RT (by decide)).grown gS (by simp; omega)
       ·exact yw (yw (Va.o.alloc _) hgrow RT (by decide)) gS RP (by decide)
       ·exact yD (yD (ya Fh.o AM.o) hgrow (fun b e=>by have:=(Aj.o.lt b e).1; omega)) gS (by intro b e; simp at e; omega)
       ·have:=gS.size
        have:=hgrow.size
        have:=AM.o.size
        omega)
      clear TQ Bd UR Va Fh KN;unfold aP at CN Aj STEP;go_wp2_with (at_builtin; refine QE _ rfl _ _ 95 rfl (X+1) 144 i0 (.agg #[.pointer none,.bool false]) 2 16 Tryz.underlying95 hi hz0 hz1 hz2 rfl (by decide) _ _ _ rfl Aj.o ⟨U5.heap.size,0,none⟩ 1 1 [.pointer (some ⟨g,0,none⟩),.bool false] rfl rfl CN.o (by intro u hu; simp at hu; rcases hu with rfl | rfl <;> rfl) (by unfold maxLen; omega) (by omega) (by simp; omega) ?_; intro v' w3 hown' hgrow hblk; obtain ⟨jN,cv',rfl⟩:=yj hown'; obtain ⟨b3,gs',r1,r2,r3,r4,r5,r6,r7,r8⟩:=STEP.o _ _ hown' hgrow; have k1:=b3.cell 1; have k1f:=b3.free 1; have Q1:=hid r2; have Q2:=hid r3; have Q3:=hid r4; have Q4:=hid r5; have Q5:=hid r6; have Q6:=hid r7; have Q7:=hid r8; clear hgrow hown' b3 r2 r3 r4 r5 r6 r7 r8 hblk)
      go_roundw
      case rel=>exact ⟨k+1,gs',_,by omega,by go_num,r1,Q1.o,Q2.o,Q3.o,Q4.o,Q5.o,Q6.o,Q7.o⟩
      case measure=>simp [intOf]; omega
     ·exact absurd KI.o (QD (by rw [Df] at q1; exact q1))
    ·obtain rfl:k=ms.length:=by omega
     have g3:decide ((ms.length:Int) < (ms.length:Int))=false:=by simp
     have x0:wr.cell? ⟨X,0,none⟩=some (.bool true):=HB.o.cell 0;have x1:wr.cell? ⟨X,1,none⟩=some (.slice am ms.length cm):=HB.o.cell 1;have z0:wr.cell? ⟨w.heap.size,0,none⟩=some (.bool false):=zk.o.cell 0;have z1:wr.cell? ⟨w.heap.size,1,none⟩=some (.slice none 0 0):=zk.o.cell 1;have f0:=zk.o.free 0;have f1:=zk.o.free 1;have hXr:X≠w.heap.size:=by omega
     have aae:w.heap.size≠X:=by omega
     go_wp2;have F2:=Zp zk.o (.bool true) (.slice am ms.length cm);have GF:=Sz vV.o w.heap.size (Nat.le_refl _) (.bool true) (.slice am ms.length cm);have BR:=(zk.o.set 0 (.bool true)).set 1 (.slice am ms.length cm);have h0:=BR.cell 0;have h1:=BR.cell 1;simp only [fu,fC,eX,dH,dL,dK] at h0 h1;have UU:=F2.own HRW.o (by decide);have FA:Zk ((wr.setCell ⟨w.heap.size,0,none⟩ (.bool true)).setCell ⟨w.heap.size,1,none⟩ (.slice am ms.length cm)) w.heap.size (.agg #[.bool true,.slice am ms.length cm]) true (ms.map yF):=by
      rcases UU.2 with ⟨q1,q2⟩ | ⟨mg,cap,cur,hv,hb,hg,r3,r4,r5,r6⟩
      ·omega
      ·simp only [Value.slice.injEq] at hv;obtain ⟨rfl,-,rfl⟩:=hv;refine ⟨mg,cm,gs,by simp,by omega,XL hg (by rw [hgl]; exact r6) (by simp [hgl]) (fun i hi=>?_) (fun o ho=>?_),by simpa using r3,r4⟩
       ·simp only [jc] at hi;rw [List.getElem_map];exact F2.obj (Ob.o i hi (by omega) hi) (by decide) (by decide) (by decide) (by decide)
       ·obtain ⟨m,hm,rfl⟩:=List.mem_map.1 ho;exact (Mw (MX (Cu.o m hm).1)).1.2.2.2.2.1
     refine bodyPost_ret (v:=.tuple #[.agg #[.bool true,.slice am ms.length cm],.bool true]) ?_ rfl ⟨.inl ⟨_,true,ms.map yF,.inr ⟨rfl,HI.o,ms,HA.o,rfl⟩,rfl,FA⟩,GF⟩;clear FA UU BR GF F2 x0 x1 z0 z1 f0 f1;generalize World.setCell _ _ _=WF at *;simp [results,Tryz.results41,go_sem,h0,h1]
  ·have N:=hid (show Gq (sl s) from ⟨HI.o,hA⟩);clear hA;go_wp2;have BR:=(B2.o.set 0 (.bool false)).set 1 (.slice none 0 0);have h0:=BR.cell 0;have h1:=BR.cell 1;simp only [fu,fC,eX,dH,dL,dK] at h0 h1;refine bodyPost_ret (v:=.tuple #[.agg #[.bool false,.slice none 0 0],.bool false]) ?_ rfl ⟨.inr ⟨N.o,rfl⟩,Sz G2.o w.heap.size (Nat.le_refl _) _ _⟩;clear BR z0 z1 f0 f1;generalize World.setCell _ _ _=WF at *;simp [results,Tryz.results41,go_sem,h0,h1]
namespace Ln
def dV (os:List Lk.Obj) (x:Bool×List Lk.Obj):List Lk.Obj:=if x.1 then dJ (x.2.length+1) (jM x.2) os else os ++ x.2
def bO (xs:List (Bool×List Lk.Obj)):List Lk.Obj:=xs.foldl dV []
end Ln
theorem Mv (os:List Lk.Obj):(jM os).length=os.length:=by simp [jM]
theorem Mr (os:List Lk.Obj):nI (jM os)=os.length:=by
 unfold nI jM;rw [List.filter_eq_self.2 (by intro x hx; obtain ⟨o,_,rfl⟩:=List.mem_map.1 hx; rfl),jc]
theorem yjy (W0:World) (P:Nat) (bt bf bd:Int) (vm:Value) (bl gl:List Nat) (os:List Lk.Obj) (mg cm:Nat) (gs:List Nat) (a:Bool) (ms:List Lk.Obj) (W:World) (h:nJ W0 P bt bf bd vm bl gl os W) (hm:pU W mg gs (jM ms)) (hc:bl.length+ms.length<=4096) (hml:W0.heap.size<=mg) (hcm:ms.length<=cm/\cm<=maxLen) :
  Calls Tryz.prog 42 #[aP P,.agg #[.bool a,.slice (some ⟨mg,0,none⟩) ms.length cm]] W fun e W'=>e = .returned (.tuple #[])/\(∃ Kc Ji Jt,nJ W0 P bt bf bd Kc Ji Jt (Ln.dV os (a,ms)) W'/\Ji.length<=bl.length+ms.length)/\qP [101,105] mg W W':=by
 have A0:=hid (aH W (.cells #[.bool a,.slice (some ⟨mg,0,none⟩) ms.length cm] 97) none);have B0:=hid (ye.new W #[.bool a,.slice (some ⟨mg,0,none⟩) ms.length cm] 97);have H0:=hid (h.kept A0.o);have M0:=hid (hm.kept A0.o);have F0:=hid ((kR.grown (ts:=[101,105]) A0.o).x mg);have hcm2:=hcm.2;unfold maxLen at hcm2;have hmm:mg < W.heap.size:=by
  obtain ⟨cur,hb,-⟩:=hm.row;exact hb.lt
 clear h hm
 cases a with
 | true =>
  have cT:=hid (yhk W0 P bt bf bd vm bl gl os mg cm gs (jM ms) _ H0.o M0.o (by rw [Mr]; omega) hml (by rw [Mv]; omega) (by rw [Mv]; exact hcm));rw [Mv,Mr] at cT;have E:=hid (show Ln.dV os (true,ms)=Ln.dJ (ms.length+1) (jM ms) os from rfl);unfold aP at *;go_enter Tryz.func42,Tryz.ntmps42;go_wp2_with fail;refine cT.o.mono ?_;rintro e W5 ⟨rfl,hg,hf⟩;have HG:=hid hg;have HF:=hid (F0.o.trans hf);clear hg hf cT;go_wp2
  (try simp only [Exit.inBlock,Exit.then]); refine bodyPost_ret (results_none rfl _ _ _) rfl ?_
  rw [E.o];exact ⟨rfl,HG.o,HF.o⟩
 | false =>
  have E:=hid (show Ln.dV os (false,ms)=os ++ ms from rfl);unfold aP at *;go_enter Tryz.func42,Tryz.ntmps42;go_wp2;generalize W.alloc (.cells #[.bool false,.slice (some ⟨mg,0,none⟩) ms.length cm] 97)=W1 at *
  go_loopw [15] (fun i wr=>∃ (k:Nat) (jO qh:List Nat) (BJ:Value),k<=ms.length/\i = .int .i64 k/\nJ W0 P bt bf bd BJ jO qh (os ++ ms.take k) wr/\pU wr mg gs (jM ms)/\jO.length=bl.length+k/\qP [101,105] mg W wr) (fun i _=>ms.length - (intOf i).toNat)
  case atStart=>exact ⟨0,bl,gl,vm,Nat.zero_le _,rfl,by simpa using H0.o,M0.o,rfl,F0.o⟩
  case round =>
   obtain ⟨k,jO,qh,BJ,hk,rfl,hg,hm,hb,hf⟩:=hrel;have HG:=hid hg;have HM:=hid hm;have HF:=hid hf;clear hg hm hf H0 M0 F0;by_cases hlt:k < ms.length
   ·have hk2:k < (jM ms).length:=by rw [Mv]; exact hlt
    obtain ⟨m0,m1,-⟩:=HM.o.cells k hk2;have OB:=hid (HM.o.objs k hk2);have SY:=HM.o.syms _ (dM hk2);have e1:(jM ms)[k]=(ms[k],false):=by simp [jM]
    rw [e1] at m1 OB SY;dsimp only at m1 OB SY;have TK:=hid (show ms.take (k+1)=ms.take k ++ [ms[k]] from List.take_succ_eq_append_getElem hlt);unfold aP at m0;generalize gs[k]'_=gj at *;generalize ms[k]=oj at *;have g1:(k:Int) < (ms.length:Int):=by omega
    have AL:=hid (aH wr (.cells #[.pointer (some ⟨gj,0,none⟩),.bool false] 144) none);have cT:=hid (YE W0 P bt bf bd BJ jO qh (os ++ ms.take k) gj oj _ (HG.o.kept AL.o) (OB.o.kept AL.o) (by omega) SY);have Cq:=hid (HM.o.kept AL.o);have iq:=hid (HF.o.trans ((kR.grown AL.o).x mg));clear e1;unfold aP at cT;go_wp2_with fail;refine cT.o.mono ?_;rintro e W7 ⟨rfl,⟨Ws,b7,h7⟩,f7⟩;have Il:=hid h7;have iR:=hid (Cq.o.frame f7 (by decide) (by decide) (by decide) (by decide) (by decide));have Ii:=hid (iq.o.trans (f7.x mg));clear h7 f7 cT m0 m1;go_wp2
    go_roundw
    case rel=>exact ⟨k+1,_,_,_,by omega,by go_num,by rw [TK.o,<- List.append_assoc]; exact Il.o,iR.o,by simp; omega,Ii.o⟩
    case measure=>simp [intOf]; omega
   ·obtain rfl:k=ms.length:=by omega
    have g3:decide ((ms.length:Int) < (ms.length:Int))=false:=by simp
    go_wp2
    go_end0
    rw [E.o];exact ⟨rfl,⟨BJ,jO,qh,by have:=HG.o; rw [List.take_length] at this; exact this,by omega⟩,HF.o⟩
def vQ (w:World) (ao:Option Addr) (fs:List (List UInt8)):Prop :=
 0 < fs.length->∃ g off,ao=some ⟨g,off,none⟩/\∀ i (h:i < fs.length),w.cell? ⟨g,off+i,none⟩=some (.string (bs fs[i]))
theorem vQ.kept {w w':World} {ao:Option Addr} {fs:List (List UInt8)} (h:vQ w ao fs) (hg:w.grownBy w' none):vQ w' ao fs:=by
 intro hp;obtain ⟨g,off,e,hc⟩:=h hp;exact ⟨g,off,e,fun i hi=>yc (hc i hi) hg⟩
theorem Tryz.zP:(Tryz.prog.info? 97).map (fun i=>(i.zero,i.size,i.bytes))=some (some (.agg #[.bool false,.slice none 0 0]),2,32):=by kernel_rfl
structure FR where
 a:Bool
 mg:Nat
 n:Nat
 cap:Nat
def Gt (r:FR):List Value:=[.bool r.a,.slice (some ⟨r.mg,0,none⟩) r.n r.cap]
def vP (W:World) (r:FR) (x:Bool×List Lk.Obj):Prop:=r.a=x.1/\r.n=x.2.length/\∃ gs,pU W r.mg gs (jM x.2)/\x.2.length<=r.cap/\r.cap<=maxLen
structure Ce (W:World) (B:Nat) (v:Value) (fl:List FR) (xs:List (Bool×List Lk.Obj)):Prop where
 len:fl.length=xs.length
 row:W.ownsRow B 97 2 v xs.length (fl.flatMap Gt)
 at_:∀ i (h:i < xs.length),vP W (fl[i]'(by rw [len]; exact h)) xs[i]
 pair:fl.Pairwise (fun r s=>r.mg < s.mg)
 bnd:∀ r∈fl,B<=r.mg/\r.mg < W.heap.size
section
variable {W W' w3:World} {B:Nat} {v v':Value} {r:FR} {fl:List FR} {xs:List (Bool×List Lk.Obj)} {x:Bool×List Lk.Obj}
theorem vP.frame {ts:List TypeId} (h:vP W r x) (hf:kR ts W W') (h0:144 ∉ ts) (h1:75 ∉ ts) (h2:3 ∉ ts) (h3:77 ∉ ts) (h4:83 ∉ ts):vP W' r x:=by
 obtain ⟨q0,q1,gs,q2,q3⟩:=h;exact ⟨q0,q1,gs,q2.frame hf h0 h1 h2 h3 h4,q3⟩
theorem vP.Eb {ts:List TypeId} {mg:Nat} (h:vP W r x) (hf:qP ts mg W W') (hne:r.mg≠mg) (hO:∀ g o,yq W g o->yq W' g o) (h0:144 ∉ ts):vP W' r x:=by
 obtain ⟨q0,q1,gs,q2,q3⟩:=h;obtain ⟨cur,hb,hc⟩:=q2.row;exact ⟨q0,q1,gs,⟨q2.len,⟨cur,hf _ _ _ hb h0 hne,hc⟩,fun i hi=>hO _ _ (q2.objs i hi),q2.syms⟩,q3⟩
theorem qP.frame {ts:List TypeId} {mg:Nat} {cur:Array Value} {t0:TypeId} (hf:qP ts mg W W') (hb:ye W mg cur t0):kR (t0 :: ts) W W':=fun k cs t hk ht=>hf k cs t hk (fun c=>ht (List.mem_cons_of_mem _ c)) (by
 rintro rfl
 have:=hb.symm.trans hk
 simp at this;exact ht (by rw [this.2]; exact List.mem_cons_self))
theorem vP.kept (h:vP W r x) (hg:W.grownBy W' none):vP W' r x:=h.frame (ts:=[]) (kR.grown hg) (by simp) (by simp) (by simp) (by simp) (by simp)
theorem Ce.kept (h:Ce W B v fl xs) (hg:W.grownBy W' none):Ce W' B v fl xs :=
 ⟨h.len,h.row.kept hg (by cases v.ownBlock <;> simp),fun i hi=>(h.at_ i hi).kept hg,h.pair,fun m hm=>⟨(h.bnd m hm).1,Nat.lt_of_lt_of_le (h.bnd m hm).2 hg.size⟩⟩
theorem Ce.more (h:Ce W B v fl xs) (hf:vP W r x) (hmg:∀ q∈fl,q.mg < r.mg) (hB:B<=r.mg) (hmw:r.mg < W.heap.size) (hown:w3.ownsRow B 97 2 v' (xs.length+1) (fl.flatMap Gt ++ Gt r)) (hg:W.grownBy w3 v.ownBlock):Ce w3 B v' (fl ++ [r]) (xs ++ [x]):=by
 have FR:kR [97] W w3:=kR.row hg (aW.own h.row) (by simp);refine ⟨by simp [h.len],by simpa using hown,fun i hi=>?_,?_,fun m hm=>?_⟩
 ·by_cases hlt:i < xs.length
  ·rw [List.getElem_append_left (by rw [h.len]; exact hlt),List.getElem_append_left hlt];exact (h.at_ i hlt).frame FR (by decide) (by decide) (by decide) (by decide) (by decide)
  ·have hi2:i=xs.length:=by simp at hi; omega
   subst hi2;have e2:(fl ++ [r])[xs.length]'(by simp [h.len])=r:=by simp [<- h.len]
   have e3:(xs ++ [x])[xs.length]=x:=by simp
   rw [e2,e3];exact hf.frame FR (by decide) (by decide) (by decide) (by decide) (by decide)
 ·rw [List.pairwise_append];exact ⟨h.pair,List.pairwise_singleton _ _,fun y hy z hz=>by simp at hz; subst hz; exact hmg y hy⟩
 ·rcases List.mem_append.1 hm with hm | hm
  ·exact ⟨(h.bnd m hm).1,Nat.lt_of_lt_of_le (h.bnd m hm).2 hg.size⟩
  ·simp at hm; subst hm; exact ⟨hB,Nat.lt_of_lt_of_le hmw hg.size⟩
end
theorem ypO (U:World) (b:Bool) (Qv:Value):∀ j u,[Value.bool b,Qv][j]?=some u->(U.alloc (.cells #[.bool b,Qv] 97)).cell? ((⟨U.heap.size,0,none⟩:Addr).add j)=some u:=by
 intro j u hu;have e:(⟨U.heap.size,0,none⟩:Addr).add j=⟨U.heap.size,j,none⟩:=by
  unfold Addr.add;by_cases h0:j=0
  ·subst h0; simp
  ·simp [h0]
 rw [e,(ye.new U #[.bool b,Qv] 97).cell j];simpa using hu
def ylP (W0:World) (bt bf bd:Int) (fs:List (List UInt8)) (e:Ending) (w':World):Prop :=
 (∃ f:Ln.nW,f.e≠0/\e = .returned (.tuple #[.pointer none,bJ f]) /\
  (f=mV bt bf bd \/
  (mV bt bf bd=Ln.ok/\(fs.length < 1\/8 < fs.length)/\f=⟨31,0,[]⟩) \/
  (mV bt bf bd=Ln.ok/\1<=fs.length/\fs.length<=8/\∃ i,∃ h:i < fs.length,f=⟨32,i,[]⟩/\Gq fs[i]/\∀ j (hj:j < i),∃ a os,vK (fs[j]'(by omega)) a os))) \/
 (mV bt bf bd=Ln.ok/\1<=fs.length/\fs.length<=8/\∃ (xs:List (Bool×List Lk.Obj)) (hx:xs.length=fs.length) (P:Nat) (vm:Value) (bl gl:List Nat),(∀ i (h:i < fs.length),vK fs[i] (xs[i]'(by omega)).1 (xs[i]'(by omega)).2)/\e = .returned (.tuple #[aP P,bJ Ln.ok])/\nJ W0 P bt bf bd vm bl gl (Ln.bO xs) w')
theorem uV {w:World} {g:Nat} {cs:Array Value} {t:TypeId} (h:ye w g cs t):ye w.drew g cs t:=h.drewN 1
theorem yol (bt bf bd:Int) (f:Ln.nW) (h:f=mV bt bf bd) (he:f.e=0):f=Ln.ok:=by
 subst h;unfold mV at he ⊢;by_cases h1:¬ Im.Base bt
 ·rw [if_pos h1] at he; cases he
 rw [if_neg h1] at he ⊢;by_cases h2:¬ Im.Base bf
 ·rw [if_pos h2] at he; cases he
 rw [if_neg h2] at he ⊢;by_cases h3:¬ Im.Base bd
 ·rw [if_pos h3] at he; cases he
 rw [if_neg h3]
theorem ylh (bt bf bd:Int) (af:Option Addr) (cf:Nat) (fs:List (List UInt8)) (w:World) (hin:vQ w af fs) (hsz:∀ f∈fs,f.length<=1048576) (ht:fZ w) (hn:fs.length<=1048576) :
  Calls Tryz.prog 21 #[.slice af fs.length cf,.agg #[.int .i64 bt,.int .i64 bf,.int .i64 bd]] w fun e w'=>ylP w bt bf bd fs e w'/\w.grownBy w' none:=by
 have cB:=hid (fun W=>yhz bt bf bd W);have hs1:(w.alloc (.cells #[.int .i64 bt,.int .i64 bf,.int .i64 bd] 27)).heap.size=w.heap.size+1:=Array.size_push _;have A1:=aH (w.alloc (.cells #[.int .i64 bt,.int .i64 bf,.int .i64 bd] 27)) (.cells #[.int .i64 0,.int .i64 0,.string ⟨#[]⟩] 32) none;have G1:=hid (ya (aH w (.cells #[.int .i64 bt,.int .i64 bf,.int .i64 bd] 27) none) A1);have BB:=hid ((ye.new w #[.int .i64 bt,.int .i64 bf,.int .i64 bd] 27).grown A1 (by simp));have BF:=hid (ye.new (w.alloc (.cells #[.int .i64 bt,.int .i64 bf,.int .i64 bd] 27)) #[.int .i64 0,.int .i64 0,.string ⟨#[]⟩] 32);rw [hs1] at BF
 have HI:=hid hin;have HT:=hid ht;clear hs1 A1 hin ht;obtain ⟨f,hf⟩:∃ f,f=mV bt bf bd:=⟨_,rfl⟩
 rw [<- hf] at cB;have AZ:=hid hf;clear hf;unfold bJ at cB;go_enter Tryz.func21,Tryz.ntmps21;go_wp2_with fail;refine (cB.o _).mono ?_;rintro e W2 ⟨rfl,h2⟩;have G2:=hid (ya G1.o h2);have tu:=hid (BB.o.grown h2 (by simp));have xZ:=hid (BF.o.grown h2 (by simp));clear h2 cB BB BF G1;have z0:W2.cell? ⟨w.heap.size+1,0,none⟩=some (.int .i64 0):=xZ.o.cell 0;have z1:W2.cell? ⟨w.heap.size+1,1,none⟩=some (.int .i64 0):=xZ.o.cell 1;have z2:W2.cell? ⟨w.heap.size+1,2,none⟩=some (.string ⟨#[]⟩):=xZ.o.cell 2;have f0:=xZ.o.free 0;have f1:=xZ.o.free 1;have f2:=xZ.o.free 2;have hlF:=xZ.o.lt;have hnF:w.heap.size+1≠W2.heap.size:=by omega
 by_cases he:f.e=0
 case neg =>
  have d1:(f.e == 0)=false:=by simpa using he
  have HE:=hid he;go_wp2;have BX:=hid (ye.new W2 #[.int .i64 f.e,.int .i64 f.at_,.string (bs f.name)] 32);have AX:=hid (aH W2 (.cells #[.int .i64 f.e,.int .i64 f.at_,.string (bs f.name)] 32) none);have Ad:=hid (xZ.o.grown AX.o (by simp));have G3:=hid (ya G2.o AX.o);clear z0 z1 z2 f0 f1 f2;generalize hV:W2.alloc (.cells #[.int .i64 f.e,.int .i64 f.at_,.string (bs f.name)] 32)=V at *;generalize hX:W2.heap.size=X at *;have z0:V.cell? ⟨w.heap.size+1,0,none⟩=some (.int .i64 0):=Ad.o.cell 0;have z1:V.cell? ⟨w.heap.size+1,1,none⟩=some (.int .i64 0):=Ad.o.cell 1;have z2:V.cell? ⟨w.heap.size+1,2,none⟩=some (.string ⟨#[]⟩):=Ad.o.cell 2
  have f0:=Ad.o.free 0;have f1:=Ad.o.free 1;have f2:=Ad.o.free 2;have x0:V.cell? ⟨X,0,none⟩=some (.int .i64 f.e):=BX.o.cell 0;have x1:V.cell? ⟨X,1,none⟩=some (.int .i64 f.at_):=BX.o.cell 1;have x2:V.cell? ⟨X,2,none⟩=some (.string (bs f.name)):=BX.o.cell 2
  go_region_held3 (fun w'=>w'.cell? ⟨X,0,none⟩=some (.int .i64 f.e)/\w'.cell? ⟨X,1,none⟩=some (.int .i64 f.at_)/\w'.cell? ⟨X,2,none⟩=some (.string (bs f.name)))
   (go_keep)
   (fail)
  go_wp2;have F:=uV (((Ad.o.set 0 (.int .i64 f.e)).set 1 (.int .i64 f.at_)).set 2 (.string (bs f.name)));have h0:=F.cell 0;have h1:=F.cell 1;have h2:=F.cell 2;simp only [fu,fC,eX,dH,dL,dK] at h0 h1 h2;refine bodyPost_ret (v:=.tuple #[.pointer none,bJ f]) ?_ rfl ⟨.inl ⟨f,HE.o,rfl,.inl AZ.o⟩,yf (yx G3.o _ (by omega) _ _ _)⟩;clear F z0 z1 z2 f0 f1 f2 x0 x1 x2 Ad BX;generalize World.drew _=WF at *;simp [results,Tryz.results21,go_sem,bJ,h0,h1,h2]
 case pos =>
  have hok:f=Ln.ok:=yol bt bf bd f AZ.o he;subst hok;by_cases hc:1<=fs.length/\fs.length<=8
  case neg =>
   have FIN:=hid (show (fs.length < 1\/8 < fs.length) by omega);unfold Ln.ok;by_cases h1:fs.length < 1
   ·have d2:decide ((fs.length:Int) < 1)=true:=by simp; omega
    go_wp2;have F:=(((xZ.o.set 0 (.int .i64 31)).set 1 (.int .i64 0)).set 2 (.string ⟨#[]⟩)).grown (aH _ (.cells #[.int .i64 0,.int .i64 0,.string (bs [])] 32) none) (by simp);have h0:=F.cell 0;have h1:=F.cell 1;have h2:=F.cell 2;simp only [fu,fC,eX,dH,dL,dK] at h0 h1 h2;refine bodyPost_ret (v:=.tuple #[.pointer none,bJ ⟨31,0,[]⟩]) ?_ rfl ⟨.inl ⟨⟨31,0,[]⟩,by decide,rfl,.inr (.inl ⟨AZ.o.symm,FIN.o,rfl⟩)⟩,ya (yx G2.o _ (by omega) _ _ _) (aH _ _ none)⟩;clear F z0 z1 z2 f0 f1 f2;generalize World.alloc _ _=WF at *;simp [results,Tryz.results21,go_sem,bJ,bs,h0,h1,h2]
   ·have d2:decide ((fs.length:Int) < 1)=false:=by simp; omega
    have d3:decide ((8:Int) < (fs.length:Int))=true:=by simp; omega
    go_wp2;have F:=(((xZ.o.set 0 (.int .i64 31)).set 1 (.int .i64 0)).set 2 (.string ⟨#[]⟩)).grown (aH _ (.cells #[.int .i64 0,.int .i64 0,.string (bs [])] 32) none) (by simp);have h0:=F.cell 0;have h1:=F.cell 1;have h2:=F.cell 2;simp only [fu,fC,eX,dH,dL,dK] at h0 h1 h2;refine bodyPost_ret (v:=.tuple #[.pointer none,bJ ⟨31,0,[]⟩]) ?_ rfl ⟨.inl ⟨⟨31,0,[]⟩,by decide,rfl,.inr (.inl ⟨AZ.o.symm,FIN.o,rfl⟩)⟩,ya (yx G2.o _ (by omega) _ _ _) (aH _ _ none)⟩;clear F z0 z1 z2 f0 f1 f2;generalize World.alloc _ _=WF at *;simp [results,Tryz.results21,go_sem,bJ,bs,h0,h1,h2]
  case pos =>
   have d2:decide ((fs.length:Int) < 1)=false:=by simp; omega
   have d3:decide ((8:Int) < (fs.length:Int))=false:=by simp; omega
   have AX:=hid (aH W2 (.cells #[.int .i64 0,.int .i64 0,.string (bs [])] 32) none);have Ad:=hid (xZ.o.grown AX.o (by simp));have vT:=hid (tu.o.grown AX.o (by simp));have G3:=hid (ya G2.o AX.o);have hs3:(W2.alloc (.cells #[.int .i64 0,.int .i64 0,.string (bs [])] 32)).heap.size=W2.heap.size+1:=Array.size_push _;have HS3:=hid hs3;clear hs3 z0 z1 z2 f0 f1 f2;obtain ⟨i0,hi,hz0,hz1,hz2⟩:=info_parts Tryz.zP;unfold Ln.ok;go_wp2;generalize W2.alloc (.cells #[.int .i64 0,.int .i64 0,.string (bs [])] 32)=W3 at *
   go_loopw [7,32] (fun vl i wr=>∃ (k:Nat) (fl:List FR) (xs:List (Bool×List Lk.Obj)),k<=fs.length/\i = .int .i64 k/\xs.length=k/\(∀ j (h:j < k) (h1:j < fs.length) (h2:j < xs.length),vK fs[j] xs[j].1 xs[j].2)/\Ce wr w.heap.size vl fl xs/\ye wr w.heap.size #[.int .i64 bt,.int .i64 bf,.int .i64 bd] 27/\ye wr (w.heap.size+1) #[.int .i64 0,.int .i64 0,.string ⟨#[]⟩] 32/\w.grownBy wr none) (fun _ i _=>fs.length - (intOf i).toNat)
   case atStart=>exact ⟨0,[],[],Nat.zero_le _,rfl,rfl,fun j h=>by omega,⟨rfl,World.ownsRow_nil _ _ _ _,fun i h=>by simp at h,List.Pairwise.nil,fun m hm=>by simp at hm⟩,vT.o,Ad.o,G3.o⟩
   case round =>
    obtain ⟨k,fl,xs,hk,rfl,hxl,hfi,hfa,hbb,hbf,hgw⟩:=hrel;obtain ⟨al,cl,rfl⟩:=yj hfa.row;have KW:=hid hfi;have KV:=hid hfa;have mX:=hid hbb;have tV:=hid hbf;have vV:=hid hgw;clear hfi hfa hbb hbf hgw;by_cases hlt:k < fs.length
    ·obtain ⟨sg,off,hsg,hsc⟩:=HI.o.kept vV.o (by omega);have ck:=hsc k hlt;have cR:=hid (yjn (bs fs[k]) wr (HT.o.grown vV.o) (by rw [uY]; exact hsz _ (dM hlt)));rw [Df] at cR;have g1:(k:Int) < (fs.length:Int):=by omega
     generalize Wi:fs[k]=fk at *;have TA:=hid Wi;clear hsc Wi;subst hsg;go_wp2_with fail;refine cR.o.mono ?_;rintro e U5 ⟨Qc,h5⟩;rcases Qc with ⟨v,a,os,q1,rfl,mg,cap,gs,rfl,q2,q3,q4,q5⟩ | ⟨q1,rfl⟩
     ·have FM:=hid (show vP U5 ⟨a,mg,os.length,cap⟩ (a,os) from ⟨rfl,rfl,gs,q3,q4,q5⟩);have QI:=hid q1;have hmU:mg < U5.heap.size:=by
       obtain ⟨cur,hb,-⟩:=q3.row;exact hb.lt
      have hsz5:=h5.size;have Tf:=hid (KV.o.kept h5);have xA:=hid (mX.o.grown h5 (by simp));have y7:=hid (tV.o.grown h5 (by simp));have Fh:=hid (ya vV.o h5);have BN:=hid (fun (q:FR) (hq:q∈fl)=>show q.mg < (⟨a,mg,os.length,cap⟩:FR).mg from Nat.lt_of_lt_of_le (KV.o.bnd q hq).2 q2);have hwl:=vV.o.size;clear q1 q3 h5 cR ck KV mX tV vV;have A1:=hid (aH U5 (.cells #[.bool a,.slice (some ⟨mg,0,none⟩) os.length cap] 97) none);have Vd:(U5.alloc (.cells #[.bool a,.slice (some ⟨mg,0,none⟩) os.length cap] 97)).heap.size=U5.heap.size+1:=Array.size_push _;have A2:=hid (aH (U5.alloc (.cells #[.bool a,.slice (some ⟨mg,0,none⟩) os.length cap] 97)) (.cells #[.bool a,.slice (some ⟨mg,0,none⟩) os.length cap] 97) none)
      have CN:=hid (ypO (U5.alloc (.cells #[.bool a,.slice (some ⟨mg,0,none⟩) os.length cap] 97)) a (.slice (some ⟨mg,0,none⟩) os.length cap));rw [Vd] at CN;have Nz:=hid (Tf.o.kept (ya A1.o A2.o));have Aj:=hid Nz.o.row;have hcl:=yZ Aj.o;have VG:w.heap.size<=((U5.alloc (.cells #[.bool a,.slice (some ⟨mg,0,none⟩) os.length cap] 97)).alloc (.cells #[.bool a,.slice (some ⟨mg,0,none⟩) os.length cap] 97)).heap.size:=Nat.le_trans Fh.o.size (ya A1.o A2.o).size;have ZT:=hid VG;rw [hxl] at Aj hcl;have STEP:=hid (fun (v':Value) (w3:World) (hown':w3.ownsRow w.heap.size 97 2 v' (k+1) (fl.flatMap Gt ++ [.bool a,.slice (some ⟨mg,0,none⟩) os.length cap])) (hgrow:((U5.alloc (.cells #[.bool a,.slice (some ⟨mg,0,none⟩) os.length cap] 97)).alloc (.cells #[.bool a,.slice (some ⟨mg,0,none⟩) os.length cap] 97)).grownBy w3 (Value.ownBlock (.slice al k cl)))=>show Ce w3 w.heap.size v' (fl ++ [⟨a,mg,os.length,cap⟩]) (xs ++ [(a,os)])/\ye w3 w.heap.size #[.int .i64 bt,.int .i64 bf,.int .i64 bd] 27/\ye w3 (w.heap.size+1) #[.int .i64 0,.int .i64 0,.string ⟨#[]⟩] 32/\w.grownBy w3 none by
       have A:=ya A1.o A2.o;have RT:=aW.own Aj.o;refine ⟨?_,yy (xA.o.grown A (by simp)) hgrow RT (by decide),yy (y7.o.grown A (by simp)) hgrow RT (by decide),yD (ya Fh.o A) hgrow (fun b e=>(Aj.o.lt b e).1)⟩;refine Ce.more Nz.o (FM.o.kept A) BN.o (show w.heap.size<=mg by omega) (show mg < _ from Nat.lt_of_lt_of_le hmU A.size) (by rw [hxl]; exact hown') (by rw [hxl]; exact hgrow))
      clear Vd VG Tf xA y7 Fh FM BN Nz;have ny:=hid (show ∀ j (h:j < k+1) (h1:j < fs.length) (h2:j < (xs ++ [(a,os)]).length),vK fs[j] (xs ++ [(a,os)])[j].1 (xs ++ [(a,os)])[j].2 from fun j h h1 h2=>by
       by_cases hj:j < k
       ·rw [List.getElem_append_left (by omega)];exact KW.o j hj h1 (by omega)
       ·obtain rfl:j=k:=by omega
        have e1:(xs ++ [(a,os)])[j]=(a,os):=by simp [<- hxl]
        rw [e1,TA.o];exact QI.o)
      rw [hxl];go_wp2_with (at_builtin; refine QE _ rfl _ _ 94 rfl w.heap.size 97 i0 (.agg #[.bool false,.slice none 0 0]) 2 32 Tryz.underlying94 hi hz0 hz1 hz2 rfl (by decide) _ _ _ rfl Aj.o ⟨U5.heap.size+1,0,none⟩ 1 1 [.bool a,.slice (some ⟨mg,0,none⟩) os.length cap] rfl rfl CN.o (by intro u hu; simp at hu; rcases hu with rfl | rfl <;> rfl) (by unfold maxLen; omega) (by omega) ZT.o ?_; intro v' w3 hown' hgrow hblk; obtain ⟨jN,cv',rfl⟩:=yj hown'; obtain ⟨r1,r2,r3,r4⟩:=STEP.o _ _ hown' hgrow; have Q1:=hid r1; have Q2:=hid r2; have Q3:=hid r3; have Q4:=hid r4; clear hgrow hown' r1 r2 r3 r4 hblk)
      go_roundw
      case rel=>exact ⟨k+1,_,_,by omega,by go_num,by simp [hxl],ny.o,Q1.o,Q2.o,Q3.o,Q4.o⟩
      case measure=>simp [intOf]; omega
     ·have N:=hid q1;have y7:=hid (tV.o.grown h5 (by simp));have G5:=hid (ya vV.o h5);have hR5:=y7.o.lt;have VU:w.heap.size+1≠U5.heap.size:=by omega
      have z0:U5.cell? ⟨w.heap.size+1,0,none⟩=some (.int .i64 0):=y7.o.cell 0;have z1:U5.cell? ⟨w.heap.size+1,1,none⟩=some (.int .i64 0):=y7.o.cell 1;have z2:U5.cell? ⟨w.heap.size+1,2,none⟩=some (.string ⟨#[]⟩):=y7.o.cell 2;have f0:=y7.o.free 0;have f1:=y7.o.free 1;have f2:=y7.o.free 2;clear q1 h5 cR ck;go_wp2;have F:=(((y7.o.set 0 (.int .i64 32)).set 1 (.int .i64 k)).set 2 (.string ⟨#[]⟩)).grown (aH _ (.cells #[.bool false,.slice none 0 0] 97) none) (by simp);have h0:=F.cell 0;have h1:=F.cell 1;have h2:=F.cell 2;simp only [fu,fC,eX,dH,dL,dK] at h0 h1 h2;refine bodyPost_ret (v:=.tuple #[.pointer none,bJ ⟨32,k,[]⟩]) ?_ rfl ⟨.inl ⟨⟨32,k,[]⟩,(show (32:Int)≠0 by decide),rfl,.inr (.inr ⟨AZ.o.symm,hc.1,hc.2,k,hlt,rfl,by rw [TA.o]; exact N.o,fun j hj=>⟨_,_,KW.o j hj (by omega) (by omega)⟩⟩)⟩,ya (yx G5.o _ (by omega) _ _ _) (aH _ _ none)⟩
      clear F z0 z1 z2 f0 f1 f2;generalize World.alloc _ _=WF at *;simp [results,Tryz.results21,go_sem,bJ,bs,h0,h1,h2]
    ·obtain rfl:k=fs.length:=by omega
     have g3:decide ((fs.length:Int) < (fs.length:Int))=false:=by simp
     have b0:wr.cell? ⟨w.heap.size,0,none⟩=some (.int .i64 bt):=mX.o.cell 0;have b1:wr.cell? ⟨w.heap.size,1,none⟩=some (.int .i64 bf):=mX.o.cell 1;have b2:wr.cell? ⟨w.heap.size,2,none⟩=some (.int .i64 bd):=mX.o.cell 2;have AP:=hid (aH wr (.cells #[.int .i64 bt,.int .i64 bf,.int .i64 bd,.slice none 0 0,.pointer none,.int .i64 0,.int .i64 0,.int .i64 0] 105) none);have BP:=hid (ye.new wr #[.int .i64 bt,.int .i64 bf,.int .i64 bd,.slice none 0 0,.pointer none,.int .i64 0,.int .i64 0,.int .i64 0] 105);have hwr:=vV.o.size;have ZQ:=hid (show nJ w wr.heap.size bt bf bd (.slice none 0 0) [] [] [] (wr.alloc (.cells #[.int .i64 bt,.int .i64 bf,.int .i64 bd,.slice none 0 0,.pointer none,.int .i64 0,.int .i64 0,.int .i64 0] 105)) from ⟨BP.o,World.ownsRow_nil _ _ _ _,rfl,rfl,fun i h=>by simp at h,fun i h=>by simp at h,by simp,fun o ho=>by simp at ho,hwr,fun b hb=>by simp at hb,ya vV.o AP.o,List.nodup_nil⟩)
     have Hg:=hid (KV.o.kept AP.o);have ZI:=hid (tV.o.grown AP.o (by simp));have LN:=hid (show ∀ i (h:i < xs.length),xs[i].2.length<=6 from fun i h=>by
      rcases KW.o i (by omega) (by omega) h with ⟨-,-,e⟩ | ⟨-,-,ms,e,e2⟩
      ·rw [e]; simp
      ·rw [e2]; simpa using e.1.2)
     rw [hxl];go_wp2;generalize wr.alloc (.cells #[.int .i64 bt,.int .i64 bf,.int .i64 bd,.slice none 0 0,.pointer none,.int .i64 0,.int .i64 0,.int .i64 0] 105)=W4 at *;generalize VQ:wr.heap.size=P at *;have HPP:=hid VQ;clear VQ b0 b1 b2
     go_loopw [56] (fun i wr2=>∃ (k:Nat) (bl gl:List Nat) (vm:Value),k<=xs.length/\i = .int .i64 k/\nJ w P bt bf bd vm bl gl (Ln.bO (xs.take k)) wr2/\bl.length<=6 * k/\(∀ i (h1:i < fl.length) (h:i < xs.length),k<=i->vP wr2 fl[i] xs[i])/\wr2.ownsRow w.heap.size 97 2 (.slice al xs.length cl) xs.length (fl.flatMap Gt)/\ye wr2 (w.heap.size+1) #[.int .i64 0,.int .i64 0,.string ⟨#[]⟩] 32) (fun i _=>xs.length - (intOf i).toNat)
     case atStart=>exact ⟨0,[],[],_,Nat.zero_le _,rfl,ZQ.o,Nat.le_refl _,fun i h1 h _=>Hg.o.at_ i h,Hg.o.row,ZI.o⟩
     case round =>
      obtain ⟨k,bl,gl,vm,hk2,rfl,hga,hbl,hfr,hrw,hbf⟩:=hrel;have TD:=hid hga;have Fp:=hid hfr;have HRW:=hid hrw;have tV:=hid hbf;clear hga hfr hrw hbf;by_cases hlt:k < xs.length
      ·have hkl:k < fl.length:=by rw [Hg.o.len]; exact hlt
       obtain ⟨sg,hsg⟩:∃ sg,al=some ⟨sg,0,none⟩:=by
        rcases HRW.o.2 with ⟨h1,h2⟩ | ⟨g,cap',cur,hv,_⟩
        ·simp at h1; omega
        ·simp only [Value.slice.injEq] at hv;exact ⟨g,hv.1⟩
       subst hsg;have q:=fun j (hj:j < 2)=>(HRW.o.cellAt (k * 2+j) (by omega)).trans (Nc Gt 2 (fun _=>rfl) fl k j hkl hj)
       have m0:wr.cell? ⟨sg,k * 2,none⟩=some (.bool fl[k].a):=q 0 (by omega);have m1:wr.cell? ⟨sg,k * 2+1,none⟩=some (.slice (some ⟨fl[k].mg,0,none⟩) fl[k].n fl[k].cap):=q 1 (by omega);clear q;obtain ⟨e0,e1,gs,hm,hcm⟩:=Fp.o k hkl hlt (Nat.le_refl _);rw [e0] at m0;rw [e1] at m1;have HL:=LN.o k hlt;have TK:=hid (show Ln.bO (xs.take (k+1))=Ln.dV (Ln.bO (xs.take k)) xs[k] by
        unfold Ln.bO;rw [List.take_succ_eq_append_getElem hlt,List.foldl_append];rfl)
       have ZK:=Hg.o.bnd _ (dM hkl);have NE:=hid (show ∀ i (h1:i < fl.length),k+1<=i->fl[i].mg≠fl[k].mg from fun i h1 hi=>by
        have:=(List.pairwise_iff_getElem.1 Hg.o.pair) k i hkl h1 (by omega)
        omega)
       generalize hr:fl[k]=r at *;generalize hx:xs[k]=x at *;obtain ⟨ra,Wq,rn,J6⟩:=r;obtain ⟨xa,xo⟩:=x;dsimp only at *;subst e0 e1;have AL:=hid (aH wr (.cells #[.bool ra,.slice (some ⟨Wq,0,none⟩) xo.length J6] 97) none);have cT:=hid (yjy w P bt bf bd vm bl gl (Ln.bO (xs.take k)) Wq J6 gs ra xo _ (TD.o.kept AL.o) (hm.kept AL.o) (by omega) ZK.1 hcm);have HM:=hid (hm.kept AL.o);clear hm;have g1:(k:Int) < (xs.length:Int):=by omega
       have hcm2:=hcm.2;unfold maxLen at hcm2;unfold aP at cT;go_wp2_with fail;refine cT.o.mono ?_;rintro e W7 ⟨rfl,⟨Ws,b7,g7,h7,l7⟩,f7⟩;have Il:=hid h7;obtain ⟨cur,hcb,-⟩:=HM.o.row;have KL:=f7.frame hcb;have Ii:=hid (show ∀ i (h1:i < fl.length) (h:i < xs.length),k+1<=i->vP W7 fl[i] xs[i] from fun i h1 h hi=>((Fp.o i h1 h (by omega)).kept AL.o).Eb f7 (NE.o i h1 hi) (fun g o ho=>KL.obj ho (by decide) (by decide) (by decide) (by decide)) (by decide));have RW7:=hid (KL.own (HRW.o.kept AL.o (Decidable.em _)) (by decide));have ZJ:=hid (KL _ _ _ (tV.o.grown AL.o (by simp)) (by decide));clear h7 f7 cT m0 m1 KL
       go_wp2
       go_roundw
       case rel=>exact ⟨k+1,_,_,_,by omega,by go_num,by rw [TK.o]; exact Il.o,by omega,Ii.o,RW7.o,ZJ.o⟩
       case measure=>simp [intOf]; omega
      ·obtain rfl:k=xs.length:=by omega
       have g3:decide ((xs.length:Int) < (xs.length:Int))=false:=by simp
       have z0:wr.cell? ⟨w.heap.size+1,0,none⟩=some (.int .i64 0):=tV.o.cell 0;have z1:wr.cell? ⟨w.heap.size+1,1,none⟩=some (.int .i64 0):=tV.o.cell 1;have z2:wr.cell? ⟨w.heap.size+1,2,none⟩=some (.string ⟨#[]⟩):=tV.o.cell 2;have f0:=tV.o.free 0;have f1:=tV.o.free 1;have f2:=tV.o.free 2;have hR:=tV.o.lt;go_wp2;have c0:=tV.o.set 0 (.int .i64 0);have c1:=c0.set 1 (.int .i64 0);have F:=c1.set 2 (.string ⟨#[]⟩);have Fv:∀ b,some (w.heap.size+1)=some b->w.heap.size<=b:=fun b e=>by simp at e; omega
       have GF:=(((TD.o.ty (yi _ _ 0 (.int .i64 0)) (aW.blk tV.o) Fv (by decide) (by decide) (by decide) (by decide) (by decide) (by decide) (by decide)).ty (yi _ _ 1 (.int .i64 0)) (aW.blk c0) Fv (by decide) (by decide) (by decide) (by decide) (by decide) (by decide) (by decide)).ty (yi _ _ 2 (.string ⟨#[]⟩)) (aW.blk c1) Fv (by decide) (by decide) (by decide) (by decide) (by decide) (by decide) (by decide))
       have h0:=F.cell 0;have h1:=F.cell 1;have h2:=F.cell 2;simp only [fu,fC,eX,dH,dL,dK] at h0 h1 h2;refine bodyPost_ret (v:=.tuple #[aP P,bJ Ln.ok]) ?_ rfl ⟨.inr ⟨AZ.o.symm,hc.1,hc.2,xs,hxl,P,vm,bl,gl,fun i h=>KW.o i h h (by omega),rfl,by have:=GF; rw [List.take_length] at this; exact this⟩,GF.gr⟩;clear F GF z0 z1 z2 f0 f1 f2 c0 c1;generalize World.setCell _ _ _=WF at *;simp [results,Tryz.results21,go_sem,bJ,Ln.ok,aP,bs,h0,h1,h2]
def xY (bl:List Nat) (s:Ln.fQ):List Value:=[.pointer (kW bl s.mod),.int .i64 s.ah,.int .i64 s.off]
def yN (W:World) (bl:List Nat) (b g:Nat) (m:Ln.Mod):Prop :=
 ∃ vm vs vt vf,ye W b #[aP g,vm,vs,vt,vf,.int .i64 m.data,.int .i64 m.bss] 109/\yq W g m.obj /\
  W.ownsRow 0 103 3 vm m.means.length (m.means.flatMap (xY bl))/\W.ownsRow 0 4 1 vs m.short.length (m.short.map Value.bool) /\
  W.ownsRow 0 3 1 vt m.text.length (m.text.map (Value.int .i64))/\W.ownsRow 0 3 1 vf m.far.length (m.far.map (Value.int .i64)) /\
  (m.means=[]->vm = .slice none 0 0)/\(m.short=[]->vs = .slice none 0 0)
structure ProgAt (W0:World) (P:Nat) (bt bf bd:Int) (vm:Value) (bl gl:List Nat) (ms:List Ln.Mod) (st:Ln.fQ) (no:Int) (W:World):Prop where
 blk:ye W P #[.int .i64 bt,.int .i64 bf,.int .i64 bd,vm,.pointer (kW bl st.mod),.int .i64 st.ah,.int .i64 st.off,.int .i64 no] 105
 row:W.ownsRow W0.heap.size 101 1 vm bl.length (bl.map aP)
 gX:gl.length=bl.length
 fT:ms.length=bl.length
 mods:∀ i (h:i < bl.length),yN W bl bl[i] (gl[i]'(by rw [gX]; exact h)) (ms[i]'(by rw [fT]; exact h))
 few:bl.length<=4096
 syms:∀ m∈ms,m.obj.syms.length<=65535
 lo:W0.heap.size<=P
 los:∀ b∈bl,W0.heap.size<=b
 gr:W0.grownBy W none
 nd:bl.Nodup
theorem EJ {W:World} {B size n:Nat} {e:TypeId} {v:Value} {xs:List Value} (h:W.ownsRow B e size v n xs):W.ownsRow 0 e size v n xs:=by
 refine ⟨h.1,?_⟩;rcases h.2 with q | ⟨g,cap,cur,hv,_,r⟩
 ·exact .inl q
 ·exact .inr ⟨g,cap,cur,hv,Nat.zero_le _,r⟩
theorem R4 {l:List Nat} (h:l.Nodup) {i j:Nat} (hi:i < l.length) (hj:j < l.length) (hne:i≠j):l[i]≠l[j]:=by
 rcases Nat.lt_or_gt_of_ne hne with q | q
 ·exact List.pairwise_iff_getElem.1 h i j hi hj q
 ·exact fun c=>List.pairwise_iff_getElem.1 h j i hj hi q c.symm
section
variable {W0 W W':World} {P:Nat} {bt bf bd:Int} {vm:Value} {bl gl:List Nat} {ms:List Ln.Mod} {st:Ln.fQ} {no:Int} {b g:Nat} {m:Ln.Mod}
theorem yN.kept (h:yN W bl b g m) (hg:W.grownBy W' none):yN W' bl b g m:=by
 obtain ⟨v1,v2,v3,v4,q0,q1,q2,q3,q4,q5,q6⟩:=h;have k:∀ (v:Value),v.ownBlock=none\/v.ownBlock≠none:=fun v=>Decidable.em _
 exact ⟨v1,v2,v3,v4,q0.grown hg (by simp),q1.kept hg,q2.kept hg (k _),q3.kept hg (k _),q4.kept hg (k _),q5.kept hg (k _),q6⟩
theorem yN.ty {row:Option Nat} {e:TypeId} (h:yN W bl b g m) (hg:W.grownBy W' row) (hr:aW W row e) (h1:109≠e) (h2:75≠e) (h3:3≠e) (h4:77≠e) (h5:83≠e) (h6:103≠e) (h7:4≠e):yN W' bl b g m:=by
 obtain ⟨v1,v2,v3,v4,q0,q1,q2,q3,q4,q5,q6⟩:=h;exact ⟨v1,v2,v3,v4,yy q0 hg hr h1,oK q1 hg hr h2 h3 h4 h5,yw q2 hg hr h6,yw q3 hg hr h7,yw q4 hg hr h3,yw q5 hg hr h3,q6⟩
theorem yN.other {k:Nat} {cur:Array Value} (h:yN W bl b g m) (hg:W.grownBy W' (some k)) (hr:ye W k cur 109) (hne:b≠k):yN W' bl b g m:=by
 obtain ⟨v1,v2,v3,v4,q0,q1,q2,q3,q4,q5,q6⟩:=h;have R:=aW.blk hr;exact ⟨v1,v2,v3,v4,q0.grown hg (by simp; omega),oK q1 hg R (by decide) (by decide) (by decide) (by decide),yw q2 hg R (by decide),yw q3 hg R (by decide),yw q4 hg R (by decide),yw q5 hg R (by decide),q6⟩
theorem ProgAt.kept (h:ProgAt W0 P bt bf bd vm bl gl ms st no W) (hg:W.grownBy W' none):ProgAt W0 P bt bf bd vm bl gl ms st no W' :=
 ⟨h.blk.grown hg (by simp),h.row.kept hg (by cases vm.ownBlock <;> simp),h.gX,h.fT,fun i hi=>(h.mods i hi).kept hg,h.few,h.syms,h.lo,h.los,ya h.gr hg,h.nd⟩
theorem ProgAt.ty {row:Option Nat} {e:TypeId} (h:ProgAt W0 P bt bf bd vm bl gl ms st no W) (hg:W.grownBy W' row) (hr:aW W row e) (hlo:∀ k,row=some k->W0.heap.size<=k) (h0:105≠e) (h00:101≠e) (h1:109≠e) (h2:75≠e) (h3:3≠e) (h4:77≠e) (h5:83≠e) (h6:103≠e) (h7:4≠e):ProgAt W0 P bt bf bd vm bl gl ms st no W' :=
 ⟨yy h.blk hg hr h0,yw h.row hg hr h00,h.gX,h.fT,fun i hi=>(h.mods i hi).ty hg hr h1 h2 h3 h4 h5 h6 h7,h.few,h.syms,h.lo,h.los,yD h.gr hg hlo,h.nd⟩
theorem ProgAt.upd {k:Nat} {m':Ln.Mod} (h:ProgAt W0 P bt bf bd vm bl gl ms st no W) (hk:k < bl.length) (hk':k < ms.length) (hg:W.grownBy W' (some bl[k])) (hm:yN W' bl bl[k] (gl[k]'(by rw [h.gX]; exact hk)) m') (ho:m'.obj=ms[k].obj):ProgAt W0 P bt bf bd vm bl gl (ms.set k m') st no W':=by
 obtain ⟨v1,v2,v3,v4,q0,-⟩:=h.mods k hk;have R:=aW.blk q0;refine ⟨yy h.blk hg R (by decide),yw h.row hg R (by decide),h.gX,by rw [List.length_set]; exact h.fT,fun i hi=>?_,h.few,fun x hx=>?_,h.lo,h.los,yD h.gr hg (by intro j e; simp at e; subst e; exact h.los _ (dM hk)),h.nd⟩
 ·by_cases e:i=k
  ·subst e;rw [List.getElem_set_self];exact hm
  ·rw [List.getElem_set_ne (by omega)];exact (h.mods i hi).other hg q0 (fun c=>R4 h.nd hi hk e c)
 ·rcases List.mem_or_eq_of_mem_set hx with q | rfl
  ·exact h.syms x q
  ·rw [ho]; exact h.syms _ (dM hk')
theorem ProgAt.iA {am:Option Addr} {cm:Nat} (h:ProgAt W0 P bt bf bd (.slice am bl.length cm) bl gl ms st no W):rD W am bl (ms.map Ln.Mod.obj):=by
 refine ⟨fun hp=>?_,by rw [jc,h.fT],fun i h1 h2=>?_,by rw [jc,h.fT]; exact h.few,fun o ho=>?_⟩
 ·obtain ⟨sg,hs,-,-,-,hc⟩:=M8 h.row hp;refine ⟨sg,0,hs,fun i hi=>?_⟩;rw [Nat.zero_add,hc i hi,List.getElem?_map,gy hi];rfl
 ·obtain ⟨v1,v2,v3,v4,q0,q1,-⟩:=h.mods i h1;refine ⟨_,q0.cell 0,?_⟩;rw [List.getElem_map];exact q1
 ·obtain ⟨x,hx,rfl⟩:=List.mem_map.1 ho;exact h.syms x hx
theorem ProgAt.spot {st':Ln.fQ} (h:ProgAt W0 P bt bf bd vm bl gl ms st no W):ProgAt W0 P bt bf bd vm bl gl ms st' no (((W.setCell ⟨P,4,none⟩ (.pointer (kW bl st'.mod))).setCell ⟨P,5,none⟩ (.int .i64 st'.ah)).setCell ⟨P,6,none⟩ (.int .i64 st'.off)):=by
 have c1:=h.blk.set 4 (.pointer (kW bl st'.mod));have c2:=c1.set 5 (.int .i64 st'.ah);have c3:=c2.set 6 (.int .i64 st'.off);have g1:=yi W P 4 (.pointer (kW bl st'.mod));have g2:=yi (W.setCell ⟨P,4,none⟩ (.pointer (kW bl st'.mod))) P 5 (.int .i64 st'.ah);have g3:=yi ((W.setCell ⟨P,4,none⟩ (.pointer (kW bl st'.mod))).setCell ⟨P,5,none⟩ (.int .i64 st'.ah)) P 6 (.int .i64 st'.off);have G:=World.grownBy.trans (World.grownBy.trans g1 g2) g3;have R:=aW.blk h.blk;refine ⟨?_,yw h.row G R (by decide),h.gX,h.fT,fun i hi=>(h.mods i hi).ty G R (by decide) (by decide) (by decide) (by decide) (by decide) (by decide) (by decide),h.few,h.syms,h.lo,h.los,yD h.gr G (by intro j e; simp at e; have:=h.lo; omega),h.nd⟩
 simpa using c3
theorem ProgAt.nought {no':Int} (h:ProgAt W0 P bt bf bd vm bl gl ms st no W):ProgAt W0 P bt bf bd vm bl gl ms st no' (W.setCell ⟨P,7,none⟩ (.int .i64 no')):=by
 have c1:=h.blk.set 7 (.int .i64 no');have G:=yi W P 7 (.int .i64 no');have R:=aW.blk h.blk;refine ⟨?_,yw h.row G R (by decide),h.gX,h.fT,fun i hi=>(h.mods i hi).ty G R (by decide) (by decide) (by decide) (by decide) (by decide) (by decide) (by decide),h.few,h.syms,h.lo,h.los,yD h.gr G (by intro j e; simp at e; have:=h.lo; omega),h.nd⟩;simpa using c1
end
namespace Ln
def bare (o:Lk.Obj):Mod:=⟨o,[],[],[],[],0,0⟩
def iL (os:List Lk.Obj) (i:Nat) (m:Mod):Mod:={ m with means:=m.obj.syms.map (meaning os i) }
def bA (os:List Lk.Obj) (ms:List Mod):List Mod:=ms.mapIdx (iL os)
end Ln
theorem nJ.prog {W0 W:World} {P:Nat} {bt bf bd:Int} {vm:Value} {bl gl:List Nat} {os:List Lk.Obj} (h:nJ W0 P bt bf bd vm bl gl os W):ProgAt W0 P bt bf bd vm bl gl (os.map Ln.bare) Ln.none_ 0 W :=
 ⟨h.blk,h.row,h.gX,by rw [jc]; exact h.fT,fun i hi=>by
  rw [List.getElem_map];exact ⟨_,_,_,_,h.mods i hi,h.objs i hi,World.ownsRow_nil _ _ _ _,World.ownsRow_nil _ _ _ _,World.ownsRow_nil _ _ _ _,World.ownsRow_nil _ _ _ _,fun _=>rfl,fun _=>rfl⟩,h.few,fun m hm=>by
  obtain ⟨o,ho,rfl⟩:=List.mem_map.1 hm;exact h.syms o ho,h.lo,h.los,h.gr,h.nd⟩
theorem MC {α:Type} (xs ys:List α) (k:Nat) (hx:k < xs.length) (hy:k < ys.length) (_hl:ys.length=xs.length):(ys.take k ++ xs.drop k).set k ys[k]=ys.take (k+1) ++ xs.drop (k+1):=by
 rw [List.set_append_right _ _ (by rw [List.length_take]; omega)];have e:k - (ys.take k).length=0:=by rw [List.length_take]; omega
 rw [e,jg hx,eX,List.take_succ_eq_append_getElem hy,List.append_assoc,List.singleton_append]
theorem Gm {α:Type} (xs ys:List α) (k:Nat) (hx:k < xs.length) (_hy:k<=ys.length) (h:k < (ys.take k ++ xs.drop k).length):(ys.take k ++ xs.drop k)[k]=xs[k]:=by
 rw [List.getElem_append_right (by rw [List.length_take]; omega)];simp [List.length_take,Nat.min_eq_left _hy]
structure jv (Wf W0:World) (P:Nat) (bt bf bd:Int) (vm:Value) (bl gl:List Nat) (ms:List Ln.Mod) (st:Ln.fQ) (no:Int) (W:World):Prop extends ProgAt W0 P bt bf bd vm bl gl ms st no W where
 kf:∀ k cs,ye Wf k cs 32->ye W k cs 32
 le:W0.heap.size<=Wf.heap.size
 sz:Wf.heap.size<=W.heap.size
section
variable {Wf W0 W W':World} {P:Nat} {bt bf bd:Int} {vm:Value} {bl gl:List Nat} {ms:List Ln.Mod} {st:Ln.fQ} {no:Int}
theorem ProgAt.f (h:ProgAt W0 P bt bf bd vm bl gl ms st no W):jv W W0 P bt bf bd vm bl gl ms st no W:=⟨h,fun _ _ q=>q,h.gr.size,Nat.le_refl _⟩
theorem jv.kept (h:jv Wf W0 P bt bf bd vm bl gl ms st no W) (hg:W.grownBy W' none):jv Wf W0 P bt bf bd vm bl gl ms st no W' :=
 ⟨h.toProgAt.kept hg,fun k cs q=>(h.kf k cs q).grown hg (by simp),h.le,Nat.le_trans h.sz hg.size⟩
theorem jv.upd {k:Nat} {m':Ln.Mod} (h:jv Wf W0 P bt bf bd vm bl gl ms st no W) (hk:k < bl.length) (hk':k < ms.length) (hg:W.grownBy W' (some bl[k])) (hm:yN W' bl bl[k] (gl[k]'(by rw [h.gX]; exact hk)) m') (ho:m'.obj=ms[k].obj):jv Wf W0 P bt bf bd vm bl gl (ms.set k m') st no W':=by
 obtain ⟨v1,v2,v3,v4,q0,-⟩:=h.mods k hk;exact ⟨h.toProgAt.upd hk hk' hg hm ho,fun k cs q=>yy (h.kf k cs q) hg (aW.blk q0) (by decide),h.le,Nat.le_trans h.sz hg.size⟩
theorem jv.spot {st':Ln.fQ} (h:jv Wf W0 P bt bf bd vm bl gl ms st no W):jv Wf W0 P bt bf bd vm bl gl ms st' no (((W.setCell ⟨P,4,none⟩ (.pointer (kW bl st'.mod))).setCell ⟨P,5,none⟩ (.int .i64 st'.ah)).setCell ⟨P,6,none⟩ (.int .i64 st'.off)):=by
 have G:=World.grownBy.trans (World.grownBy.trans (yi W P 4 (.pointer (kW bl st'.mod))) (yi _ P 5 (.int .i64 st'.ah))) (yi _ P 6 (.int .i64 st'.off));exact ⟨h.toProgAt.spot,fun k cs q=>yy (h.kf k cs q) G (aW.blk h.blk) (by decide),h.le,Nat.le_trans h.sz G.size⟩
theorem jv.nought {no':Int} (h:jv Wf W0 P bt bf bd vm bl gl ms st no W):jv Wf W0 P bt bf bd vm bl gl ms st no' (W.setCell ⟨P,7,none⟩ (.int .i64 no')) :=
 ⟨h.toProgAt.nought,fun k cs q=>yy (h.kf k cs q) (yi W P 7 (.int .i64 no')) (aW.blk h.blk) (by decide),h.le,Nat.le_trans h.sz (yi W P 7 (.int .i64 no')).size⟩
end
section
variable {P:Program} (w:World)
theorem EK {o:Oper} {a:Act} {K:Act->World->Prop} {Q:Exit->Act->World->Prop} (s x:Operand) (t:TypeId)
  (ho:o.op = .call { callee:=.builtin .append,args:=#[s,x],argTypes:=#[t,t] })
  (base:Nat) (e:TypeId) (i:TypeInfo) (z:Value) (size bytes:Nat) (ht:P.underlying t=some (.slice e)) (hi:P.info? e=some i) (hz:i.zero=some z)
  (hsize:i.size=size) (hby:i.bytes=bytes) (hzs:z.cells.size=size) (hsz:0 < size)
  (v:Value) (n:Nat) (xs:List Value) (hs:a.eval s=v) (hown:w.ownsRow base e size v n xs)
  (ad:Addr) (m c:Nat) (news:List Value) (hx:a.eval x = .slice (some ad) m c) (hl:news.length=m * size) (hnews:∀ j u,news[j]?=some u->w.cell? (ad.add j)=some u) (h1:∀ u∈news,u.oneCell'=true)
  (h63:n+m<=maxLen) (hbytes:(n+m) * bytes<=140737488355328) (hbase:base<=w.heap.size)
  (h:∀ v' w',w'.ownsRow base e size v' (n+m) (xs ++ news)->w.grownBy w' v.ownBlock->(v' = .slice none 0 0↔v = .slice none 0 0/\m=0)->(v'.ownBlock=v.ownBlock\/v'.ownBlock=some w.heap.size)->K (a.put o.dst v') w'):o.wp P a w K Q:=by
 obtain ⟨v',w',hr,h2,h3,h4,h5⟩:=run_append_own_at (P:=P) w base t o.type e i z size bytes ht hi hz hsize hby hzs hsz v n xs hown ad m c news hl hnews h1 h63 hbytes hbase;unfold Oper.wp execOp;simp only [ho,resolve,invoke,builtin,Sem.run_bind,Sem.run_pure,Result.andThen_ok,List.map_toArray,List.map_cons,List.map_nil,hs,hx,hr];exact h v' w' h2 h3 h4 h5
end
end Go.Proofs.YtelehpmjhjljgaaGreatDoor
