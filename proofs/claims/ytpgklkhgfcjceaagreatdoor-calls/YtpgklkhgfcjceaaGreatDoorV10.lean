
import Derived.Test.YtpgklkhgfcjceaaGreatDoorV09
set_option maxHeartbeats 16000000
namespace Go.Proofs.YtpgklkhgfcjceaaGreatDoor
open Go.RowKit
def rX (l:List UInt8) (a:Bool) (os:List Lk.Obj):Prop :=
 (a=false/\uT l/\os=[xI l])\/(a=true/\¬ uT l/\∃ ms,wW l ms/\os=ms.map xI)
def Kk (l:List UInt8):Prop:=¬ uT l/\∀ ms,¬ wW l ms
def nY (os:List Lk.Obj):List (Lk.Obj×Bool):=os.map fun o=>(o,false)
theorem Tryz.uz:(Tryz.prog.info? 159).map (fun i=>(i.zero,i.size,i.bytes))=some (some (.agg #[.pointer none,.bool false]),2,16):=by kernel_rfl
def WU (W:World) (B:Nat) (v:Value) (a:Bool) (os:List Lk.Obj):Prop :=
 ∃ mg cap gs,v = .agg #[.bool a,.slice (some ⟨mg,0,none⟩) os.length cap]/\B<=mg/\qx W mg gs (nY os)/\os.length<=cap/\cap<=maxLen
def ykO (B:Nat) (l:List UInt8) (e:Ending) (w':World):Prop :=
 (∃ v a os,rX l a os/\e = .returned (.tuple #[v,.bool true])/\WU w' B v a os)\/(Kk l/\e = .returned (.tuple #[.agg #[.bool false,.slice none 0 0],.bool false]))
theorem Qy {w V:World} (h:w.grownBy V none) (r:Nat) (hr:w.heap.size<=r) (a b:Value):w.grownBy ((V.setCell ⟨r,0,none⟩ a).setCell ⟨r,1,none⟩ b) none :=
 yN (yN h (yf V r 0 a) (by intro k e; simp at e; omega)) (yf _ r 1 b) (by intro k e; simp at e; omega)
theorem WM {V:World} {r:Nat} {cs:Array Value} {t:TypeId} (hb:yc V r cs t) (a b:Value):lX [t] V ((V.setCell ⟨r,0,none⟩ a).setCell ⟨r,1,none⟩ b) :=
 (lX.row (yf V r 0 a) (bI.blk hb) (by simp)).trans (lX.row (yf _ r 1 b) (bI.blk (hb.set 0 a)) (by simp))
theorem ysv (V:World) (r:Nat) (a b:Value):((V.setCell ⟨r,0,none⟩ a).setCell ⟨r,1,none⟩ b).heap.size=V.heap.size:=by simp [World.setCell]
def oZ (gs:List Nat):List Value:=gs.flatMap fun g=>[aT g,.bool false]
theorem ypq:∀ (gs:List Nat) (i:Nat) (h:i < gs.length),(oZ gs)[i * 2]?=some (aT gs[i])/\(oZ gs)[i * 2+1]?=some (.bool false):=by
 intro gs
 induction gs with
 | nil=>intro i h; simp at h
 | cons g gs ih =>
  intro i h
  cases i with
  | zero=>exact ⟨rfl,rfl⟩
  | succ i =>
   have:=ih i (by simpa using h)
   have e:oZ (g :: gs)=aT g :: .bool false :: oZ gs:=rfl
   rw [e,show (i+1) * 2=i * 2+1+1 by omega]
   simp only [bG,nQ]
   exact this
theorem yod (gs:List Nat) (g:Nat):oZ gs ++ [aT g,.bool false]=oZ (gs ++ [g]):=by simp [oZ]
theorem ysu (U:World) (g:Nat):∀ j u,[aT g,Value.bool false][j]?=some u->(U.alloc (.cells #[aT g,.bool false] 159)).cell? ((⟨U.heap.size,0,none⟩:Addr).add j)=some u:=by
 intro j u hu
 have e:(⟨U.heap.size,0,none⟩:Addr).add j=⟨U.heap.size,j,none⟩:=by
  unfold Addr.add
  by_cases h0:j=0
  ·subst h0; simp
  ·simp [h0]
 rw [e,(yc.new U #[aT g,.bool false] 159).cell j]
 simpa using hu
theorem Uz {W:World} {mg:Nat} {gs:List Nat} {os:List Lk.Obj} {cur:Array Value} (hb:yc W mg cur 159) (ht:cur.toList.take (gs.length * 2)=oZ gs) (hl:gs.length=os.length) (ho:∀ i (h:i < os.length),yu W (gs[i]'(by rw [hl]; exact h)) os[i]) (hs:∀ o∈os,o.syms.length<=65535):qx W mg gs (nY os):=by
 have fl:(nY os).length=os.length:=by simp [nY]
 refine ⟨by rw [fl]; exact hl,⟨cur,hb,fun i hi=>?_⟩,fun i hi=>?_,fun m hm=>?_⟩
 ·rw [fl] at hi
  have hi2:i < gs.length:=by omega
  obtain ⟨q0,q1⟩:=ypq gs i hi2
  rw [<- ht,List.getElem?_take,if_pos (by omega)] at q0
  rw [<- ht,List.getElem?_take,if_pos (by omega)] at q1
  have e:(nY os)[i]'(by rw [fl]; exact hi)=(os[i],false):=by simp [nY]
  rw [e]
  exact ⟨by simpa using q0,by simpa using q1⟩
 ·rw [fl] at hi
  have e:(nY os)[i]'(by rw [fl]; exact hi)=(os[i],false):=by simp [nY]
  rw [e]
  exact ho i hi
 ·simp only [nY,List.mem_map] at hm
  obtain ⟨o,ho',rfl⟩:=hm
  exact hs o ho'
set_option maxRecDepth 100000 in
theorem ykh (s:ByteArray) (w:World) (ht:dz w) (hs:s.size<=1048576) :
  Calls Tryz.prog 64 #[.string s] w fun e w'=>ykO w.heap.size (sl s) e w'/\w.grownBy w' none:=by
 have G0:=hid (aH w (.cells #[.bool false,.slice none 0 0] 117) none)
 have B0:=hid (yc.new w #[.bool false,.slice none 0 0] 117)
 have cR:=hid (fun W (hg:w.grownBy W none)=>Qb s W (ht.grown hg) hs)
 have cM:=hid (fun W (hg:w.grownBy W none)=>yll s W (ht.grown hg) hs)
 have HT:=hid ht
 clear ht
 go_enter Tryz.func64,Tryz.ntmps64
 go_wp2_with fail
 refine (cR.o _ G0.o).mono ?_
 rintro e W1 ⟨hr,hg1⟩
 have G1:=hid (ya G0.o hg1)
 have B1:=hid (B0.o.grown hg1 (by simp))
 clear hg1
 have z0:W1.cell? ⟨w.heap.size,0,none⟩=some (.bool false):=B1.o.cell 0
 have z1:W1.cell? ⟨w.heap.size,1,none⟩=some (.slice none 0 0):=B1.o.cell 1
 have f0:=B1.o.free 0
 have f1:=B1.o.free 1
 have hlt:=B1.o.lt
 rcases hr with ⟨o,g,h1,h2,rfl,h3,h4⟩ | ⟨h1,rfl⟩
 ·have HO:=hid h3
  have HI:=hid (Le h1 h2)
  have hne:w.heap.size≠W1.heap.size:=by omega
  have hsy:o.syms.length<=65535:=(J2 (Ho h2)).1.2.2.2.2.1
  clear h1 h2 h3 cM cR
  go_wp2
  have F2:=WM B1.o (.bool false) (.slice (some ⟨W1.heap.size,0,none⟩) 1 1)
  have GF:=Qy G1.o w.heap.size (Nat.le_refl _) (.bool false) (.slice (some ⟨W1.heap.size,0,none⟩) 1 1)
  have SZ:=ysv W1 w.heap.size (.bool false) (.slice (some ⟨W1.heap.size,0,none⟩) 1 1)
  have BR:=(B1.o.set 0 (.bool false)).set 1 (.slice (some ⟨W1.heap.size,0,none⟩) 1 1)
  have AQ:=F2.obj HO.o (by decide) (by decide) (by decide) (by decide)
  generalize (W1.setCell ⟨w.heap.size,0,none⟩ (.bool false)).setCell ⟨w.heap.size,1,none⟩ (.slice (some ⟨W1.heap.size,0,none⟩) 1 1)=V at *
  have AL:=aH V (.cells #[.pointer (some ⟨g,0,none⟩),.bool false] 159) none
  have BN:=yc.new V #[.pointer (some ⟨g,0,none⟩),.bool false] 159
  rw [SZ] at BN
  have tL:=BR.grown AL (by simp)
  have h0:=tL.cell 0
  have h1:=tL.cell 1
  simp only [fQ,fT,fP,bC,bG,bE] at h0 h1
  have MM:qx (V.alloc (.cells #[.pointer (some ⟨g,0,none⟩),.bool false] 159)) W1.heap.size [g] (nY [o]):=Uz BN rfl rfl (fun i hi=>by
   obtain rfl:i=0:=by simp at hi; omega
   exact AQ.kept AL) (fun x hx=>by simp at hx; subst hx; exact hsy)
  refine bodyPost_ret (v:=.tuple #[.agg #[.bool false,.slice (some ⟨W1.heap.size,0,none⟩) 1 1],.bool true]) ?_ rfl ⟨.inl ⟨_,false,[o],.inl ⟨rfl,HI.o.1,by rw [HI.o.2]⟩,rfl,W1.heap.size,1,[g],rfl,by omega,MM,by simp,by decide⟩,ya GF AL⟩
  clear MM tL BR AL F2 GF BN z0 z1 f0 f1
  generalize World.alloc _ _=WF at *
  simp [results,Tryz.results64,go_sem,h0,h1]
 ·have HI:=hid (OE h1)
  clear h1 cR
  go_wp2_with fail
  refine (cM.o _ G1.o).mono ?_
  rintro e W2 ⟨hm,hg2⟩
  have G2:=hid (ya G1.o hg2)
  have B2:=hid (B1.o.grown hg2 (by simp))
  clear z0 z1 f0 f1 cM
  have z0:W2.cell? ⟨w.heap.size,0,none⟩=some (.bool false):=B2.o.cell 0
  have z1:W2.cell? ⟨w.heap.size,1,none⟩=some (.slice none 0 0):=B2.o.cell 1
  have f0:=B2.o.free 0
  have f1:=B2.o.free 1
  rcases hm with ⟨ms,v,hA,rfl,hown⟩ | ⟨hA,rfl⟩
  ·obtain ⟨av,cv,rfl⟩:=yh hown
   have HA:=hid hA
   have HO:=hid hown
   have hml:=hA.1
   have IE:=hid hA.2.1
   clear hA hown z0 z1 f0 f1
   have hcv:=pV HO.o
   have hX:w.heap.size < W2.heap.size:=B2.o.lt
   have A3:=hid (aH W2 (.cells #[.bool true,.slice none 0 0] 117) none)
   have B3:=hid (yc.new W2 #[.bool true,.slice none 0 0] 117)
   have R3:=hid (B2.o.grown A3.o (by simp))
   have S3:=hid (HO.o.alloc (.cells #[.bool true,.slice none 0 0] 117))
   have X4:=hid (show (W2.alloc (.cells #[.bool true,.slice none 0 0] 117)).heap.size=W2.heap.size+1 from Array.size_push _)
   have G3:=hid (ya G2.o A3.o)
   obtain ⟨i0,hi,hz0,hz1,hz2⟩:=info_parts Tryz.uz
   go_wp2
   generalize W2.alloc (.cells #[.bool true,.slice none 0 0] 117)=W3 at *
   generalize W2.heap.size=X at *
   go_loopw [34] (fun i wr=>∃ (k:Nat) (gs:List Nat) (vm:Value),k<=ms.length/\i = .int .i64 k/\gs.length=k/\yc wr X #[.bool true,vm] 117/\wr.ownsRow (X+1) 159 2 vm k (oZ gs)/\(∀ j (h:j < k) (h1:j < gs.length) (h2:j < ms.length),yu wr gs[j] (xI ms[j]))/\yc wr w.heap.size #[.bool false,.slice none 0 0] 117/\wr.ownsRow W1.heap.size 9 1 (.slice av ms.length cv) ms.length (tu ms)/\w.grownBy wr none/\X+1<=wr.heap.size) (fun i _=>ms.length - (intOf i).toNat)
   case atStart=>exact ⟨0,[],_,Nat.zero_le _,rfl,rfl,B3.o,World.ownsRow_nil _ _ _ _,fun j h=>by omega,R3.o,S3.o,G3.o,by rw [X4.o]; exact Nat.le_refl _⟩
   case round =>
    obtain ⟨k,gs,vm,hk,rfl,hgl,hb,hrow,ni,hres,hstr,hgw,hxs⟩:=hrel
    obtain ⟨am,cm,rfl⟩:=yh hrow
    have HB:=hid hb
    have HRW:=hid hrow
    have M8:=hid ni
    have Bw:=hid hres
    have HST:=hid hstr
    have vX:=hid hgw
    clear hb hrow ni hres hstr hgw B3 R3 S3
    by_cases hlt:k < ms.length
    ·have Oc:=IE.o ms[k] (gW hlt)
     have hsz:=LK Oc
     obtain ⟨sg,hsg,-,-,-,hsc⟩:=F4 HST.o (by omega)
     have ck:=hsc k hlt
     rw [show (tu ms)[k]?=some (.string (bs ms[k])) by simp [tu,List.getElem?_map,jF hlt]] at ck
     have cR:=hid (Qb (bs ms[k]) wr (HT.o.grown vX.o) (by rw [Ao]; omega))
     have g1:(k:Int) < (ms.length:Int):=by omega
     have KI:=hid Oc
     clear hsc Oc hsz
     generalize hmk:ms[k]=mk at *
     have XI:=hid hmk
     clear hmk
     subst hsg
     go_wp2_with fail
     refine cR.o.mono ?_
     rintro e U5 ⟨Oo,h5⟩
     rcases Oo with ⟨o,g,q1,q2,rfl,q3,q4⟩ | ⟨q1,rfl⟩
     ·rw [Dj] at q1
      have EO:=hid (Le q1 q2).2
      have hsy:o.syms.length<=65535:=(J2 (Ho q2)).1.2.2.2.2.1
      have KP:=hid q3
      have Kw:=hid (HB.o.grown h5 (by simp))
      have Ri:=hid (HRW.o.kept h5 (by cases Value.ownBlock _ <;> simp))
      have QZ:=hid (fun j h h1 h2=>(M8.o j h h1 h2).kept h5)
      have Ru:=hid (Bw.o.grown h5 (by simp))
      have Rx:=hid (HST.o.kept h5 (by cases Value.ownBlock _ <;> simp))
      have Gq:=hid (ya vX.o h5)
      have hx5:X+1<=U5.heap.size:=Nat.le_trans hxs h5.size
      clear q1 q2 q3 cR ck h5 HB HRW M8 Bw HST vX
      have x1:U5.cell? ⟨X,1,none⟩=some (.slice am k cm):=Kw.o.cell 1
      have xf:=Kw.o.free 1
      have hcm:=pV Ri.o
      have CN:=hid (ysu U5 g)
      have AM:=hid (aH U5 (.cells #[aT g,.bool false] 159) none)
      have AU:=hid (Ri.o.alloc (.cells #[aT g,.bool false] 159))
      have XC:=hid (Kw.o.grown AM.o (by simp))
      have Yj:X≠w.heap.size:=by omega
      have STEP:=hid (fun (v':Value) (w3:World) (hown':w3.ownsRow (X+1) 159 2 v' (k+1) (oZ gs ++ [aT g,.bool false])) (hgrow:(U5.alloc (.cells #[aT g,.bool false] 159)).grownBy w3 (Value.ownBlock (.slice am k cm)))=>show (yc w3 X #[.bool true,.slice am k cm] 117)/\∃ (gs':List Nat),gs'.length=k+1/\yc (w3.setCell ⟨X,1,none⟩ v') X #[.bool true,v'] 117/\(w3.setCell ⟨X,1,none⟩ v').ownsRow (X+1) 159 2 v' (k+1) (oZ gs')/\(∀ j (h:j < k+1) (h1:j < gs'.length) (h2:j < ms.length),yu (w3.setCell ⟨X,1,none⟩ v') gs'[j] (xI ms[j]))/\yc (w3.setCell ⟨X,1,none⟩ v') w.heap.size #[.bool false,.slice none 0 0] 117/\(w3.setCell ⟨X,1,none⟩ v').ownsRow W1.heap.size 9 1 (.slice (some ⟨sg,0,none⟩) ms.length cv) ms.length (tu ms)/\w.grownBy (w3.setCell ⟨X,1,none⟩ v') none/\X+1<=(w3.setCell ⟨X,1,none⟩ v').heap.size by
       have RT:=bI.own AU.o
       have b3:=yK XC.o hgrow RT (by decide)
       have gS:=yf w3 X 1 v'
       have RP:=bI.blk b3
       refine ⟨b3,gs ++ [g],by simp [hgl],b3.set 1 v',?_,fun j h h1 h2=>?_,?_,?_,?_,?_⟩
       ·rw [<- yod]
        exact yy hown' gS RP (by decide)
       ·by_cases hjk:j < k
        ·rw [List.getElem_append_left (by omega)]
         exact rP (rP ((QZ.o j hjk (by omega) h2).kept AM.o) hgrow RT (by decide) (by decide) (by decide) (by decide)) gS RP (by decide) (by decide) (by decide) (by decide)
        ·obtain rfl:j=k:=by omega
         have e1:(gs ++ [g])[j]=g:=by simp [<- hgl]
         rw [e1,XI.o,EO.o]
         exact rP (rP (KP.o.kept AM.o) hgrow RT (by decide) (by decide) (by decide) (by decide)) gS RP (by decide) (by decide) (by decide) (by decide)
       ·exact (yK (Ru.o.grown AM.o (by simp)) hgrow RT (by decide)).grown gS (by simp; omega)
       ·exact yy (yy (Rx.o.alloc _) hgrow RT (by decide)) gS RP (by decide)
       ·exact yN (yN (ya Gq.o AM.o) hgrow (fun b e=>by have:=(AU.o.lt b e).1; omega)) gS (by intro b e; simp at e; omega)
       ·have:=gS.size
        have:=hgrow.size
        have:=AM.o.size
        omega)
      clear QZ KP Ru Rx Gq Kw
      unfold aT at CN AU STEP
      go_wp2_with (at_builtin; refine Ld _ rfl _ _ 115 rfl (X+1) 159 i0 (.agg #[.pointer none,.bool false]) 2 16 Tryz.underlying115 hi hz0 hz1 hz2 rfl (by decide) _ _ _ rfl AU.o ⟨U5.heap.size,0,none⟩ 1 1 [.pointer (some ⟨g,0,none⟩),.bool false] rfl rfl CN.o (by intro u hu; simp at hu; rcases hu with rfl | rfl <;> rfl) (by unfold maxLen; omega) (by omega) (by simp; omega) ?_; intro v' w3 hown' hgrow hblk; obtain ⟨mY,cv',rfl⟩:=yh hown'; obtain ⟨b3,gs',r1,r2,r3,r4,r5,r6,r7,r8⟩:=STEP.o _ _ hown' hgrow; have k1:=b3.cell 1; have k1f:=b3.free 1; have Q1:=hid r2; have Q2:=hid r3; have Q3:=hid r4; have Q4:=hid r5; have Q5:=hid r6; have Q6:=hid r7; have Q7:=hid r8; clear hgrow hown' b3 r2 r3 r4 r5 r6 r7 r8 hblk)
      go_roundw
      case rel=>exact ⟨k+1,gs',_,by omega,by go_num,r1,Q1.o,Q2.o,Q3.o,Q4.o,Q5.o,Q6.o,Q7.o⟩
      case measure=>simp [intOf]; omega
     ·exact absurd KI.o (OE (by rw [Dj] at q1; exact q1))
    ·obtain rfl:k=ms.length:=by omega
     have g3:decide ((ms.length:Int) < (ms.length:Int))=false:=by simp
     have x0:wr.cell? ⟨X,0,none⟩=some (.bool true):=HB.o.cell 0
     have x1:wr.cell? ⟨X,1,none⟩=some (.slice am ms.length cm):=HB.o.cell 1
     have z0:wr.cell? ⟨w.heap.size,0,none⟩=some (.bool false):=Bw.o.cell 0
     have z1:wr.cell? ⟨w.heap.size,1,none⟩=some (.slice none 0 0):=Bw.o.cell 1
     have f0:=Bw.o.free 0
     have f1:=Bw.o.free 1
     have Yj:X≠w.heap.size:=by omega
     have Yk:w.heap.size≠X:=by omega
     go_wp2
     have F2:=WM Bw.o (.bool true) (.slice am ms.length cm)
     have GF:=Qy vX.o w.heap.size (Nat.le_refl _) (.bool true) (.slice am ms.length cm)
     have BR:=(Bw.o.set 0 (.bool true)).set 1 (.slice am ms.length cm)
     have h0:=BR.cell 0
     have h1:=BR.cell 1
     simp only [fQ,fT,fP,bC,bG,bE] at h0 h1
     have Rv:=F2.own HRW.o (by decide)
     have FA:WU ((wr.setCell ⟨w.heap.size,0,none⟩ (.bool true)).setCell ⟨w.heap.size,1,none⟩ (.slice am ms.length cm)) w.heap.size (.agg #[.bool true,.slice am ms.length cm]) true (ms.map xI):=by
      rcases Rv.2 with ⟨q1,q2⟩ | ⟨mg,cap,cur,hv,hb,hg,r3,r4,r5,r6⟩
      ·omega
      ·simp only [Value.slice.injEq] at hv
       obtain ⟨rfl,-,rfl⟩:=hv
       refine ⟨mg,cm,gs,by simp,by omega,Uz hg (by rw [hgl]; exact r6) (by simp [hgl]) (fun i hi=>?_) (fun o ho=>?_),by simpa using r3,r4⟩
       ·simp only [pX] at hi
        rw [List.getElem_map]
        exact F2.obj (M8.o i hi (by omega) hi) (by decide) (by decide) (by decide) (by decide)
       ·obtain ⟨m,hm,rfl⟩:=List.mem_map.1 ho
        exact (J2 (Ho (IE.o m hm).1)).1.2.2.2.2.1
     refine bodyPost_ret (v:=.tuple #[.agg #[.bool true,.slice am ms.length cm],.bool true]) ?_ rfl ⟨.inl ⟨_,true,ms.map xI,.inr ⟨rfl,HI.o,ms,HA.o,rfl⟩,rfl,FA⟩,GF⟩
     clear FA Rv BR GF F2 x0 x1 z0 z1 f0 f1
     generalize World.setCell _ _ _=WF at *
     simp [results,Tryz.results64,go_sem,h0,h1]
  ·have N:=hid (show Kk (sl s) from ⟨HI.o,hA⟩)
   clear hA
   go_wp2
   have BR:=(B2.o.set 0 (.bool false)).set 1 (.slice none 0 0)
   have h0:=BR.cell 0
   have h1:=BR.cell 1
   simp only [fQ,fT,fP,bC,bG,bE] at h0 h1
   refine bodyPost_ret (v:=.tuple #[.agg #[.bool false,.slice none 0 0],.bool false]) ?_ rfl ⟨.inr ⟨N.o,rfl⟩,Qy G2.o w.heap.size (Nat.le_refl _) _ _⟩
   clear BR z0 z1 f0 f1
   generalize World.setCell _ _ _=WF at *
   simp [results,Tryz.results64,go_sem,h0,h1]
namespace Ln
def gq (os:List Lk.Obj) (x:Bool×List Lk.Obj):List Lk.Obj:=if x.1 then fZ (x.2.length+1) (nY x.2) os else os ++ x.2
def bD (xs:List (Bool×List Lk.Obj)):List Lk.Obj:=xs.foldl gq []
end Ln
theorem Mh (os:List Lk.Obj):(nY os).length=os.length:=by simp [nY]
theorem OH (os:List Lk.Obj):qA (nY os)=os.length:=by
 unfold qA nY
 rw [List.filter_eq_self.2 (by intro x hx; obtain ⟨o,_,rfl⟩:=List.mem_map.1 hx; rfl),pX]
set_option maxRecDepth 100000 in
theorem ykA (W0:World) (P:Nat) (bt bf bd:Int) (vm:Value) (bl gl:List Nat) (os:List Lk.Obj) (mg cm:Nat) (gs:List Nat) (a:Bool) (ms:List Lk.Obj) (W:World) (h:nX W0 P bt bf bd vm bl gl os W) (hm:qx W mg gs (nY ms)) (hc:bl.length+ms.length<=4096) (hml:W0.heap.size<=mg) (hcm:ms.length<=cm/\cm<=maxLen) :
  Calls Tryz.prog 65 #[aT P,.agg #[.bool a,.slice (some ⟨mg,0,none⟩) ms.length cm]] W fun e W'=>e = .returned (.tuple #[])/\(∃ JQ Jb Oa,nX W0 P bt bf bd JQ Jb Oa (Ln.gq os (a,ms)) W'/\Jb.length<=bl.length+ms.length)/\rO [121,125] mg W W':=by
 have A0:=hid (aH W (.cells #[.bool a,.slice (some ⟨mg,0,none⟩) ms.length cm] 117) none)
 have B0:=hid (yc.new W #[.bool a,.slice (some ⟨mg,0,none⟩) ms.length cm] 117)
 have H0:=hid (h.kept A0.o)
 have M0:=hid (hm.kept A0.o)
 have F0:=hid ((lX.grown (ts:=[121,125]) A0.o).x mg)
 have hcm2:=hcm.2
 unfold maxLen at hcm2
 have hmm:mg < W.heap.size:=by
  obtain ⟨cur,hb,-⟩:=hm.row
  exact hb.lt
 clear h hm
 cases a with
 | true =>
  have cT:=hid (Zu W0 P bt bf bd vm bl gl os mg cm gs (nY ms) _ H0.o M0.o (by rw [OH]; omega) hml (by rw [Mh]; omega) (by rw [Mh]; exact hcm))
  rw [Mh,OH] at cT
  have E:=hid (show Ln.gq os (true,ms)=Ln.fZ (ms.length+1) (nY ms) os from rfl)
  unfold aT at *
  go_enter Tryz.func65,Tryz.ntmps65
  go_wp2_with fail
  refine cT.o.mono ?_
  rintro e W5 ⟨rfl,hg,hf⟩
  have HG:=hid hg
  have HF:=hid (F0.o.trans hf)
  clear hg hf cT
  go_wp2
  (try simp only [Exit.inBlock,Exit.then]); refine bodyPost_ret (results_none rfl _ _ _) rfl ?_
  rw [E.o]
  exact ⟨rfl,HG.o,HF.o⟩
 | false =>
  have E:=hid (show Ln.gq os (false,ms)=os ++ ms from rfl)
  unfold aT at *
  go_enter Tryz.func65,Tryz.ntmps65
  go_wp2
  generalize W.alloc (.cells #[.bool false,.slice (some ⟨mg,0,none⟩) ms.length cm] 117)=W1 at *
  go_loopw [15] (fun i wr=>∃ (k:Nat) (ug zl:List Nat) (CX:Value),k<=ms.length/\i = .int .i64 k/\nX W0 P bt bf bd CX ug zl (os ++ ms.take k) wr/\qx wr mg gs (nY ms)/\ug.length=bl.length+k/\rO [121,125] mg W wr) (fun i _=>ms.length - (intOf i).toNat)
  case atStart=>exact ⟨0,bl,gl,vm,Nat.zero_le _,rfl,by simpa using H0.o,M0.o,rfl,F0.o⟩
  case round =>
   obtain ⟨k,ug,zl,CX,hk,rfl,hg,hm,hb,hf⟩:=hrel
   have HG:=hid hg
   have HM:=hid hm
   have HF:=hid hf
   clear hg hm hf H0 M0 F0
   by_cases hlt:k < ms.length
   ·have hk2:k < (nY ms).length:=by rw [Mh]; exact hlt
    obtain ⟨m0,m1,-⟩:=HM.o.cells k hk2
    have OB:=hid (HM.o.objs k hk2)
    have SY:=HM.o.syms _ (gW hk2)
    have e1:(nY ms)[k]=(ms[k],false):=by simp [nY]
    rw [e1] at m1 OB SY
    dsimp only at m1 OB SY
    have TK:=hid (show ms.take (k+1)=ms.take k ++ [ms[k]] from List.take_succ_eq_append_getElem hlt)
    unfold aT at m0
    generalize gs[k]'_=gj at *
    generalize ms[k]=oj at *
    have g1:(k:Int) < (ms.length:Int):=by omega
    have AL:=hid (aH wr (.cells #[.pointer (some ⟨gj,0,none⟩),.bool false] 159) none)
    have cT:=hid (VK W0 P bt bf bd CX ug zl (os ++ ms.take k) gj oj _ (HG.o.kept AL.o) (OB.o.kept AL.o) (by omega) SY)
    have Dq:=hid (HM.o.kept AL.o)
    have lS:=hid (HF.o.trans ((lX.grown AL.o).x mg))
    clear e1
    unfold aT at cT
    go_wp2_with fail
    refine cT.o.mono ?_
    rintro e W7 ⟨rfl,⟨Tn,b7,h7⟩,f7⟩
    have IB:=hid h7
    have jA:=hid (Dq.o.frame f7 (by decide) (by decide) (by decide) (by decide) (by decide))
    have Iy:=hid (lS.o.trans (f7.x mg))
    clear h7 f7 cT m0 m1
    go_wp2
    go_roundw
    case rel=>exact ⟨k+1,_,_,_,by omega,by go_num,by rw [TK.o,<- List.append_assoc]; exact IB.o,jA.o,by simp; omega,Iy.o⟩
    case measure=>simp [intOf]; omega
   ·obtain rfl:k=ms.length:=by omega
    have g3:decide ((ms.length:Int) < (ms.length:Int))=false:=by simp
    go_wp2
    go_end0
    rw [E.o]
    exact ⟨rfl,⟨CX,ug,zl,by have:=HG.o; rw [List.take_length] at this; exact this,by omega⟩,HF.o⟩
def Aw (w:World) (ao:Option Addr) (fs:List (List UInt8)):Prop :=
 0 < fs.length->∃ g off,ao=some ⟨g,off,none⟩/\∀ i (h:i < fs.length),w.cell? ⟨g,off+i,none⟩=some (.string (bs fs[i]))
theorem Aw.kept {w w':World} {ao:Option Addr} {fs:List (List UInt8)} (h:Aw w ao fs) (hg:w.grownBy w' none):Aw w' ao fs:=by
 intro hp
 obtain ⟨g,off,e,hc⟩:=h hp
 exact ⟨g,off,e,fun i hi=>yd (hc i hi) hg⟩
theorem Tryz.zu:(Tryz.prog.info? 117).map (fun i=>(i.zero,i.size,i.bytes))=some (some (.agg #[.bool false,.slice none 0 0]),2,32):=by kernel_rfl
structure FR where
 a:Bool
 mg:Nat
 n:Nat
 cap:Nat
def Ih (r:FR):List Value:=[.bool r.a,.slice (some ⟨r.mg,0,none⟩) r.n r.cap]
def vS (W:World) (r:FR) (x:Bool×List Lk.Obj):Prop:=r.a=x.1/\r.n=x.2.length/\∃ gs,qx W r.mg gs (nY x.2)/\x.2.length<=r.cap/\r.cap<=maxLen
structure Dc (W:World) (B:Nat) (v:Value) (fl:List FR) (xs:List (Bool×List Lk.Obj)):Prop where
 len:fl.length=xs.length
 row:W.ownsRow B 117 2 v xs.length (fl.flatMap Ih)
 at_:∀ i (h:i < xs.length),vS W (fl[i]'(by rw [len]; exact h)) xs[i]
 pair:fl.Pairwise (fun r s=>r.mg < s.mg)
 bnd:∀ r∈fl,B<=r.mg/\r.mg < W.heap.size
section
variable {W W' w3:World} {B:Nat} {v v':Value} {r:FR} {fl:List FR} {xs:List (Bool×List Lk.Obj)} {x:Bool×List Lk.Obj}
theorem vS.frame {ts:List TypeId} (h:vS W r x) (hf:lX ts W W') (h0:159 ∉ ts) (h1:71 ∉ ts) (h2:3 ∉ ts) (h3:100 ∉ ts) (h4:102 ∉ ts):vS W' r x:=by
 obtain ⟨q0,q1,gs,q2,q3⟩:=h
 exact ⟨q0,q1,gs,q2.frame hf h0 h1 h2 h3 h4,q3⟩
theorem vS.Ez {ts:List TypeId} {mg:Nat} (h:vS W r x) (hf:rO ts mg W W') (hne:r.mg≠mg) (hO:∀ g o,yu W g o->yu W' g o) (h0:159 ∉ ts):vS W' r x:=by
 obtain ⟨q0,q1,gs,q2,q3⟩:=h
 obtain ⟨cur,hb,hc⟩:=q2.row
 exact ⟨q0,q1,gs,⟨q2.len,⟨cur,hf _ _ _ hb h0 hne,hc⟩,fun i hi=>hO _ _ (q2.objs i hi),q2.syms⟩,q3⟩
theorem rO.frame {ts:List TypeId} {mg:Nat} {cur:Array Value} {t0:TypeId} (hf:rO ts mg W W') (hb:yc W mg cur t0):lX (t0 :: ts) W W':=fun k cs t hk ht=>hf k cs t hk (fun c=>ht (List.mem_cons_of_mem _ c)) (by
 rintro rfl
 have:=hb.symm.trans hk
 simp at this
 exact ht (by rw [this.2]; exact List.mem_cons_self))
theorem vS.kept (h:vS W r x) (hg:W.grownBy W' none):vS W' r x:=h.frame (ts:=[]) (lX.grown hg) (by simp) (by simp) (by simp) (by simp) (by simp)
theorem Dc.kept (h:Dc W B v fl xs) (hg:W.grownBy W' none):Dc W' B v fl xs :=
 ⟨h.len,h.row.kept hg (by cases v.ownBlock <;> simp),fun i hi=>(h.at_ i hi).kept hg,h.pair,fun m hm=>⟨(h.bnd m hm).1,Nat.lt_of_lt_of_le (h.bnd m hm).2 hg.size⟩⟩
theorem Dc.more (h:Dc W B v fl xs) (hf:vS W r x) (Yt:∀ q∈fl,q.mg < r.mg) (hB:B<=r.mg) (hmw:r.mg < W.heap.size) (hown:w3.ownsRow B 117 2 v' (xs.length+1) (fl.flatMap Ih ++ Ih r)) (hg:W.grownBy w3 v.ownBlock):Dc w3 B v' (fl ++ [r]) (xs ++ [x]):=by
 have FR:lX [117] W w3:=lX.row hg (bI.own h.row) (by simp)
 refine ⟨by simp [h.len],by simpa using hown,fun i hi=>?_,?_,fun m hm=>?_⟩
 ·by_cases hlt:i < xs.length
  ·rw [List.getElem_append_left (by rw [h.len]; exact hlt),List.getElem_append_left hlt]
   exact (h.at_ i hlt).frame FR (by decide) (by decide) (by decide) (by decide) (by decide)
  ·have hi2:i=xs.length:=by simp at hi; omega
   subst hi2
   have e2:(fl ++ [r])[xs.length]'(by simp [h.len])=r:=by simp [<- h.len]
   have e3:(xs ++ [x])[xs.length]=x:=by simp
   rw [e2,e3]
   exact hf.frame FR (by decide) (by decide) (by decide) (by decide) (by decide)
 ·rw [List.pairwise_append]
  exact ⟨h.pair,List.pairwise_singleton _ _,fun y hy z hz=>by simp at hz; subst hz; exact Yt y hy⟩
 ·rcases List.mem_append.1 hm with hm | hm
  ·exact ⟨(h.bnd m hm).1,Nat.lt_of_lt_of_le (h.bnd m hm).2 hg.size⟩
  ·simp at hm; subst hm; exact ⟨hB,Nat.lt_of_lt_of_le hmw hg.size⟩
end
theorem yst (U:World) (b:Bool) (OC:Value):∀ j u,[Value.bool b,OC][j]?=some u->(U.alloc (.cells #[.bool b,OC] 117)).cell? ((⟨U.heap.size,0,none⟩:Addr).add j)=some u:=by
 intro j u hu
 have e:(⟨U.heap.size,0,none⟩:Addr).add j=⟨U.heap.size,j,none⟩:=by
  unfold Addr.add
  by_cases h0:j=0
  ·subst h0; simp
  ·simp [h0]
 rw [e,(yc.new U #[.bool b,OC] 117).cell j]
 simpa using hu
def yno (W0:World) (bt bf bd:Int) (fs:List (List UInt8)) (e:Ending) (w':World):Prop :=
 (∃ f:Ln.pO,f.e≠0/\e = .returned (.tuple #[.pointer none,fF f]) /\
  (f=nZ bt bf bd \/
  (nZ bt bf bd=Ln.ok/\(fs.length < 1\/8 < fs.length)/\f=⟨31,0,[]⟩) \/
  (nZ bt bf bd=Ln.ok/\1<=fs.length/\fs.length<=8/\∃ i,∃ h:i < fs.length,f=⟨32,i,[]⟩/\Kk fs[i]/\∀ j (hj:j < i),∃ a os,rX (fs[j]'(by omega)) a os))) \/
 (nZ bt bf bd=Ln.ok/\1<=fs.length/\fs.length<=8/\∃ (xs:List (Bool×List Lk.Obj)) (hx:xs.length=fs.length) (P:Nat) (vm:Value) (bl gl:List Nat),(∀ i (h:i < fs.length),rX fs[i] (xs[i]'(by omega)).1 (xs[i]'(by omega)).2)/\e = .returned (.tuple #[aT P,fF Ln.ok])/\nX W0 P bt bf bd vm bl gl (Ln.bD xs) w')
theorem vM {w:World} {g:Nat} {cs:Array Value} {t:TypeId} (h:yc w g cs t):yc w.drew g cs t:=h.drewN 1
theorem yqn (bt bf bd:Int) (f:Ln.pO) (h:f=nZ bt bf bd) (he:f.e=0):f=Ln.ok:=by
 subst h
 unfold nZ at he ⊢
 by_cases h1:¬ Im.Base bt
 ·rw [if_pos h1] at he; cases he
 rw [if_neg h1] at he ⊢
 by_cases h2:¬ Im.Base bf
 ·rw [if_pos h2] at he; cases he
 rw [if_neg h2] at he ⊢
 by_cases h3:¬ Im.Base bd
 ·rw [if_pos h3] at he; cases he
 rw [if_neg h3]
set_option maxRecDepth 100000 in
theorem ymv (bt bf bd:Int) (af:Option Addr) (cf:Nat) (fs:List (List UInt8)) (w:World) (hin:Aw w af fs) (hsz:∀ f∈fs,f.length<=1048576) (ht:dz w) (hn:fs.length<=1048576) :
  Calls Tryz.prog 37 #[.slice af fs.length cf,.agg #[.int .i64 bt,.int .i64 bf,.int .i64 bd]] w fun e w'=>yno w bt bf bd fs e w'/\w.grownBy w' none:=by
 have cB:=hid (fun W=>Zd bt bf bd W)
 have hs1:(w.alloc (.cells #[.int .i64 bt,.int .i64 bf,.int .i64 bd] 33)).heap.size=w.heap.size+1:=Array.size_push _
 have A1:=aH (w.alloc (.cells #[.int .i64 bt,.int .i64 bf,.int .i64 bd] 33)) (.cells #[.int .i64 0,.int .i64 0,.string ⟨#[]⟩] 45) none
 have G1:=hid (ya (aH w (.cells #[.int .i64 bt,.int .i64 bf,.int .i64 bd] 33) none) A1)
 have BB:=hid ((yc.new w #[.int .i64 bt,.int .i64 bf,.int .i64 bd] 33).grown A1 (by simp))
 have BF:=hid (yc.new (w.alloc (.cells #[.int .i64 bt,.int .i64 bf,.int .i64 bd] 33)) #[.int .i64 0,.int .i64 0,.string ⟨#[]⟩] 45)
 rw [hs1] at BF
 have HI:=hid hin
 have HT:=hid ht
 clear hs1 A1 hin ht
 obtain ⟨f,hf⟩:∃ f,f=nZ bt bf bd:=⟨_,rfl⟩
 rw [<- hf] at cB
 have Bt:=hid hf
 clear hf
 unfold fF at cB
 go_enter Tryz.func37,Tryz.ntmps37
 go_wp2_with fail
 refine (cB.o _).mono ?_
 rintro e W2 ⟨rfl,h2⟩
 have G2:=hid (ya G1.o h2)
 have Xq:=hid (BB.o.grown h2 (by simp))
 have xO:=hid (BF.o.grown h2 (by simp))
 clear h2 cB BB BF G1
 have z0:W2.cell? ⟨w.heap.size+1,0,none⟩=some (.int .i64 0):=xO.o.cell 0
 have z1:W2.cell? ⟨w.heap.size+1,1,none⟩=some (.int .i64 0):=xO.o.cell 1
 have z2:W2.cell? ⟨w.heap.size+1,2,none⟩=some (.string ⟨#[]⟩):=xO.o.cell 2
 have f0:=xO.o.free 0
 have f1:=xO.o.free 1
 have f2:=xO.o.free 2
 have hlF:=xO.o.lt
 have hnF:w.heap.size+1≠W2.heap.size:=by omega
 by_cases he:f.e=0
 case neg =>
  have d1:(f.e == 0)=false:=by simpa using he
  have HE:=hid he
  go_wp2
  have BX:=hid (yc.new W2 #[.int .i64 f.e,.int .i64 f.at_,.string (bs f.name)] 45)
  have AX:=hid (aH W2 (.cells #[.int .i64 f.e,.int .i64 f.at_,.string (bs f.name)] 45) none)
  have AJ:=hid (xO.o.grown AX.o (by simp))
  have G3:=hid (ya G2.o AX.o)
  clear z0 z1 z2 f0 f1 f2
  generalize hV:W2.alloc (.cells #[.int .i64 f.e,.int .i64 f.at_,.string (bs f.name)] 45)=V at *
  generalize hX:W2.heap.size=X at *
  have z0:V.cell? ⟨w.heap.size+1,0,none⟩=some (.int .i64 0):=AJ.o.cell 0
  have z1:V.cell? ⟨w.heap.size+1,1,none⟩=some (.int .i64 0):=AJ.o.cell 1
  have z2:V.cell? ⟨w.heap.size+1,2,none⟩=some (.string ⟨#[]⟩):=AJ.o.cell 2
  have f0:=AJ.o.free 0
  have f1:=AJ.o.free 1
  have f2:=AJ.o.free 2
  have x0:V.cell? ⟨X,0,none⟩=some (.int .i64 f.e):=BX.o.cell 0
  have x1:V.cell? ⟨X,1,none⟩=some (.int .i64 f.at_):=BX.o.cell 1
  have x2:V.cell? ⟨X,2,none⟩=some (.string (bs f.name)):=BX.o.cell 2
  go_region_held3 (fun w'=>w'.cell? ⟨X,0,none⟩=some (.int .i64 f.e)/\w'.cell? ⟨X,1,none⟩=some (.int .i64 f.at_)/\w'.cell? ⟨X,2,none⟩=some (.string (bs f.name)))
   (go_keep)
   (fail)
  go_wp2
  have F:=vM (((AJ.o.set 0 (.int .i64 f.e)).set 1 (.int .i64 f.at_)).set 2 (.string (bs f.name)))
  have h0:=F.cell 0
  have h1:=F.cell 1
  have h2:=F.cell 2
  simp only [fQ,fT,fP,bC,bG,bE] at h0 h1 h2
  refine bodyPost_ret (v:=.tuple #[.pointer none,fF f]) ?_ rfl ⟨.inl ⟨f,HE.o,rfl,.inl Bt.o⟩,yi (yx G3.o _ (by omega) _ _ _)⟩
  clear F z0 z1 z2 f0 f1 f2 x0 x1 x2 AJ BX
  generalize World.drew _=WF at *
  simp [results,Tryz.results37,go_sem,fF,h0,h1,h2]
 case pos =>
  have hok:f=Ln.ok:=yqn bt bf bd f Bt.o he
  subst hok
  by_cases hc:1<=fs.length/\fs.length<=8
  case neg =>
   have FIN:=hid (show (fs.length < 1\/8 < fs.length) by omega)
   unfold Ln.ok
   by_cases h1:fs.length < 1
   ·have d2:decide ((fs.length:Int) < 1)=true:=by simp; omega
    go_wp2
    have F:=(((xO.o.set 0 (.int .i64 31)).set 1 (.int .i64 0)).set 2 (.string ⟨#[]⟩)).grown (aH _ (.cells #[.int .i64 0,.int .i64 0,.string (bs [])] 45) none) (by simp)
    have h0:=F.cell 0
    have h1:=F.cell 1
    have h2:=F.cell 2
    simp only [fQ,fT,fP,bC,bG,bE] at h0 h1 h2
    refine bodyPost_ret (v:=.tuple #[.pointer none,fF ⟨31,0,[]⟩]) ?_ rfl ⟨.inl ⟨⟨31,0,[]⟩,by decide,rfl,.inr (.inl ⟨Bt.o.symm,FIN.o,rfl⟩)⟩,ya (yx G2.o _ (by omega) _ _ _) (aH _ _ none)⟩
    clear F z0 z1 z2 f0 f1 f2
    generalize World.alloc _ _=WF at *
    simp [results,Tryz.results37,go_sem,fF,bs,h0,h1,h2]
   ·have d2:decide ((fs.length:Int) < 1)=false:=by simp; omega
    have d3:decide ((8:Int) < (fs.length:Int))=true:=by simp; omega
    go_wp2
    have F:=(((xO.o.set 0 (.int .i64 31)).set 1 (.int .i64 0)).set 2 (.string ⟨#[]⟩)).grown (aH _ (.cells #[.int .i64 0,.int .i64 0,.string (bs [])] 45) none) (by simp)
    have h0:=F.cell 0
    have h1:=F.cell 1
    have h2:=F.cell 2
    simp only [fQ,fT,fP,bC,bG,bE] at h0 h1 h2
    refine bodyPost_ret (v:=.tuple #[.pointer none,fF ⟨31,0,[]⟩]) ?_ rfl ⟨.inl ⟨⟨31,0,[]⟩,by decide,rfl,.inr (.inl ⟨Bt.o.symm,FIN.o,rfl⟩)⟩,ya (yx G2.o _ (by omega) _ _ _) (aH _ _ none)⟩
    clear F z0 z1 z2 f0 f1 f2
    generalize World.alloc _ _=WF at *
    simp [results,Tryz.results37,go_sem,fF,bs,h0,h1,h2]
  case pos =>
   have d2:decide ((fs.length:Int) < 1)=false:=by simp; omega
   have d3:decide ((8:Int) < (fs.length:Int))=false:=by simp; omega
   have AX:=hid (aH W2 (.cells #[.int .i64 0,.int .i64 0,.string (bs [])] 45) none)
   have AJ:=hid (xO.o.grown AX.o (by simp))
   have Xr:=hid (Xq.o.grown AX.o (by simp))
   have G3:=hid (ya G2.o AX.o)
   have hs3:(W2.alloc (.cells #[.int .i64 0,.int .i64 0,.string (bs [])] 45)).heap.size=W2.heap.size+1:=Array.size_push _
   have HS3:=hid hs3
   clear hs3 z0 z1 z2 f0 f1 f2
   obtain ⟨i0,hi,hz0,hz1,hz2⟩:=info_parts Tryz.zu
   unfold Ln.ok
   go_wp2
   generalize W2.alloc (.cells #[.int .i64 0,.int .i64 0,.string (bs [])] 45)=W3 at *
   go_loopw [7,32] (fun vl i wr=>∃ (k:Nat) (fl:List FR) (xs:List (Bool×List Lk.Obj)),k<=fs.length/\i = .int .i64 k/\xs.length=k/\(∀ j (h:j < k) (h1:j < fs.length) (h2:j < xs.length),rX fs[j] xs[j].1 xs[j].2)/\Dc wr w.heap.size vl fl xs/\yc wr w.heap.size #[.int .i64 bt,.int .i64 bf,.int .i64 bd] 33/\yc wr (w.heap.size+1) #[.int .i64 0,.int .i64 0,.string ⟨#[]⟩] 45/\w.grownBy wr none) (fun _ i _=>fs.length - (intOf i).toNat)
   case atStart=>exact ⟨0,[],[],Nat.zero_le _,rfl,rfl,fun j h=>by omega,⟨rfl,World.ownsRow_nil _ _ _ _,fun i h=>by simp at h,List.Pairwise.nil,fun m hm=>by simp at hm⟩,Xr.o,AJ.o,G3.o⟩
   case round =>
    obtain ⟨k,fl,xs,hk,rfl,hxl,hfi,hfa,hbb,hbf,hgw⟩:=hrel
    obtain ⟨al,cl,rfl⟩:=yh hfa.row
    have KF:=hid hfi
    have KE:=hid hfa
    have mV:=hid hbb
    have tZ:=hid hbf
    have vX:=hid hgw
    clear hfi hfa hbb hbf hgw
    by_cases hlt:k < fs.length
    ·obtain ⟨sg,off,hsg,hsc⟩:=HI.o.kept vX.o (by omega)
     have ck:=hsc k hlt
     have cR:=hid (ykh (bs fs[k]) wr (HT.o.grown vX.o) (by rw [Ao]; exact hsz _ (gW hlt)))
     rw [Dj] at cR
     have g1:(k:Int) < (fs.length:Int):=by omega
     generalize Ta:fs[k]=fk at *
     have QW:=hid Ta
     clear hsc Ta
     subst hsg
     go_wp2_with fail
     refine cR.o.mono ?_
     rintro e U5 ⟨Oo,h5⟩
     rcases Oo with ⟨v,a,os,q1,rfl,mg,cap,gs,rfl,q2,q3,q4,q5⟩ | ⟨q1,rfl⟩
     ·have FM:=hid (show vS U5 ⟨a,mg,os.length,cap⟩ (a,os) from ⟨rfl,rfl,gs,q3,q4,q5⟩)
      have QI:=hid q1
      have Yr:mg < U5.heap.size:=by
       obtain ⟨cur,hb,-⟩:=q3.row
       exact hb.lt
      have hsz5:=h5.size
      have QN:=hid (KE.o.kept h5)
      have QF:=hid (mV.o.grown h5 (by simp))
      have xP:=hid (tZ.o.grown h5 (by simp))
      have Gq:=hid (ya vX.o h5)
      have BN:=hid (fun (q:FR) (hq:q∈fl)=>show q.mg < (⟨a,mg,os.length,cap⟩:FR).mg from Nat.lt_of_lt_of_le (KE.o.bnd q hq).2 q2)
      have hwl:=vX.o.size
      clear q1 q3 h5 cR ck KE mV tZ vX
      have A1:=hid (aH U5 (.cells #[.bool a,.slice (some ⟨mg,0,none⟩) os.length cap] 117) none)
      have Ry:(U5.alloc (.cells #[.bool a,.slice (some ⟨mg,0,none⟩) os.length cap] 117)).heap.size=U5.heap.size+1:=Array.size_push _
      have A2:=hid (aH (U5.alloc (.cells #[.bool a,.slice (some ⟨mg,0,none⟩) os.length cap] 117)) (.cells #[.bool a,.slice (some ⟨mg,0,none⟩) os.length cap] 117) none)
      have CN:=hid (yst (U5.alloc (.cells #[.bool a,.slice (some ⟨mg,0,none⟩) os.length cap] 117)) a (.slice (some ⟨mg,0,none⟩) os.length cap))
      rw [Ry] at CN
      have MR:=hid (QN.o.kept (ya A1.o A2.o))
      have AU:=hid MR.o.row
      have hcl:=pV AU.o
      have SC:w.heap.size<=((U5.alloc (.cells #[.bool a,.slice (some ⟨mg,0,none⟩) os.length cap] 117)).alloc (.cells #[.bool a,.slice (some ⟨mg,0,none⟩) os.length cap] 117)).heap.size:=Nat.le_trans Gq.o.size (ya A1.o A2.o).size
      have XB:=hid SC
      rw [hxl] at AU hcl
      have STEP:=hid (fun (v':Value) (w3:World) (hown':w3.ownsRow w.heap.size 117 2 v' (k+1) (fl.flatMap Ih ++ [.bool a,.slice (some ⟨mg,0,none⟩) os.length cap])) (hgrow:((U5.alloc (.cells #[.bool a,.slice (some ⟨mg,0,none⟩) os.length cap] 117)).alloc (.cells #[.bool a,.slice (some ⟨mg,0,none⟩) os.length cap] 117)).grownBy w3 (Value.ownBlock (.slice al k cl)))=>show Dc w3 w.heap.size v' (fl ++ [⟨a,mg,os.length,cap⟩]) (xs ++ [(a,os)])/\yc w3 w.heap.size #[.int .i64 bt,.int .i64 bf,.int .i64 bd] 33/\yc w3 (w.heap.size+1) #[.int .i64 0,.int .i64 0,.string ⟨#[]⟩] 45/\w.grownBy w3 none by
       have A:=ya A1.o A2.o
       have RT:=bI.own AU.o
       refine ⟨?_,yK (QF.o.grown A (by simp)) hgrow RT (by decide),yK (xP.o.grown A (by simp)) hgrow RT (by decide),yN (ya Gq.o A) hgrow (fun b e=>(AU.o.lt b e).1)⟩
       refine Dc.more MR.o (FM.o.kept A) BN.o (show w.heap.size<=mg by omega) (show mg < _ from Nat.lt_of_lt_of_le Yr A.size) (by rw [hxl]; exact hown') (by rw [hxl]; exact hgrow))
      clear Ry SC QN QF xP Gq FM BN MR
      have Br:=hid (show ∀ j (h:j < k+1) (h1:j < fs.length) (h2:j < (xs ++ [(a,os)]).length),rX fs[j] (xs ++ [(a,os)])[j].1 (xs ++ [(a,os)])[j].2 from fun j h h1 h2=>by
       by_cases hj:j < k
       ·rw [List.getElem_append_left (by omega)]
        exact KF.o j hj h1 (by omega)
       ·obtain rfl:j=k:=by omega
        have e1:(xs ++ [(a,os)])[j]=(a,os):=by simp [<- hxl]
        rw [e1,QW.o]
        exact QI.o)
      rw [hxl]
      go_wp2_with (at_builtin; refine Ld _ rfl _ _ 114 rfl w.heap.size 117 i0 (.agg #[.bool false,.slice none 0 0]) 2 32 Tryz.underlying114 hi hz0 hz1 hz2 rfl (by decide) _ _ _ rfl AU.o ⟨U5.heap.size+1,0,none⟩ 1 1 [.bool a,.slice (some ⟨mg,0,none⟩) os.length cap] rfl rfl CN.o (by intro u hu; simp at hu; rcases hu with rfl | rfl <;> rfl) (by unfold maxLen; omega) (by omega) XB.o ?_; intro v' w3 hown' hgrow hblk; obtain ⟨mY,cv',rfl⟩:=yh hown'; obtain ⟨r1,r2,r3,r4⟩:=STEP.o _ _ hown' hgrow; have Q1:=hid r1; have Q2:=hid r2; have Q3:=hid r3; have Q4:=hid r4; clear hgrow hown' r1 r2 r3 r4 hblk)
      go_roundw
      case rel=>exact ⟨k+1,_,_,by omega,by go_num,by simp [hxl],Br.o,Q1.o,Q2.o,Q3.o,Q4.o⟩
      case measure=>simp [intOf]; omega
     ·have N:=hid q1
      have xP:=hid (tZ.o.grown h5 (by simp))
      have G5:=hid (ya vX.o h5)
      have hR5:=xP.o.lt
      have Yi:w.heap.size+1≠U5.heap.size:=by omega
      have z0:U5.cell? ⟨w.heap.size+1,0,none⟩=some (.int .i64 0):=xP.o.cell 0
      have z1:U5.cell? ⟨w.heap.size+1,1,none⟩=some (.int .i64 0):=xP.o.cell 1
      have z2:U5.cell? ⟨w.heap.size+1,2,none⟩=some (.string ⟨#[]⟩):=xP.o.cell 2
      have f0:=xP.o.free 0
      have f1:=xP.o.free 1
      have f2:=xP.o.free 2
      clear q1 h5 cR ck
      go_wp2
      have F:=(((xP.o.set 0 (.int .i64 32)).set 1 (.int .i64 k)).set 2 (.string ⟨#[]⟩)).grown (aH _ (.cells #[.bool false,.slice none 0 0] 117) none) (by simp)
      have h0:=F.cell 0
      have h1:=F.cell 1
      have h2:=F.cell 2
      simp only [fQ,fT,fP,bC,bG,bE] at h0 h1 h2
      refine bodyPost_ret (v:=.tuple #[.pointer none,fF ⟨32,k,[]⟩]) ?_ rfl ⟨.inl ⟨⟨32,k,[]⟩,(show (32:Int)≠0 by decide),rfl,.inr (.inr ⟨Bt.o.symm,hc.1,hc.2,k,hlt,rfl,by rw [QW.o]; exact N.o,fun j hj=>⟨_,_,KF.o j hj (by omega) (by omega)⟩⟩)⟩,ya (yx G5.o _ (by omega) _ _ _) (aH _ _ none)⟩
      clear F z0 z1 z2 f0 f1 f2
      generalize World.alloc _ _=WF at *
      simp [results,Tryz.results37,go_sem,fF,bs,h0,h1,h2]
    ·obtain rfl:k=fs.length:=by omega
     have g3:decide ((fs.length:Int) < (fs.length:Int))=false:=by simp
     have b0:wr.cell? ⟨w.heap.size,0,none⟩=some (.int .i64 bt):=mV.o.cell 0
     have b1:wr.cell? ⟨w.heap.size,1,none⟩=some (.int .i64 bf):=mV.o.cell 1
     have b2:wr.cell? ⟨w.heap.size,2,none⟩=some (.int .i64 bd):=mV.o.cell 2
     have AP:=hid (aH wr (.cells #[.int .i64 bt,.int .i64 bf,.int .i64 bd,.slice none 0 0,.pointer none,.int .i64 0,.int .i64 0,.int .i64 0] 125) none)
     have BP:=hid (yc.new wr #[.int .i64 bt,.int .i64 bf,.int .i64 bd,.slice none 0 0,.pointer none,.int .i64 0,.int .i64 0,.int .i64 0] 125)
     have hwr:=vX.o.size
     have Xz:=hid (show nX w wr.heap.size bt bf bd (.slice none 0 0) [] [] [] (wr.alloc (.cells #[.int .i64 bt,.int .i64 bf,.int .i64 bd,.slice none 0 0,.pointer none,.int .i64 0,.int .i64 0,.int .i64 0] 125)) from ⟨BP.o,World.ownsRow_nil _ _ _ _,rfl,rfl,fun i h=>by simp at h,fun i h=>by simp at h,by simp,fun o ho=>by simp at ho,hwr,fun b hb=>by simp at hb,ya vX.o AP.o,List.nodup_nil⟩)
     have Il:=hid (KE.o.kept AP.o)
     have Xt:=hid (tZ.o.grown AP.o (by simp))
     have LN:=hid (show ∀ i (h:i < xs.length),xs[i].2.length<=6 from fun i h=>by
      rcases KF.o i (by omega) (by omega) h with ⟨-,-,e⟩ | ⟨-,-,ms,e,e2⟩
      ·rw [e]; simp
      ·rw [e2]; simpa using e.1.2)
     rw [hxl]
     go_wp2
     generalize wr.alloc (.cells #[.int .i64 bt,.int .i64 bf,.int .i64 bd,.slice none 0 0,.pointer none,.int .i64 0,.int .i64 0,.int .i64 0] 125)=W4 at *
     generalize SG:wr.heap.size=P at *
     have HPP:=hid SG
     clear SG b0 b1 b2
     go_loopw [56] (fun i wr2=>∃ (k:Nat) (bl gl:List Nat) (vm:Value),k<=xs.length/\i = .int .i64 k/\nX w P bt bf bd vm bl gl (Ln.bD (xs.take k)) wr2/\bl.length<=6 * k/\(∀ i (h1:i < fl.length) (h:i < xs.length),k<=i->vS wr2 fl[i] xs[i])/\wr2.ownsRow w.heap.size 117 2 (.slice al xs.length cl) xs.length (fl.flatMap Ih)/\yc wr2 (w.heap.size+1) #[.int .i64 0,.int .i64 0,.string ⟨#[]⟩] 45) (fun i _=>xs.length - (intOf i).toNat)
     case atStart=>exact ⟨0,[],[],_,Nat.zero_le _,rfl,Xz.o,Nat.le_refl _,fun i h1 h _=>Il.o.at_ i h,Il.o.row,Xt.o⟩
     case round =>
      obtain ⟨k,bl,gl,vm,hk2,rfl,hga,hbl,hfr,hrw,hbf⟩:=hrel
      have QX:=hid hga
      have Gr:=hid hfr
      have HRW:=hid hrw
      have tZ:=hid hbf
      clear hga hfr hrw hbf
      by_cases hlt:k < xs.length
      ·have hkl:k < fl.length:=by rw [Il.o.len]; exact hlt
       obtain ⟨sg,hsg⟩:∃ sg,al=some ⟨sg,0,none⟩:=by
        rcases HRW.o.2 with ⟨h1,h2⟩ | ⟨g,cap',cur,hv,_⟩
        ·simp at h1; omega
        ·simp only [Value.slice.injEq] at hv
         exact ⟨g,hv.1⟩
       subst hsg
       have q:=fun j (hj:j < 2)=>(HRW.o.cellAt (k * 2+j) (by omega)).trans (Hu Ih 2 (fun _=>rfl) fl k j hkl hj)
       have m0:wr.cell? ⟨sg,k * 2,none⟩=some (.bool fl[k].a):=q 0 (by omega)
       have m1:wr.cell? ⟨sg,k * 2+1,none⟩=some (.slice (some ⟨fl[k].mg,0,none⟩) fl[k].n fl[k].cap):=q 1 (by omega)
       clear q
       obtain ⟨e0,e1,gs,hm,hcm⟩:=Gr.o k hkl hlt (Nat.le_refl _)
       rw [e0] at m0
       rw [e1] at m1
       have HL:=LN.o k hlt
       have TK:=hid (show Ln.bD (xs.take (k+1))=Ln.gq (Ln.bD (xs.take k)) xs[k] by
        unfold Ln.bD
        rw [List.take_succ_eq_append_getElem hlt,List.foldl_append]
        rfl)
       have Xv:=Il.o.bnd _ (gW hkl)
       have NE:=hid (show ∀ i (h1:i < fl.length),k+1<=i->fl[i].mg≠fl[k].mg from fun i h1 hi=>by
        have:=(List.pairwise_iff_getElem.1 Il.o.pair) k i hkl h1 (by omega)
        omega)
       generalize hr:fl[k]=r at *
       generalize hx:xs[k]=x at *
       obtain ⟨ra,Tj,rn,JJ⟩:=r
       obtain ⟨xa,xo⟩:=x
       dsimp only at *
       subst e0 e1
       have AL:=hid (aH wr (.cells #[.bool ra,.slice (some ⟨Tj,0,none⟩) xo.length JJ] 117) none)
       have cT:=hid (ykA w P bt bf bd vm bl gl (Ln.bD (xs.take k)) Tj JJ gs ra xo _ (QX.o.kept AL.o) (hm.kept AL.o) (by omega) Xv.1 hcm)
       have HM:=hid (hm.kept AL.o)
       clear hm
       have g1:(k:Int) < (xs.length:Int):=by omega
       have hcm2:=hcm.2
       unfold maxLen at hcm2
       unfold aT at cT
       go_wp2_with fail
       refine cT.o.mono ?_
       rintro e W7 ⟨rfl,⟨Tn,b7,g7,h7,l7⟩,f7⟩
       have IB:=hid h7
       obtain ⟨cur,hcb,-⟩:=HM.o.row
       have Ku:=f7.frame hcb
       have Iy:=hid (show ∀ i (h1:i < fl.length) (h:i < xs.length),k+1<=i->vS W7 fl[i] xs[i] from fun i h1 h hi=>((Gr.o i h1 h (by omega)).kept AL.o).Ez f7 (NE.o i h1 hi) (fun g o ho=>Ku.obj ho (by decide) (by decide) (by decide) (by decide)) (by decide))
       have XZ:=hid (Ku.own (HRW.o.kept AL.o (Decidable.em _)) (by decide))
       have Xu:=hid (Ku _ _ _ (tZ.o.grown AL.o (by simp)) (by decide))
       clear h7 f7 cT m0 m1 Ku
       go_wp2
       go_roundw
       case rel=>exact ⟨k+1,_,_,_,by omega,by go_num,by rw [TK.o]; exact IB.o,by omega,Iy.o,XZ.o,Xu.o⟩
       case measure=>simp [intOf]; omega
      ·obtain rfl:k=xs.length:=by omega
       have g3:decide ((xs.length:Int) < (xs.length:Int))=false:=by simp
       have z0:wr.cell? ⟨w.heap.size+1,0,none⟩=some (.int .i64 0):=tZ.o.cell 0
       have z1:wr.cell? ⟨w.heap.size+1,1,none⟩=some (.int .i64 0):=tZ.o.cell 1
       have z2:wr.cell? ⟨w.heap.size+1,2,none⟩=some (.string ⟨#[]⟩):=tZ.o.cell 2
       have f0:=tZ.o.free 0
       have f1:=tZ.o.free 1
       have f2:=tZ.o.free 2
       have hR:=tZ.o.lt
       go_wp2
       have c0:=tZ.o.set 0 (.int .i64 0)
       have c1:=c0.set 1 (.int .i64 0)
       have F:=c1.set 2 (.string ⟨#[]⟩)
       have Gs:∀ b,some (w.heap.size+1)=some b->w.heap.size<=b:=fun b e=>by simp at e; omega
       have GF:=(((QX.o.ty (yf _ _ 0 (.int .i64 0)) (bI.blk tZ.o) Gs (by decide) (by decide) (by decide) (by decide) (by decide) (by decide) (by decide)).ty (yf _ _ 1 (.int .i64 0)) (bI.blk c0) Gs (by decide) (by decide) (by decide) (by decide) (by decide) (by decide) (by decide)).ty (yf _ _ 2 (.string ⟨#[]⟩)) (bI.blk c1) Gs (by decide) (by decide) (by decide) (by decide) (by decide) (by decide) (by decide))
       have h0:=F.cell 0
       have h1:=F.cell 1
       have h2:=F.cell 2
       simp only [fQ,fT,fP,bC,bG,bE] at h0 h1 h2
       refine bodyPost_ret (v:=.tuple #[aT P,fF Ln.ok]) ?_ rfl ⟨.inr ⟨Bt.o.symm,hc.1,hc.2,xs,hxl,P,vm,bl,gl,fun i h=>KF.o i h h (by omega),rfl,by have:=GF; rw [List.take_length] at this; exact this⟩,GF.gr⟩
       clear F GF z0 z1 z2 f0 f1 f2 c0 c1
       generalize World.setCell _ _ _=WF at *
       simp [results,Tryz.results37,go_sem,fF,Ln.ok,aT,bs,h0,h1,h2]
def xM (bl:List Nat) (s:Ln.gB):List Value:=[.pointer (lZ bl s.mod),.int .i64 s.ah,.int .i64 s.off]
def yD (W:World) (bl:List Nat) (b g:Nat) (m:Ln.Mod):Prop :=
 ∃ vm vs vt vf,yc W b #[aT g,vm,vs,vt,vf,.int .i64 m.data,.int .i64 m.bss] 130/\yu W g m.obj /\
  W.ownsRow 0 123 3 vm m.means.length (m.means.flatMap (xM bl))/\W.ownsRow 0 4 1 vs m.short.length (m.short.map Value.bool) /\
  W.ownsRow 0 3 1 vt m.text.length (m.text.map (Value.int .i64))/\W.ownsRow 0 3 1 vf m.far.length (m.far.map (Value.int .i64)) /\
  (m.means=[]->vm = .slice none 0 0)/\(m.short=[]->vs = .slice none 0 0)
structure ProgAt (W0:World) (P:Nat) (bt bf bd:Int) (vm:Value) (bl gl:List Nat) (ms:List Ln.Mod) (st:Ln.gB) (no:Int) (W:World):Prop where
 blk:yc W P #[.int .i64 bt,.int .i64 bf,.int .i64 bd,vm,.pointer (lZ bl st.mod),.int .i64 st.ah,.int .i64 st.off,.int .i64 no] 125
 row:W.ownsRow W0.heap.size 121 1 vm bl.length (bl.map aT)
 iB:gl.length=bl.length
 gy:ms.length=bl.length
 mods:∀ i (h:i < bl.length),yD W bl bl[i] (gl[i]'(by rw [iB]; exact h)) (ms[i]'(by rw [gy]; exact h))
 few:bl.length<=4096
 syms:∀ m∈ms,m.obj.syms.length<=65535
 lo:W0.heap.size<=P
 los:∀ b∈bl,W0.heap.size<=b
 gr:W0.grownBy W none
 nd:bl.Nodup
theorem FV {W:World} {B size n:Nat} {e:TypeId} {v:Value} {xs:List Value} (h:W.ownsRow B e size v n xs):W.ownsRow 0 e size v n xs:=by
 refine ⟨h.1,?_⟩
 rcases h.2 with q | ⟨g,cap,cur,hv,_,r⟩
 ·exact .inl q
 ·exact .inr ⟨g,cap,cur,hv,Nat.zero_le _,r⟩
theorem ypx {l:List Nat} (h:l.Nodup) {i j:Nat} (hi:i < l.length) (hj:j < l.length) (hne:i≠j):l[i]≠l[j]:=by
 rcases Nat.lt_or_gt_of_ne hne with q | q
 ·exact List.pairwise_iff_getElem.1 h i j hi hj q
 ·exact fun c=>List.pairwise_iff_getElem.1 h j i hj hi q c.symm
section
variable {W0 W W':World} {P:Nat} {bt bf bd:Int} {vm:Value} {bl gl:List Nat} {ms:List Ln.Mod} {st:Ln.gB} {no:Int} {b g:Nat} {m:Ln.Mod}
theorem yD.kept (h:yD W bl b g m) (hg:W.grownBy W' none):yD W' bl b g m:=by
 obtain ⟨v1,v2,v3,v4,q0,q1,q2,q3,q4,q5,q6⟩:=h
 have k:∀ (v:Value),v.ownBlock=none\/v.ownBlock≠none:=fun v=>Decidable.em _
 exact ⟨v1,v2,v3,v4,q0.grown hg (by simp),q1.kept hg,q2.kept hg (k _),q3.kept hg (k _),q4.kept hg (k _),q5.kept hg (k _),q6⟩
theorem yD.ty {row:Option Nat} {e:TypeId} (h:yD W bl b g m) (hg:W.grownBy W' row) (hr:bI W row e) (h1:130≠e) (h2:71≠e) (h3:3≠e) (h4:100≠e) (h5:102≠e) (h6:123≠e) (h7:4≠e):yD W' bl b g m:=by
 obtain ⟨v1,v2,v3,v4,q0,q1,q2,q3,q4,q5,q6⟩:=h
 exact ⟨v1,v2,v3,v4,yK q0 hg hr h1,rP q1 hg hr h2 h3 h4 h5,yy q2 hg hr h6,yy q3 hg hr h7,yy q4 hg hr h3,yy q5 hg hr h3,q6⟩
theorem yD.other {k:Nat} {cur:Array Value} (h:yD W bl b g m) (hg:W.grownBy W' (some k)) (hr:yc W k cur 130) (hne:b≠k):yD W' bl b g m:=by
 obtain ⟨v1,v2,v3,v4,q0,q1,q2,q3,q4,q5,q6⟩:=h
 have R:=bI.blk hr
 exact ⟨v1,v2,v3,v4,q0.grown hg (by simp; omega),rP q1 hg R (by decide) (by decide) (by decide) (by decide),yy q2 hg R (by decide),yy q3 hg R (by decide),yy q4 hg R (by decide),yy q5 hg R (by decide),q6⟩
theorem ProgAt.kept (h:ProgAt W0 P bt bf bd vm bl gl ms st no W) (hg:W.grownBy W' none):ProgAt W0 P bt bf bd vm bl gl ms st no W' :=
 ⟨h.blk.grown hg (by simp),h.row.kept hg (by cases vm.ownBlock <;> simp),h.iB,h.gy,fun i hi=>(h.mods i hi).kept hg,h.few,h.syms,h.lo,h.los,ya h.gr hg,h.nd⟩
theorem ProgAt.ty {row:Option Nat} {e:TypeId} (h:ProgAt W0 P bt bf bd vm bl gl ms st no W) (hg:W.grownBy W' row) (hr:bI W row e) (hlo:∀ k,row=some k->W0.heap.size<=k) (h0:125≠e) (h00:121≠e) (h1:130≠e) (h2:71≠e) (h3:3≠e) (h4:100≠e) (h5:102≠e) (h6:123≠e) (h7:4≠e):ProgAt W0 P bt bf bd vm bl gl ms st no W' :=
 ⟨yK h.blk hg hr h0,yy h.row hg hr h00,h.iB,h.gy,fun i hi=>(h.mods i hi).ty hg hr h1 h2 h3 h4 h5 h6 h7,h.few,h.syms,h.lo,h.los,yN h.gr hg hlo,h.nd⟩
theorem ProgAt.upd {k:Nat} {m':Ln.Mod} (h:ProgAt W0 P bt bf bd vm bl gl ms st no W) (hk:k < bl.length) (hk':k < ms.length) (hg:W.grownBy W' (some bl[k])) (hm:yD W' bl bl[k] (gl[k]'(by rw [h.iB]; exact hk)) m') (ho:m'.obj=ms[k].obj):ProgAt W0 P bt bf bd vm bl gl (ms.set k m') st no W':=by
 obtain ⟨v1,v2,v3,v4,q0,-⟩:=h.mods k hk
 have R:=bI.blk q0
 refine ⟨yK h.blk hg R (by decide),yy h.row hg R (by decide),h.iB,by rw [List.length_set]; exact h.gy,fun i hi=>?_,h.few,fun x hx=>?_,h.lo,h.los,yN h.gr hg (by intro j e; simp at e; subst e; exact h.los _ (gW hk)),h.nd⟩
 ·by_cases e:i=k
  ·subst e
   rw [List.getElem_set_self]
   exact hm
  ·rw [List.getElem_set_ne (by omega)]
   exact (h.mods i hi).other hg q0 (fun c=>ypx h.nd hi hk e c)
 ·rcases List.mem_or_eq_of_mem_set hx with q | rfl
  ·exact h.syms x q
  ·rw [ho]; exact h.syms _ (gW hk')
theorem ProgAt.iW {am:Option Addr} {cm:Nat} (h:ProgAt W0 P bt bf bd (.slice am bl.length cm) bl gl ms st no W):rY W am bl (ms.map Ln.Mod.obj):=by
 refine ⟨fun hp=>?_,by rw [pX,h.gy],fun i h1 h2=>?_,by rw [pX,h.gy]; exact h.few,fun o ho=>?_⟩
 ·obtain ⟨sg,hs,-,-,-,hc⟩:=F4 h.row hp
  refine ⟨sg,0,hs,fun i hi=>?_⟩
  rw [Nat.zero_add,hc i hi,List.getElem?_map,jF hi]
  rfl
 ·obtain ⟨v1,v2,v3,v4,q0,q1,-⟩:=h.mods i h1
  refine ⟨_,q0.cell 0,?_⟩
  rw [List.getElem_map]
  exact q1
 ·obtain ⟨x,hx,rfl⟩:=List.mem_map.1 ho
  exact h.syms x hx
theorem ProgAt.spot {st':Ln.gB} (h:ProgAt W0 P bt bf bd vm bl gl ms st no W):ProgAt W0 P bt bf bd vm bl gl ms st' no (((W.setCell ⟨P,4,none⟩ (.pointer (lZ bl st'.mod))).setCell ⟨P,5,none⟩ (.int .i64 st'.ah)).setCell ⟨P,6,none⟩ (.int .i64 st'.off)):=by
 have c1:=h.blk.set 4 (.pointer (lZ bl st'.mod))
 have c2:=c1.set 5 (.int .i64 st'.ah)
 have c3:=c2.set 6 (.int .i64 st'.off)
 have g1:=yf W P 4 (.pointer (lZ bl st'.mod))
 have g2:=yf (W.setCell ⟨P,4,none⟩ (.pointer (lZ bl st'.mod))) P 5 (.int .i64 st'.ah)
 have g3:=yf ((W.setCell ⟨P,4,none⟩ (.pointer (lZ bl st'.mod))).setCell ⟨P,5,none⟩ (.int .i64 st'.ah)) P 6 (.int .i64 st'.off)
 have G:=World.grownBy.trans (World.grownBy.trans g1 g2) g3
 have R:=bI.blk h.blk
 refine ⟨?_,yy h.row G R (by decide),h.iB,h.gy,fun i hi=>(h.mods i hi).ty G R (by decide) (by decide) (by decide) (by decide) (by decide) (by decide) (by decide),h.few,h.syms,h.lo,h.los,yN h.gr G (by intro j e; simp at e; have:=h.lo; omega),h.nd⟩
 simpa using c3
theorem ProgAt.nought {no':Int} (h:ProgAt W0 P bt bf bd vm bl gl ms st no W):ProgAt W0 P bt bf bd vm bl gl ms st no' (W.setCell ⟨P,7,none⟩ (.int .i64 no')):=by
 have c1:=h.blk.set 7 (.int .i64 no')
 have G:=yf W P 7 (.int .i64 no')
 have R:=bI.blk h.blk
 refine ⟨?_,yy h.row G R (by decide),h.iB,h.gy,fun i hi=>(h.mods i hi).ty G R (by decide) (by decide) (by decide) (by decide) (by decide) (by decide) (by decide),h.few,h.syms,h.lo,h.los,yN h.gr G (by intro j e; simp at e; have:=h.lo; omega),h.nd⟩
 simpa using c1
end
namespace Ln
def bare (o:Lk.Obj):Mod:=⟨o,[],[],[],[],0,0⟩
def jc (os:List Lk.Obj) (i:Nat) (m:Mod):Mod:={ m with means:=m.obj.syms.map (meaning os i) }
def bO (os:List Lk.Obj) (ms:List Mod):List Mod:=ms.mapIdx (jc os)
end Ln
theorem nX.prog {W0 W:World} {P:Nat} {bt bf bd:Int} {vm:Value} {bl gl:List Nat} {os:List Lk.Obj} (h:nX W0 P bt bf bd vm bl gl os W):ProgAt W0 P bt bf bd vm bl gl (os.map Ln.bare) Ln.none_ 0 W :=
 ⟨h.blk,h.row,h.iB,by rw [pX]; exact h.gy,fun i hi=>by
  rw [List.getElem_map]
  exact ⟨_,_,_,_,h.mods i hi,h.objs i hi,World.ownsRow_nil _ _ _ _,World.ownsRow_nil _ _ _ _,World.ownsRow_nil _ _ _ _,World.ownsRow_nil _ _ _ _,fun _=>rfl,fun _=>rfl⟩,h.few,fun m hm=>by
  obtain ⟨o,ho,rfl⟩:=List.mem_map.1 hm
  exact h.syms o ho,h.lo,h.los,h.gr,h.nd⟩
theorem Ml {α:Type} (xs ys:List α) (k:Nat) (hx:k < xs.length) (hy:k < ys.length) (_hl:ys.length=xs.length):(ys.take k ++ xs.drop k).set k ys[k]=ys.take (k+1) ++ xs.drop (k+1):=by
 rw [List.set_append_right _ _ (by rw [List.length_take]; omega)]
 have e:k - (ys.take k).length=0:=by rw [List.length_take]; omega
 rw [e,kP hx,fP,List.take_succ_eq_append_getElem hy,List.append_assoc,List.singleton_append]
theorem Hr {α:Type} (xs ys:List α) (k:Nat) (hx:k < xs.length) (_hy:k<=ys.length) (h:k < (ys.take k ++ xs.drop k).length):(ys.take k ++ xs.drop k)[k]=xs[k]:=by
 rw [List.getElem_append_right (by rw [List.length_take]; omega)]
 simp [List.length_take,Nat.min_eq_left _hy]
structure yU (Wf W0:World) (P:Nat) (bt bf bd:Int) (vm:Value) (bl gl:List Nat) (ms:List Ln.Mod) (st:Ln.gB) (no:Int) (W:World):Prop extends ProgAt W0 P bt bf bd vm bl gl ms st no W where
 kf:∀ k cs,yc Wf k cs 45->yc W k cs 45
 le:W0.heap.size<=Wf.heap.size
 sz:Wf.heap.size<=W.heap.size
section
variable {Wf W0 W W':World} {P:Nat} {bt bf bd:Int} {vm:Value} {bl gl:List Nat} {ms:List Ln.Mod} {st:Ln.gB} {no:Int}
theorem ProgAt.f (h:ProgAt W0 P bt bf bd vm bl gl ms st no W):yU W W0 P bt bf bd vm bl gl ms st no W:=⟨h,fun _ _ q=>q,h.gr.size,Nat.le_refl _⟩
theorem yU.kept (h:yU Wf W0 P bt bf bd vm bl gl ms st no W) (hg:W.grownBy W' none):yU Wf W0 P bt bf bd vm bl gl ms st no W' :=
 ⟨h.toProgAt.kept hg,fun k cs q=>(h.kf k cs q).grown hg (by simp),h.le,Nat.le_trans h.sz hg.size⟩
theorem yU.upd {k:Nat} {m':Ln.Mod} (h:yU Wf W0 P bt bf bd vm bl gl ms st no W) (hk:k < bl.length) (hk':k < ms.length) (hg:W.grownBy W' (some bl[k])) (hm:yD W' bl bl[k] (gl[k]'(by rw [h.iB]; exact hk)) m') (ho:m'.obj=ms[k].obj):yU Wf W0 P bt bf bd vm bl gl (ms.set k m') st no W':=by
 obtain ⟨v1,v2,v3,v4,q0,-⟩:=h.mods k hk
 exact ⟨h.toProgAt.upd hk hk' hg hm ho,fun k cs q=>yK (h.kf k cs q) hg (bI.blk q0) (by decide),h.le,Nat.le_trans h.sz hg.size⟩
theorem yU.spot {st':Ln.gB} (h:yU Wf W0 P bt bf bd vm bl gl ms st no W):yU Wf W0 P bt bf bd vm bl gl ms st' no (((W.setCell ⟨P,4,none⟩ (.pointer (lZ bl st'.mod))).setCell ⟨P,5,none⟩ (.int .i64 st'.ah)).setCell ⟨P,6,none⟩ (.int .i64 st'.off)):=by
 have G:=World.grownBy.trans (World.grownBy.trans (yf W P 4 (.pointer (lZ bl st'.mod))) (yf _ P 5 (.int .i64 st'.ah))) (yf _ P 6 (.int .i64 st'.off))
 exact ⟨h.toProgAt.spot,fun k cs q=>yK (h.kf k cs q) G (bI.blk h.blk) (by decide),h.le,Nat.le_trans h.sz G.size⟩
theorem yU.nought {no':Int} (h:yU Wf W0 P bt bf bd vm bl gl ms st no W):yU Wf W0 P bt bf bd vm bl gl ms st no' (W.setCell ⟨P,7,none⟩ (.int .i64 no')) :=
 ⟨h.toProgAt.nought,fun k cs q=>yK (h.kf k cs q) (yf W P 7 (.int .i64 no')) (bI.blk h.blk) (by decide),h.le,Nat.le_trans h.sz (yf W P 7 (.int .i64 no')).size⟩
end
end Go.Proofs.YtpgklkhgfcjceaaGreatDoor
