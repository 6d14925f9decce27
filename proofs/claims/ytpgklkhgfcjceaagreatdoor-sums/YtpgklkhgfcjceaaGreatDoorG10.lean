/- Linking: a file is read. -/
/- Linking: a file takes part. -/
/- Linking: all that takes part. -/
/- Linking: a program in memory. -/
import Derived.Test.YtpgklkhgfcjceaaGreatDoorG09
namespace Go.Proofs.YtpgklkhgfcjceaaGreatDoor
open Go.RowKit
def yaU (l:List UInt8) (a:Bool) (os:List Lk.Obj):Prop :=
 (a=false/\ybT l/\os=[ybZ l])\/(a=true/\¬ ybT l/\∃ ms,ybF l ms/\os=ms.map ybZ)
def yfn (l:List UInt8):Prop:=¬ ybT l/\∀ ms,¬ ybF l ms
def yaG (os:List Lk.Obj):List (Lk.Obj×Bool):=os.map fun o=>(o,false)
theorem Tryz.infoMember:(Tryz.prog.info? 159).map (fun i=>(i.zero,i.size,i.bytes))=some (some (.agg #[.pointer none,.bool false]),2,16):=by kernel_rfl
def yne (W:World) (B:Nat) (v:Value) (a:Bool) (os:List Lk.Obj):Prop :=
 ∃ mg cap gs,v = .agg #[.bool a,.slice (some ⟨mg,0,none⟩) os.length cap]/\B<=mg/\yaC W mg gs (yaG os)/\os.length<=cap/\cap<=maxLen
def ykA (B:Nat) (l:List UInt8) (e:Ending) (w':World):Prop :=
 (∃ v a os,yaU l a os/\e = .returned (.tuple #[v,.bool true])/\yne w' B v a os)\/(yfn l/\e = .returned (.tuple #[.agg #[.bool false,.slice none 0 0],.bool false]))
theorem yki {w V:World} (h:w.grownBy V none) (r:Nat) (hr:w.heap.size<=r) (a b:Value):w.grownBy ((V.setCell ⟨r,0,none⟩ a).setCell ⟨r,1,none⟩ b) none :=
 yN (yN h (yf V r 0 a) (by intro k e; simp at e; omega)) (yf _ r 1 b) (by intro k e; simp at e; omega)
theorem yny {V:World} {r:Nat} {cs:Array Value} {t:TypeId} (hb:yc V r cs t) (a b:Value):yal [t] V ((V.setCell ⟨r,0,none⟩ a).setCell ⟨r,1,none⟩ b) :=
 (yal.row (yf V r 0 a) (RowT.blk hb) (by simp)).trans (yal.row (yf _ r 1 b) (RowT.blk (hb.set 0 a)) (by simp))
theorem ysi (V:World) (r:Nat) (a b:Value):((V.setCell ⟨r,0,none⟩ a).setCell ⟨r,1,none⟩ b).heap.size=V.heap.size:=by simp [World.setCell]
def memV (gs:List Nat):List Value:=gs.flatMap fun g=>[ptrV g,.bool false]
theorem ypd:∀ (gs:List Nat) (i:Nat) (h:i < gs.length),(memV gs)[i * 2]?=some (ptrV gs[i])/\(memV gs)[i * 2+1]?=some (.bool false):=by
 intro gs
 induction gs with
 | nil=>intro i h; simp at h
 | cons g gs ih =>
  intro i h
  cases i with
  | zero=>exact ⟨rfl,rfl⟩
  | succ i =>
   have:=ih i (by simpa using h)
   have e:memV (g :: gs)=ptrV g :: .bool false :: memV gs:=rfl
   rw [e,show (i+1) * 2=i * 2+1+1 by omega]
   simp only [ysl,ysw]
   exact this
theorem ynU (gs:List Nat) (g:Nat):memV gs ++ [ptrV g,.bool false]=memV (gs ++ [g]):=by simp [memV]
theorem ysg (U:World) (g:Nat):∀ j u,[ptrV g,Value.bool false][j]?=some u->(U.alloc (.cells #[ptrV g,.bool false] 159)).cell? ((⟨U.heap.size,0,none⟩:Addr).add j)=some u:=by
 intro j u hu
 have e:(⟨U.heap.size,0,none⟩:Addr).add j=⟨U.heap.size,j,none⟩:=by
  unfold Addr.add
  by_cases h0:j=0
  ·subst h0; simp
  ·simp [h0]
 rw [e,(yc.new U #[ptrV g,.bool false] 159).cell j]
 simpa using hu
theorem ygf {W:World} {mg:Nat} {gs:List Nat} {os:List Lk.Obj} {cur:Array Value} (hb:yc W mg cur 159) (ht:cur.toList.take (gs.length * 2)=memV gs) (hl:gs.length=os.length) (ho:∀ i (h:i < os.length),yr W (gs[i]'(by rw [hl]; exact h)) os[i]) (hs:∀ o∈os,o.syms.length<=65535):yaC W mg gs (yaG os):=by
 have fl:(yaG os).length=os.length:=by simp [yaG]
 refine ⟨by rw [fl]; exact hl,⟨cur,hb,fun i hi=>?_⟩,fun i hi=>?_,fun m hm=>?_⟩
 ·rw [fl] at hi
  have hi2:i < gs.length:=by omega
  obtain ⟨q0,q1⟩:=ypd gs i hi2
  rw [<- ht,List.getElem?_take,if_pos (by omega)] at q0
  rw [<- ht,List.getElem?_take,if_pos (by omega)] at q1
  have e:(yaG os)[i]'(by rw [fl]; exact hi)=(os[i],false):=by simp [yaG]
  rw [e]
  exact ⟨by simpa using q0,by simpa using q1⟩
 ·rw [fl] at hi
  have e:(yaG os)[i]'(by rw [fl]; exact hi)=(os[i],false):=by simp [yaG]
  rw [e]
  exact ho i hi
 ·simp only [yaG,List.mem_map] at hm
  obtain ⟨o,ho',rfl⟩:=hm
  exact hs o ho'
set_option maxRecDepth 100000 in
set_option maxHeartbeats 8000000 in
theorem yjX (s:ByteArray) (w:World) (ht:Tabs w) (hs:s.size<=1048576) :
  Calls Tryz.prog 64 #[.string s] w fun e w'=>ykA w.heap.size (sl s) e w'/\w.grownBy w' none:=by
 have G0:=hid (ysp w (.cells #[.bool false,.slice none 0 0] 117) none)
 have B0:=hid (yc.new w #[.bool false,.slice none 0 0] 117)
 have cR:=hid (fun W (hg:w.grownBy W none)=>ygz s W (ht.grown hg) hs)
 have cM:=hid (fun W (hg:w.grownBy W none)=>ykZ s W (ht.grown hg) hs)
 have HT:=hid ht
 clear ht
 go_enter Tryz.func64,Tryz.ntmps64
 go_wp2_with fail
 refine (cR.out _ G0.out).mono ?_
 rintro e W1 ⟨hr,hg1⟩
 have G1:=hid (ya G0.out hg1)
 have B1:=hid (B0.out.grown hg1 (by simp))
 clear hg1
 have z0:W1.cell? ⟨w.heap.size,0,none⟩=some (.bool false):=B1.out.cell 0
 have z1:W1.cell? ⟨w.heap.size,1,none⟩=some (.slice none 0 0):=B1.out.cell 1
 have f0:=B1.out.free 0
 have f1:=B1.out.free 1
 have hlt:=B1.out.lt
 rcases hr with ⟨o,g,h1,h2,rfl,h3,h4⟩ | ⟨h1,rfl⟩
 ·have HO:=hid h3
  have HI:=hid (ycB h1 h2)
  have hne:w.heap.size≠W1.heap.size:=by omega
  have hsy:o.syms.length<=65535:=(ydw (yct h2)).1.2.2.2.2.1
  clear h1 h2 h3 cM cR
  go_wp2
  have F2:=yny B1.out (.bool false) (.slice (some ⟨W1.heap.size,0,none⟩) 1 1)
  have GF:=yki G1.out w.heap.size (Nat.le_refl _) (.bool false) (.slice (some ⟨W1.heap.size,0,none⟩) 1 1)
  have SZ:=ysi W1 w.heap.size (.bool false) (.slice (some ⟨W1.heap.size,0,none⟩) 1 1)
  have BR:=(B1.out.set 0 (.bool false)).set 1 (.slice (some ⟨W1.heap.size,0,none⟩) 1 1)
  have HO2:=F2.obj HO.out (by decide) (by decide) (by decide) (by decide)
  generalize (W1.setCell ⟨w.heap.size,0,none⟩ (.bool false)).setCell ⟨w.heap.size,1,none⟩ (.slice (some ⟨W1.heap.size,0,none⟩) 1 1)=V at *
  have AL:=ysp V (.cells #[.pointer (some ⟨g,0,none⟩),.bool false] 159) none
  have BN:=yc.new V #[.pointer (some ⟨g,0,none⟩),.bool false] 159
  rw [SZ] at BN
  have BR2:=BR.grown AL (by simp)
  have h0:=BR2.cell 0
  have h1:=BR2.cell 1
  simp only [yso,ysm,ysn,ysk,ysl,ysj] at h0 h1
  have MM:yaC (V.alloc (.cells #[.pointer (some ⟨g,0,none⟩),.bool false] 159)) W1.heap.size [g] (yaG [o]):=ygf BN rfl rfl (fun i hi=>by
   obtain rfl:i=0:=by simp at hi; omega
   exact HO2.kept AL) (fun x hx=>by simp at hx; subst hx; exact hsy)
  refine bodyPost_ret (v:=.tuple #[.agg #[.bool false,.slice (some ⟨W1.heap.size,0,none⟩) 1 1],.bool true]) ?_ rfl ⟨.inl ⟨_,false,[o],.inl ⟨rfl,HI.out.1,by rw [HI.out.2]⟩,rfl,W1.heap.size,1,[g],rfl,by omega,MM,by simp,by decide⟩,ya GF AL⟩
  clear MM BR2 BR AL F2 GF BN z0 z1 f0 f1
  generalize World.alloc _ _=WF at *
  simp [results,Tryz.results64,go_sem,h0,h1]
 ·have HI:=hid (ycu h1)
  clear h1 cR
  go_wp2_with fail
  refine (cM.out _ G1.out).mono ?_
  rintro e W2 ⟨hm,hg2⟩
  have G2:=hid (ya G1.out hg2)
  have B2:=hid (B1.out.grown hg2 (by simp))
  clear z0 z1 f0 f1 cM
  have z0:W2.cell? ⟨w.heap.size,0,none⟩=some (.bool false):=B2.out.cell 0
  have z1:W2.cell? ⟨w.heap.size,1,none⟩=some (.slice none 0 0):=B2.out.cell 1
  have f0:=B2.out.free 0
  have f1:=B2.out.free 1
  rcases hm with ⟨ms,v,hA,rfl,hown⟩ | ⟨hA,rfl⟩
  ·obtain ⟨av,cv,rfl⟩:=yh hown
   have HA:=hid hA
   have HO:=hid hown
   have hml:=hA.1
   have HOB:=hid hA.2.1
   clear hA hown z0 z1 f0 f1
   have hcv:=yak HO.out
   have hX:w.heap.size < W2.heap.size:=B2.out.lt
   have A3:=hid (ysp W2 (.cells #[.bool true,.slice none 0 0] 117) none)
   have B3:=hid (yc.new W2 #[.bool true,.slice none 0 0] 117)
   have R3:=hid (B2.out.grown A3.out (by simp))
   have S3:=hid (HO.out.alloc (.cells #[.bool true,.slice none 0 0] 117))
   have SZ3:=hid (show (W2.alloc (.cells #[.bool true,.slice none 0 0] 117)).heap.size=W2.heap.size+1 from Array.size_push _)
   have G3:=hid (ya G2.out A3.out)
   obtain ⟨i0,hi,hz0,hz1,hz2⟩:=info_parts Tryz.infoMember
   go_wp2
   generalize W2.alloc (.cells #[.bool true,.slice none 0 0] 117)=W3 at *
   generalize W2.heap.size=X at *
   go_loopw [34] (fun i wr=>∃ (k:Nat) (gs:List Nat) (vm:Value),k<=ms.length/\i = .int .i64 k/\gs.length=k/\yc wr X #[.bool true,vm] 117/\wr.ownsRow (X+1) 159 2 vm k (memV gs)/\(∀ j (h:j < k) (h1:j < gs.length) (h2:j < ms.length),yr wr gs[j] (ybZ ms[j]))/\yc wr w.heap.size #[.bool false,.slice none 0 0] 117/\wr.ownsRow W1.heap.size 9 1 (.slice av ms.length cv) ms.length (strV ms)/\w.grownBy wr none/\X+1<=wr.heap.size) (fun i _=>ms.length - (intOf i).toNat)
   case atStart=>exact ⟨0,[],_,Nat.zero_le _,rfl,rfl,B3.out,World.ownsRow_nil _ _ _ _,fun j h=>by omega,R3.out,S3.out,G3.out,by rw [SZ3.out]; exact Nat.le_refl _⟩
   case round =>
    obtain ⟨k,gs,vm,hk,rfl,hgl,hb,hrow,hob,hres,hstr,hgw,hxs⟩:=hrel
    obtain ⟨am,cm,rfl⟩:=yh hrow
    have HB:=hid hb
    have HRW:=hid hrow
    have HOJ:=hid hob
    have HRS:=hid hres
    have HST:=hid hstr
    have HGW:=hid hgw
    clear hb hrow hob hres hstr hgw B3 R3 S3
    by_cases hlt:k < ms.length
    ·have hIO:=HOB.out ms[k] (ysr hlt)
     have hsz:=ydp hIO
     obtain ⟨sg,hsg,-,-,-,hsc⟩:=ycG HST.out (by omega)
     have ck:=hsc k hlt
     rw [show (strV ms)[k]?=some (.string (bs ms[k])) by simp [strV,List.getElem?_map,yst hlt]] at ck
     have cR:=hid (ygz (bs ms[k]) wr (HT.out.grown HGW.out) (by rw [ybp]; omega))
     have g1:(k:Int) < (ms.length:Int):=by omega
     have KI:=hid hIO
     clear hsc hIO hsz
     generalize hmk:ms[k]=mk at *
     have HMK:=hid hmk
     clear hmk
     subst hsg
     go_wp2_with fail
     refine cR.out.mono ?_
     rintro e U5 ⟨hr5,h5⟩
     rcases hr5 with ⟨o,g,q1,q2,rfl,q3,q4⟩ | ⟨q1,rfl⟩
     ·rw [ydM] at q1
      have EO:=hid (ycB q1 q2).2
      have hsy:o.syms.length<=65535:=(ydw (yct q2)).1.2.2.2.2.1
      have OB5:=hid q3
      have HB5:=hid (HB.out.grown h5 (by simp))
      have HR5:=hid (HRW.out.kept h5 (by cases Value.ownBlock _ <;> simp))
      have HJ5:=hid (fun j h h1 h2=>(HOJ.out j h h1 h2).kept h5)
      have RS5:=hid (HRS.out.grown h5 (by simp))
      have ST5:=hid (HST.out.kept h5 (by cases Value.ownBlock _ <;> simp))
      have GW5:=hid (ya HGW.out h5)
      have hx5:X+1<=U5.heap.size:=Nat.le_trans hxs h5.size
      clear q1 q2 q3 cR ck h5 HB HRW HOJ HRS HST HGW
      have x1:U5.cell? ⟨X,1,none⟩=some (.slice am k cm):=HB5.out.cell 1
      have xf:=HB5.out.free 1
      have hcm:=yak HR5.out
      have CN:=hid (ysg U5 g)
      have AM:=hid (ysp U5 (.cells #[ptrV g,.bool false] 159) none)
      have HRA:=hid (HR5.out.alloc (.cells #[ptrV g,.bool false] 159))
      have HBA:=hid (HB5.out.grown AM.out (by simp))
      have hXr:X≠w.heap.size:=by omega
      have STEP:=hid (fun (v':Value) (w3:World) (hown':w3.ownsRow (X+1) 159 2 v' (k+1) (memV gs ++ [ptrV g,.bool false])) (hgrow:(U5.alloc (.cells #[ptrV g,.bool false] 159)).grownBy w3 (Value.ownBlock (.slice am k cm)))=>show (yc w3 X #[.bool true,.slice am k cm] 117)/\∃ (gs':List Nat),gs'.length=k+1/\yc (w3.setCell ⟨X,1,none⟩ v') X #[.bool true,v'] 117/\(w3.setCell ⟨X,1,none⟩ v').ownsRow (X+1) 159 2 v' (k+1) (memV gs')/\(∀ j (h:j < k+1) (h1:j < gs'.length) (h2:j < ms.length),yr (w3.setCell ⟨X,1,none⟩ v') gs'[j] (ybZ ms[j]))/\yc (w3.setCell ⟨X,1,none⟩ v') w.heap.size #[.bool false,.slice none 0 0] 117/\(w3.setCell ⟨X,1,none⟩ v').ownsRow W1.heap.size 9 1 (.slice (some ⟨sg,0,none⟩) ms.length cv) ms.length (strV ms)/\w.grownBy (w3.setCell ⟨X,1,none⟩ v') none/\X+1<=(w3.setCell ⟨X,1,none⟩ v').heap.size by
       have RT:=RowT.own HRA.out
       have b3:=yF HBA.out hgrow RT (by decide)
       have gS:=yf w3 X 1 v'
       have RP:=RowT.blk b3
       refine ⟨b3,gs ++ [g],by simp [hgl],b3.set 1 v',?_,fun j h h1 h2=>?_,?_,?_,?_,?_⟩
       ·rw [<- ynU]
        exact yy hown' gS RP (by decide)
       ·by_cases hjk:j < k
        ·rw [List.getElem_append_left (by omega)]
         exact yaQ (yaQ ((HJ5.out j hjk (by omega) h2).kept AM.out) hgrow RT (by decide) (by decide) (by decide) (by decide)) gS RP (by decide) (by decide) (by decide) (by decide)
        ·obtain rfl:j=k:=by omega
         have e1:(gs ++ [g])[j]=g:=by simp [<- hgl]
         rw [e1,HMK.out,EO.out]
         exact yaQ (yaQ (OB5.out.kept AM.out) hgrow RT (by decide) (by decide) (by decide) (by decide)) gS RP (by decide) (by decide) (by decide) (by decide)
       ·exact (yF (RS5.out.grown AM.out (by simp)) hgrow RT (by decide)).grown gS (by simp; omega)
       ·exact yy (yy (ST5.out.alloc _) hgrow RT (by decide)) gS RP (by decide)
       ·exact yN (yN (ya GW5.out AM.out) hgrow (fun b e=>by have:=(HRA.out.lt b e).1; omega)) gS (by intro b e; simp at e; omega)
       ·have:=gS.size
        have:=hgrow.size
        have:=AM.out.size
        omega)
      clear HJ5 OB5 RS5 ST5 GW5 HB5
      unfold ptrV at CN HRA STEP
      go_wp2_with (at_builtin; refine ybX _ rfl _ _ 115 rfl (X+1) 159 i0 (.agg #[.pointer none,.bool false]) 2 16 Tryz.underlying115 hi hz0 hz1 hz2 rfl (by decide) _ _ _ rfl HRA.out ⟨U5.heap.size,0,none⟩ 1 1 [.pointer (some ⟨g,0,none⟩),.bool false] rfl rfl CN.out (by intro u hu; simp at hu; rcases hu with rfl | rfl <;> rfl) (by unfold maxLen; omega) (by omega) (by simp; omega) ?_; intro v' w3 hown' hgrow hblk; obtain ⟨av',cv',rfl⟩:=yh hown'; obtain ⟨b3,gs',r1,r2,r3,r4,r5,r6,r7,r8⟩:=STEP.out _ _ hown' hgrow; have k1:=b3.cell 1; have k1f:=b3.free 1; have Q1:=hid r2; have Q2:=hid r3; have Q3:=hid r4; have Q4:=hid r5; have Q5:=hid r6; have Q6:=hid r7; have Q7:=hid r8; clear hgrow hown' b3 r2 r3 r4 r5 r6 r7 r8 hblk)
      go_roundw
      case rel=>exact ⟨k+1,gs',_,by omega,by go_num,r1,Q1.out,Q2.out,Q3.out,Q4.out,Q5.out,Q6.out,Q7.out⟩
      case measure=>simp [intOf]; omega
     ·exact absurd KI.out (ycu (by rw [ydM] at q1; exact q1))
    ·obtain rfl:k=ms.length:=by omega
     have g3:decide ((ms.length:Int) < (ms.length:Int))=false:=by simp
     have x0:wr.cell? ⟨X,0,none⟩=some (.bool true):=HB.out.cell 0
     have x1:wr.cell? ⟨X,1,none⟩=some (.slice am ms.length cm):=HB.out.cell 1
     have z0:wr.cell? ⟨w.heap.size,0,none⟩=some (.bool false):=HRS.out.cell 0
     have z1:wr.cell? ⟨w.heap.size,1,none⟩=some (.slice none 0 0):=HRS.out.cell 1
     have f0:=HRS.out.free 0
     have f1:=HRS.out.free 1
     have hXr:X≠w.heap.size:=by omega
     have hXr2:w.heap.size≠X:=by omega
     go_wp2
     have F2:=yny HRS.out (.bool true) (.slice am ms.length cm)
     have GF:=yki HGW.out w.heap.size (Nat.le_refl _) (.bool true) (.slice am ms.length cm)
     have BR:=(HRS.out.set 0 (.bool true)).set 1 (.slice am ms.length cm)
     have h0:=BR.cell 0
     have h1:=BR.cell 1
     simp only [yso,ysm,ysn,ysk,ysl,ysj] at h0 h1
     have RW2:=F2.own HRW.out (by decide)
     have FA:yne ((wr.setCell ⟨w.heap.size,0,none⟩ (.bool true)).setCell ⟨w.heap.size,1,none⟩ (.slice am ms.length cm)) w.heap.size (.agg #[.bool true,.slice am ms.length cm]) true (ms.map ybZ):=by
      rcases RW2.2 with ⟨q1,q2⟩ | ⟨mg,cap,cur,hv,hb,hg,r3,r4,r5,r6⟩
      ·omega
      ·simp only [Value.slice.injEq] at hv
       obtain ⟨rfl,-,rfl⟩:=hv
       refine ⟨mg,cm,gs,by simp,by omega,ygf hg (by rw [hgl]; exact r6) (by simp [hgl]) (fun i hi=>?_) (fun o ho=>?_),by simpa using r3,r4⟩
       ·simp only [ysv] at hi
        rw [List.getElem_map]
        exact F2.obj (HOJ.out i hi (by omega) hi) (by decide) (by decide) (by decide) (by decide)
       ·obtain ⟨m,hm,rfl⟩:=List.mem_map.1 ho
        exact (ydw (yct (HOB.out m hm).1)).1.2.2.2.2.1
     refine bodyPost_ret (v:=.tuple #[.agg #[.bool true,.slice am ms.length cm],.bool true]) ?_ rfl ⟨.inl ⟨_,true,ms.map ybZ,.inr ⟨rfl,HI.out,ms,HA.out,rfl⟩,rfl,FA⟩,GF⟩
     clear FA RW2 BR GF F2 x0 x1 z0 z1 f0 f1
     generalize World.setCell _ _ _=WF at *
     simp [results,Tryz.results64,go_sem,h0,h1]
  ·have N:=hid (show yfn (sl s) from ⟨HI.out,hA⟩)
   clear hA
   go_wp2
   have BR:=(B2.out.set 0 (.bool false)).set 1 (.slice none 0 0)
   have h0:=BR.cell 0
   have h1:=BR.cell 1
   simp only [yso,ysm,ysn,ysk,ysl,ysj] at h0 h1
   refine bodyPost_ret (v:=.tuple #[.agg #[.bool false,.slice none 0 0],.bool false]) ?_ rfl ⟨.inr ⟨N.out,rfl⟩,yki G2.out w.heap.size (Nat.le_refl _) _ _⟩
   clear BR z0 z1 f0 f1
   generalize World.setCell _ _ _=WF at *
   simp [results,Tryz.results64,go_sem,h0,h1]
namespace Ln
def takeFile (os:List Lk.Obj) (x:Bool×List Lk.Obj):List Lk.Obj:=if x.1 then takeArch (x.2.length+1) (yaG x.2) os else os ++ x.2
def takeAll (xs:List (Bool×List Lk.Obj)):List Lk.Obj:=xs.foldl takeFile []
end Ln
theorem yed (os:List Lk.Obj):(yaG os).length=os.length:=by simp [yaG]
theorem ydB (os:List Lk.Obj):yaq (yaG os)=os.length:=by
 unfold yaq yaG
 rw [List.filter_eq_self.2 (by intro x hx; obtain ⟨o,_,rfl⟩:=List.mem_map.1 hx; rfl),ysv]
set_option maxRecDepth 100000 in
set_option maxHeartbeats 8000000 in
theorem ykm (W0:World) (P:Nat) (bt bf bd:Int) (vm:Value) (bl gl:List Nat) (os:List Lk.Obj) (mg cm:Nat) (gs:List Nat) (a:Bool) (ms:List Lk.Obj) (W:World) (h:yaF W0 P bt bf bd vm bl gl os W) (hm:yaC W mg gs (yaG ms)) (hc:bl.length+ms.length<=4096) (hml:W0.heap.size<=mg) (hcm:ms.length<=cm/\cm<=maxLen) :
  Calls Tryz.prog 65 #[ptrV P,.agg #[.bool a,.slice (some ⟨mg,0,none⟩) ms.length cm]] W fun e W'=>e = .returned (.tuple #[])/\(∃ vm' bl' gl',yaF W0 P bt bf bd vm' bl' gl' (Ln.takeFile os (a,ms)) W'/\bl'.length<=bl.length+ms.length)/\yaN [121,125] mg W W':=by
 have A0:=hid (ysp W (.cells #[.bool a,.slice (some ⟨mg,0,none⟩) ms.length cm] 117) none)
 have B0:=hid (yc.new W #[.bool a,.slice (some ⟨mg,0,none⟩) ms.length cm] 117)
 have H0:=hid (h.kept A0.out)
 have M0:=hid (hm.kept A0.out)
 have F0:=hid ((yal.grown (ts:=[121,125]) A0.out).x mg)
 have hcm2:=hcm.2
 unfold maxLen at hcm2
 have hmm:mg < W.heap.size:=by
  obtain ⟨cur,hb,-⟩:=hm.row
  exact hb.lt
 clear h hm
 cases a with
 | true =>
  have cT:=hid (yhn W0 P bt bf bd vm bl gl os mg cm gs (yaG ms) _ H0.out M0.out (by rw [ydB]; omega) hml (by rw [yed]; omega) (by rw [yed]; exact hcm))
  rw [yed,ydB] at cT
  have E:=hid (show Ln.takeFile os (true,ms)=Ln.takeArch (ms.length+1) (yaG ms) os from rfl)
  unfold ptrV at *
  go_enter Tryz.func65,Tryz.ntmps65
  go_wp2_with fail
  refine cT.out.mono ?_
  rintro e W5 ⟨rfl,hg,hf⟩
  have HG:=hid hg
  have HF:=hid (F0.out.trans hf)
  clear hg hf cT
  go_wp2
  (try simp only [Exit.inBlock,Exit.then]); refine bodyPost_ret (results_none rfl _ _ _) rfl ?_
  rw [E.out]
  exact ⟨rfl,HG.out,HF.out⟩
 | false =>
  have E:=hid (show Ln.takeFile os (false,ms)=os ++ ms from rfl)
  unfold ptrV at *
  go_enter Tryz.func65,Tryz.ntmps65
  go_wp2
  generalize W.alloc (.cells #[.bool false,.slice (some ⟨mg,0,none⟩) ms.length cm] 117)=W1 at *
  go_loopw [15] (fun i wr=>∃ (k:Nat) (bl2 gl2:List Nat) (vm2:Value),k<=ms.length/\i = .int .i64 k/\yaF W0 P bt bf bd vm2 bl2 gl2 (os ++ ms.take k) wr/\yaC wr mg gs (yaG ms)/\bl2.length=bl.length+k/\yaN [121,125] mg W wr) (fun i _=>ms.length - (intOf i).toNat)
  case atStart=>exact ⟨0,bl,gl,vm,Nat.zero_le _,rfl,by simpa using H0.out,M0.out,rfl,F0.out⟩
  case round =>
   obtain ⟨k,bl2,gl2,vm2,hk,rfl,hg,hm,hb,hf⟩:=hrel
   have HG:=hid hg
   have HM:=hid hm
   have HF:=hid hf
   clear hg hm hf H0 M0 F0
   by_cases hlt:k < ms.length
   ·have hk2:k < (yaG ms).length:=by rw [yed]; exact hlt
    obtain ⟨m0,m1,-⟩:=HM.out.cells k hk2
    have OB:=hid (HM.out.objs k hk2)
    have SY:=HM.out.syms _ (ysr hk2)
    have e1:(yaG ms)[k]=(ms[k],false):=by simp [yaG]
    rw [e1] at m1 OB SY
    dsimp only at m1 OB SY
    have TK:=hid (show ms.take (k+1)=ms.take k ++ [ms[k]] from List.take_succ_eq_append_getElem hlt)
    unfold ptrV at m0
    generalize gs[k]'_=gj at *
    generalize ms[k]=oj at *
    have g1:(k:Int) < (ms.length:Int):=by omega
    have AL:=hid (ysp wr (.cells #[.pointer (some ⟨gj,0,none⟩),.bool false] 159) none)
    have cT:=hid (yko W0 P bt bf bd vm2 bl2 gl2 (os ++ ms.take k) gj oj _ (HG.out.kept AL.out) (OB.out.kept AL.out) (by omega) SY)
    have HM2:=hid (HM.out.kept AL.out)
    have HF2:=hid (HF.out.trans ((yal.grown AL.out).x mg))
    clear e1
    unfold ptrV at cT
    go_wp2_with fail
    refine cT.out.mono ?_
    rintro e W7 ⟨rfl,⟨vm7,b7,h7⟩,f7⟩
    have HG7:=hid h7
    have HM7:=hid (HM2.out.frame f7 (by decide) (by decide) (by decide) (by decide) (by decide))
    have HF7:=hid (HF2.out.trans (f7.x mg))
    clear h7 f7 cT m0 m1
    go_wp2
    go_roundw
    case rel=>exact ⟨k+1,_,_,_,by omega,by go_num,by rw [TK.out,<- List.append_assoc]; exact HG7.out,HM7.out,by simp; omega,HF7.out⟩
    case measure=>simp [intOf]; omega
   ·obtain rfl:k=ms.length:=by omega
    have g3:decide ((ms.length:Int) < (ms.length:Int))=false:=by simp
    go_wp2
    go_end0
    rw [E.out]
    exact ⟨rfl,⟨vm2,bl2,gl2,by have:=HG.out; rw [List.take_length] at this; exact this,by omega⟩,HF.out⟩
def ycR (w:World) (ao:Option Addr) (fs:List (List UInt8)):Prop :=
 0 < fs.length->∃ g off,ao=some ⟨g,off,none⟩/\∀ i (h:i < fs.length),w.cell? ⟨g,off+i,none⟩=some (.string (bs fs[i]))
theorem ycR.kept {w w':World} {ao:Option Addr} {fs:List (List UInt8)} (h:ycR w ao fs) (hg:w.grownBy w' none):ycR w' ao fs:=by
 intro hp
 obtain ⟨g,off,e,hc⟩:=h hp
 exact ⟨g,off,e,fun i hi=>yd (hc i hi) hg⟩
theorem Tryz.infoFile:(Tryz.prog.info? 117).map (fun i=>(i.zero,i.size,i.bytes))=some (some (.agg #[.bool false,.slice none 0 0]),2,32):=by kernel_rfl
structure FR where
 a:Bool
 mg:Nat
 n:Nat
 cap:Nat
def yfS (r:FR):List Value:=[.bool r.a,.slice (some ⟨r.mg,0,none⟩) r.n r.cap]
def ycd (W:World) (r:FR) (x:Bool×List Lk.Obj):Prop:=r.a=x.1/\r.n=x.2.length/\∃ gs,yaC W r.mg gs (yaG x.2)/\x.2.length<=r.cap/\r.cap<=maxLen
structure ycp (W:World) (B:Nat) (v:Value) (fl:List FR) (xs:List (Bool×List Lk.Obj)):Prop where
 len:fl.length=xs.length
 row:W.ownsRow B 117 2 v xs.length (fl.flatMap yfS)
 at_:∀ i (h:i < xs.length),ycd W (fl[i]'(by rw [len]; exact h)) xs[i]
 pair:fl.Pairwise (fun r s=>r.mg < s.mg)
 bnd:∀ r∈fl,B<=r.mg/\r.mg < W.heap.size
section
variable {W W' w3:World} {B:Nat} {v v':Value} {r:FR} {fl:List FR} {xs:List (Bool×List Lk.Obj)} {x:Bool×List Lk.Obj}
theorem ycd.frame {ts:List TypeId} (h:ycd W r x) (hf:yal ts W W') (h0:159 ∉ ts) (h1:71 ∉ ts) (h2:3 ∉ ts) (h3:100 ∉ ts) (h4:102 ∉ ts):ycd W' r x:=by
 obtain ⟨q0,q1,gs,q2,q3⟩:=h
 exact ⟨q0,q1,gs,q2.frame hf h0 h1 h2 h3 h4,q3⟩
theorem ycd.frameX {ts:List TypeId} {mg:Nat} (h:ycd W r x) (hf:yaN ts mg W W') (hne:r.mg≠mg) (hO:∀ g o,yr W g o->yr W' g o) (h0:159 ∉ ts):ycd W' r x:=by
 obtain ⟨q0,q1,gs,q2,q3⟩:=h
 obtain ⟨cur,hb,hc⟩:=q2.row
 exact ⟨q0,q1,gs,⟨q2.len,⟨cur,hf _ _ _ hb h0 hne,hc⟩,fun i hi=>hO _ _ (q2.objs i hi),q2.syms⟩,q3⟩
theorem yaN.frame {ts:List TypeId} {mg:Nat} {cur:Array Value} {t0:TypeId} (hf:yaN ts mg W W') (hb:yc W mg cur t0):yal (t0 :: ts) W W':=fun k cs t hk ht=>hf k cs t hk (fun c=>ht (List.mem_cons_of_mem _ c)) (by
 rintro rfl
 have:=hb.symm.trans hk
 simp at this
 exact ht (by rw [this.2]; exact List.mem_cons_self))
theorem ycd.kept (h:ycd W r x) (hg:W.grownBy W' none):ycd W' r x:=h.frame (ts:=[]) (yal.grown hg) (by simp) (by simp) (by simp) (by simp) (by simp)
theorem ycp.kept (h:ycp W B v fl xs) (hg:W.grownBy W' none):ycp W' B v fl xs :=
 ⟨h.len,h.row.kept hg (by cases v.ownBlock <;> simp),fun i hi=>(h.at_ i hi).kept hg,h.pair,fun m hm=>⟨(h.bnd m hm).1,Nat.lt_of_lt_of_le (h.bnd m hm).2 hg.size⟩⟩
theorem ycp.more (h:ycp W B v fl xs) (hf:ycd W r x) (hmg:∀ q∈fl,q.mg < r.mg) (hB:B<=r.mg) (hmw:r.mg < W.heap.size) (hown:w3.ownsRow B 117 2 v' (xs.length+1) (fl.flatMap yfS ++ yfS r)) (hg:W.grownBy w3 v.ownBlock):ycp w3 B v' (fl ++ [r]) (xs ++ [x]):=by
 have FR:yal [117] W w3:=yal.row hg (RowT.own h.row) (by simp)
 refine ⟨by simp [h.len],by simpa using hown,fun i hi=>?_,?_,fun m hm=>?_⟩
 ·by_cases hlt:i < xs.length
  ·rw [List.getElem_append_left (by rw [h.len]; exact hlt),List.getElem_append_left hlt]
   exact (h.at_ i hlt).frame FR (by decide) (by decide) (by decide) (by decide) (by decide)
  ·have hi2:i=xs.length:=by simp at hi; omega
   subst hi2
   have e2:(fl ++ [r])[xs.length]'(by simp [h.len])=r:=by simp [<- h.len]
   have e3:(xs ++ [x])[xs.length]=x:=by simp
   rw [e2,e3]
   exact hf.frame FR (by decide) (by decide) (by decide) (by decide) (by decide)
 ·rw [List.pairwise_append]
  exact ⟨h.pair,List.pairwise_singleton _ _,fun y hy z hz=>by simp at hz; subst hz; exact hmg y hy⟩
 ·rcases List.mem_append.1 hm with hm | hm
  ·exact ⟨(h.bnd m hm).1,Nat.lt_of_lt_of_le (h.bnd m hm).2 hg.size⟩
  ·simp at hm; subst hm; exact ⟨hB,Nat.lt_of_lt_of_le hmw hg.size⟩
end
theorem ysf (U:World) (b:Bool) (sl_:Value):∀ j u,[Value.bool b,sl_][j]?=some u->(U.alloc (.cells #[.bool b,sl_] 117)).cell? ((⟨U.heap.size,0,none⟩:Addr).add j)=some u:=by
 intro j u hu
 have e:(⟨U.heap.size,0,none⟩:Addr).add j=⟨U.heap.size,j,none⟩:=by
  unfold Addr.add
  by_cases h0:j=0
  ·subst h0; simp
  ·simp [h0]
 rw [e,(yc.new U #[.bool b,sl_] 117).cell j]
 simpa using hu
def ynf (W0:World) (bt bf bd:Int) (fs:List (List UInt8)) (e:Ending) (w':World):Prop :=
 (∃ f:Ln.Flt,f.e≠0/\e = .returned (.tuple #[.pointer none,lfA f]) /\
  (f=yab bt bf bd \/
  (yab bt bf bd=Ln.ok/\(fs.length < 1\/8 < fs.length)/\f=⟨31,0,[]⟩) \/
  (yab bt bf bd=Ln.ok/\1<=fs.length/\fs.length<=8/\∃ i,∃ h:i < fs.length,f=⟨32,i,[]⟩/\yfn fs[i]/\∀ j (hj:j < i),∃ a os,yaU (fs[j]'(by omega)) a os))) \/
 (yab bt bf bd=Ln.ok/\1<=fs.length/\fs.length<=8/\∃ (xs:List (Bool×List Lk.Obj)) (hx:xs.length=fs.length) (P:Nat) (vm:Value) (bl gl:List Nat),(∀ i (h:i < fs.length),yaU fs[i] (xs[i]'(by omega)).1 (xs[i]'(by omega)).2)/\e = .returned (.tuple #[ptrV P,lfA Ln.ok])/\yaF W0 P bt bf bd vm bl gl (Ln.takeAll xs) w')
theorem yaO {w:World} {g:Nat} {cs:Array Value} {t:TypeId} (h:yc w g cs t):yc w.drew g cs t:=h.drewN 1
theorem yqa (bt bf bd:Int) (f:Ln.Flt) (h:f=yab bt bf bd) (he:f.e=0):f=Ln.ok:=by
 subst h
 unfold yab at he ⊢
 by_cases h1:¬ Im.Base bt
 ·rw [if_pos h1] at he; cases he
 rw [if_neg h1] at he ⊢
 by_cases h2:¬ Im.Base bf
 ·rw [if_pos h2] at he; cases he
 rw [if_neg h2] at he ⊢
 by_cases h3:¬ Im.Base bd
 ·rw [if_pos h3] at he; cases he
 rw [if_neg h3]
set_option maxRecDepth 100000 in
set_option maxHeartbeats 8000000 in
theorem ymo (bt bf bd:Int) (af:Option Addr) (cf:Nat) (fs:List (List UInt8)) (w:World) (hin:ycR w af fs) (hsz:∀ f∈fs,f.length<=1048576) (ht:Tabs w) (hn:fs.length<=1048576) :
  Calls Tryz.prog 37 #[.slice af fs.length cf,.agg #[.int .i64 bt,.int .i64 bf,.int .i64 bd]] w fun e w'=>ynf w bt bf bd fs e w'/\w.grownBy w' none:=by
 have cB:=hid (fun W=>yhD bt bf bd W)
 have hs1:(w.alloc (.cells #[.int .i64 bt,.int .i64 bf,.int .i64 bd] 33)).heap.size=w.heap.size+1:=Array.size_push _
 have A1:=ysp (w.alloc (.cells #[.int .i64 bt,.int .i64 bf,.int .i64 bd] 33)) (.cells #[.int .i64 0,.int .i64 0,.string ⟨#[]⟩] 45) none
 have G1:=hid (ya (ysp w (.cells #[.int .i64 bt,.int .i64 bf,.int .i64 bd] 33) none) A1)
 have BB:=hid ((yc.new w #[.int .i64 bt,.int .i64 bf,.int .i64 bd] 33).grown A1 (by simp))
 have BF:=hid (yc.new (w.alloc (.cells #[.int .i64 bt,.int .i64 bf,.int .i64 bd] 33)) #[.int .i64 0,.int .i64 0,.string ⟨#[]⟩] 45)
 rw [hs1] at BF
 have HI:=hid hin
 have HT:=hid ht
 clear hs1 A1 hin ht
 obtain ⟨f,hf⟩:∃ f,f=yab bt bf bd:=⟨_,rfl⟩
 rw [<- hf] at cB
 have HFL:=hid hf
 clear hf
 unfold lfA at cB
 go_enter Tryz.func37,Tryz.ntmps37
 go_wp2_with fail
 refine (cB.out _).mono ?_
 rintro e W2 ⟨rfl,h2⟩
 have G2:=hid (ya G1.out h2)
 have BB2:=hid (BB.out.grown h2 (by simp))
 have BF2:=hid (BF.out.grown h2 (by simp))
 clear h2 cB BB BF G1
 have z0:W2.cell? ⟨w.heap.size+1,0,none⟩=some (.int .i64 0):=BF2.out.cell 0
 have z1:W2.cell? ⟨w.heap.size+1,1,none⟩=some (.int .i64 0):=BF2.out.cell 1
 have z2:W2.cell? ⟨w.heap.size+1,2,none⟩=some (.string ⟨#[]⟩):=BF2.out.cell 2
 have f0:=BF2.out.free 0
 have f1:=BF2.out.free 1
 have f2:=BF2.out.free 2
 have hlF:=BF2.out.lt
 have hnF:w.heap.size+1≠W2.heap.size:=by omega
 by_cases he:f.e=0
 case neg =>
  have d1:(f.e == 0)=false:=by simpa using he
  have HE:=hid he
  go_wp2
  have BX:=hid (yc.new W2 #[.int .i64 f.e,.int .i64 f.at_,.string (bs f.name)] 45)
  have AX:=hid (ysp W2 (.cells #[.int .i64 f.e,.int .i64 f.at_,.string (bs f.name)] 45) none)
  have BF3:=hid (BF2.out.grown AX.out (by simp))
  have G3:=hid (ya G2.out AX.out)
  clear z0 z1 z2 f0 f1 f2
  generalize hV:W2.alloc (.cells #[.int .i64 f.e,.int .i64 f.at_,.string (bs f.name)] 45)=V at *
  generalize hX:W2.heap.size=X at *
  have z0:V.cell? ⟨w.heap.size+1,0,none⟩=some (.int .i64 0):=BF3.out.cell 0
  have z1:V.cell? ⟨w.heap.size+1,1,none⟩=some (.int .i64 0):=BF3.out.cell 1
  have z2:V.cell? ⟨w.heap.size+1,2,none⟩=some (.string ⟨#[]⟩):=BF3.out.cell 2
  have f0:=BF3.out.free 0
  have f1:=BF3.out.free 1
  have f2:=BF3.out.free 2
  have x0:V.cell? ⟨X,0,none⟩=some (.int .i64 f.e):=BX.out.cell 0
  have x1:V.cell? ⟨X,1,none⟩=some (.int .i64 f.at_):=BX.out.cell 1
  have x2:V.cell? ⟨X,2,none⟩=some (.string (bs f.name)):=BX.out.cell 2
  go_region_held3 (fun w'=>w'.cell? ⟨X,0,none⟩=some (.int .i64 f.e)/\w'.cell? ⟨X,1,none⟩=some (.int .i64 f.at_)/\w'.cell? ⟨X,2,none⟩=some (.string (bs f.name)))
   (go_keep)
   (fail)
  go_wp2
  have F:=yaO (((BF3.out.set 0 (.int .i64 f.e)).set 1 (.int .i64 f.at_)).set 2 (.string (bs f.name)))
  have h0:=F.cell 0
  have h1:=F.cell 1
  have h2:=F.cell 2
  simp only [yso,ysm,ysn,ysk,ysl,ysj] at h0 h1 h2
  refine bodyPost_ret (v:=.tuple #[.pointer none,lfA f]) ?_ rfl ⟨.inl ⟨f,HE.out,rfl,.inl HFL.out⟩,yi (yx G3.out _ (by omega) _ _ _)⟩
  clear F z0 z1 z2 f0 f1 f2 x0 x1 x2 BF3 BX
  generalize World.drew _=WF at *
  simp [results,Tryz.results37,go_sem,lfA,h0,h1,h2]
 case pos =>
  have hok:f=Ln.ok:=yqa bt bf bd f HFL.out he
  subst hok
  by_cases hc:1<=fs.length/\fs.length<=8
  case neg =>
   have FIN:=hid (show (fs.length < 1\/8 < fs.length) by omega)
   unfold Ln.ok
   by_cases h1:fs.length < 1
   ·have d2:decide ((fs.length:Int) < 1)=true:=by simp; omega
    go_wp2
    have F:=(((BF2.out.set 0 (.int .i64 31)).set 1 (.int .i64 0)).set 2 (.string ⟨#[]⟩)).grown (ysp _ (.cells #[.int .i64 0,.int .i64 0,.string (bs [])] 45) none) (by simp)
    have h0:=F.cell 0
    have h1:=F.cell 1
    have h2:=F.cell 2
    simp only [yso,ysm,ysn,ysk,ysl,ysj] at h0 h1 h2
    refine bodyPost_ret (v:=.tuple #[.pointer none,lfA ⟨31,0,[]⟩]) ?_ rfl ⟨.inl ⟨⟨31,0,[]⟩,by decide,rfl,.inr (.inl ⟨HFL.out.symm,FIN.out,rfl⟩)⟩,ya (yx G2.out _ (by omega) _ _ _) (ysp _ _ none)⟩
    clear F z0 z1 z2 f0 f1 f2
    generalize World.alloc _ _=WF at *
    simp [results,Tryz.results37,go_sem,lfA,bs,h0,h1,h2]
   ·have d2:decide ((fs.length:Int) < 1)=false:=by simp; omega
    have d3:decide ((8:Int) < (fs.length:Int))=true:=by simp; omega
    go_wp2
    have F:=(((BF2.out.set 0 (.int .i64 31)).set 1 (.int .i64 0)).set 2 (.string ⟨#[]⟩)).grown (ysp _ (.cells #[.int .i64 0,.int .i64 0,.string (bs [])] 45) none) (by simp)
    have h0:=F.cell 0
    have h1:=F.cell 1
    have h2:=F.cell 2
    simp only [yso,ysm,ysn,ysk,ysl,ysj] at h0 h1 h2
    refine bodyPost_ret (v:=.tuple #[.pointer none,lfA ⟨31,0,[]⟩]) ?_ rfl ⟨.inl ⟨⟨31,0,[]⟩,by decide,rfl,.inr (.inl ⟨HFL.out.symm,FIN.out,rfl⟩)⟩,ya (yx G2.out _ (by omega) _ _ _) (ysp _ _ none)⟩
    clear F z0 z1 z2 f0 f1 f2
    generalize World.alloc _ _=WF at *
    simp [results,Tryz.results37,go_sem,lfA,bs,h0,h1,h2]
  case pos =>
   have d2:decide ((fs.length:Int) < 1)=false:=by simp; omega
   have d3:decide ((8:Int) < (fs.length:Int))=false:=by simp; omega
   have AX:=hid (ysp W2 (.cells #[.int .i64 0,.int .i64 0,.string (bs [])] 45) none)
   have BF3:=hid (BF2.out.grown AX.out (by simp))
   have BB3:=hid (BB2.out.grown AX.out (by simp))
   have G3:=hid (ya G2.out AX.out)
   have hs3:(W2.alloc (.cells #[.int .i64 0,.int .i64 0,.string (bs [])] 45)).heap.size=W2.heap.size+1:=Array.size_push _
   have HS3:=hid hs3
   clear hs3 z0 z1 z2 f0 f1 f2
   obtain ⟨i0,hi,hz0,hz1,hz2⟩:=info_parts Tryz.infoFile
   unfold Ln.ok
   go_wp2
   generalize W2.alloc (.cells #[.int .i64 0,.int .i64 0,.string (bs [])] 45)=W3 at *
   go_loopw [7,32] (fun vl i wr=>∃ (k:Nat) (fl:List FR) (xs:List (Bool×List Lk.Obj)),k<=fs.length/\i = .int .i64 k/\xs.length=k/\(∀ j (h:j < k) (h1:j < fs.length) (h2:j < xs.length),yaU fs[j] xs[j].1 xs[j].2)/\ycp wr w.heap.size vl fl xs/\yc wr w.heap.size #[.int .i64 bt,.int .i64 bf,.int .i64 bd] 33/\yc wr (w.heap.size+1) #[.int .i64 0,.int .i64 0,.string ⟨#[]⟩] 45/\w.grownBy wr none) (fun _ i _=>fs.length - (intOf i).toNat)
   case atStart=>exact ⟨0,[],[],Nat.zero_le _,rfl,rfl,fun j h=>by omega,⟨rfl,World.ownsRow_nil _ _ _ _,fun i h=>by simp at h,List.Pairwise.nil,fun m hm=>by simp at hm⟩,BB3.out,BF3.out,G3.out⟩
   case round =>
    obtain ⟨k,fl,xs,hk,rfl,hxl,hfi,hfa,hbb,hbf,hgw⟩:=hrel
    obtain ⟨al,cl,rfl⟩:=yh hfa.row
    have HFI:=hid hfi
    have HFA:=hid hfa
    have HBB:=hid hbb
    have HBF:=hid hbf
    have HGW:=hid hgw
    clear hfi hfa hbb hbf hgw
    by_cases hlt:k < fs.length
    ·obtain ⟨sg,off,hsg,hsc⟩:=HI.out.kept HGW.out (by omega)
     have ck:=hsc k hlt
     have cR:=hid (yjX (bs fs[k]) wr (HT.out.grown HGW.out) (by rw [ybp]; exact hsz _ (ysr hlt)))
     rw [ydM] at cR
     have g1:(k:Int) < (fs.length:Int):=by omega
     generalize hfk:fs[k]=fk at *
     have HFK:=hid hfk
     clear hsc hfk
     subst hsg
     go_wp2_with fail
     refine cR.out.mono ?_
     rintro e U5 ⟨hr5,h5⟩
     rcases hr5 with ⟨v,a,os,q1,rfl,mg,cap,gs,rfl,q2,q3,q4,q5⟩ | ⟨q1,rfl⟩
     ·have FM:=hid (show ycd U5 ⟨a,mg,os.length,cap⟩ (a,os) from ⟨rfl,rfl,gs,q3,q4,q5⟩)
      have QI:=hid q1
      have hmU:mg < U5.heap.size:=by
       obtain ⟨cur,hb,-⟩:=q3.row
       exact hb.lt
      have hsz5:=h5.size
      have FA5:=hid (HFA.out.kept h5)
      have BB5:=hid (HBB.out.grown h5 (by simp))
      have BF5:=hid (HBF.out.grown h5 (by simp))
      have GW5:=hid (ya HGW.out h5)
      have BN:=hid (fun (q:FR) (hq:q∈fl)=>show q.mg < (⟨a,mg,os.length,cap⟩:FR).mg from Nat.lt_of_lt_of_le (HFA.out.bnd q hq).2 q2)
      have hwl:=HGW.out.size
      clear q1 q3 h5 cR ck HFA HBB HBF HGW
      have A1:=hid (ysp U5 (.cells #[.bool a,.slice (some ⟨mg,0,none⟩) os.length cap] 117) none)
      have SZ1:(U5.alloc (.cells #[.bool a,.slice (some ⟨mg,0,none⟩) os.length cap] 117)).heap.size=U5.heap.size+1:=Array.size_push _
      have A2:=hid (ysp (U5.alloc (.cells #[.bool a,.slice (some ⟨mg,0,none⟩) os.length cap] 117)) (.cells #[.bool a,.slice (some ⟨mg,0,none⟩) os.length cap] 117) none)
      have CN:=hid (ysf (U5.alloc (.cells #[.bool a,.slice (some ⟨mg,0,none⟩) os.length cap] 117)) a (.slice (some ⟨mg,0,none⟩) os.length cap))
      rw [SZ1] at CN
      have FA6:=hid (FA5.out.kept (ya A1.out A2.out))
      have HRA:=hid FA6.out.row
      have hcl:=yak HRA.out
      have hB6:w.heap.size<=((U5.alloc (.cells #[.bool a,.slice (some ⟨mg,0,none⟩) os.length cap] 117)).alloc (.cells #[.bool a,.slice (some ⟨mg,0,none⟩) os.length cap] 117)).heap.size:=Nat.le_trans GW5.out.size (ya A1.out A2.out).size
      have HB6:=hid hB6
      rw [hxl] at HRA hcl
      have STEP:=hid (fun (v':Value) (w3:World) (hown':w3.ownsRow w.heap.size 117 2 v' (k+1) (fl.flatMap yfS ++ [.bool a,.slice (some ⟨mg,0,none⟩) os.length cap])) (hgrow:((U5.alloc (.cells #[.bool a,.slice (some ⟨mg,0,none⟩) os.length cap] 117)).alloc (.cells #[.bool a,.slice (some ⟨mg,0,none⟩) os.length cap] 117)).grownBy w3 (Value.ownBlock (.slice al k cl)))=>show ycp w3 w.heap.size v' (fl ++ [⟨a,mg,os.length,cap⟩]) (xs ++ [(a,os)])/\yc w3 w.heap.size #[.int .i64 bt,.int .i64 bf,.int .i64 bd] 33/\yc w3 (w.heap.size+1) #[.int .i64 0,.int .i64 0,.string ⟨#[]⟩] 45/\w.grownBy w3 none by
       have A:=ya A1.out A2.out
       have RT:=RowT.own HRA.out
       refine ⟨?_,yF (BB5.out.grown A (by simp)) hgrow RT (by decide),yF (BF5.out.grown A (by simp)) hgrow RT (by decide),yN (ya GW5.out A) hgrow (fun b e=>(HRA.out.lt b e).1)⟩
       refine ycp.more FA6.out (FM.out.kept A) BN.out (show w.heap.size<=mg by omega) (show mg < _ from Nat.lt_of_lt_of_le hmU A.size) (by rw [hxl]; exact hown') (by rw [hxl]; exact hgrow))
      clear SZ1 hB6 FA5 BB5 BF5 GW5 FM BN FA6
      have FI2:=hid (show ∀ j (h:j < k+1) (h1:j < fs.length) (h2:j < (xs ++ [(a,os)]).length),yaU fs[j] (xs ++ [(a,os)])[j].1 (xs ++ [(a,os)])[j].2 from fun j h h1 h2=>by
       by_cases hj:j < k
       ·rw [List.getElem_append_left (by omega)]
        exact HFI.out j hj h1 (by omega)
       ·obtain rfl:j=k:=by omega
        have e1:(xs ++ [(a,os)])[j]=(a,os):=by simp [<- hxl]
        rw [e1,HFK.out]
        exact QI.out)
      rw [hxl]
      go_wp2_with (at_builtin; refine ybX _ rfl _ _ 114 rfl w.heap.size 117 i0 (.agg #[.bool false,.slice none 0 0]) 2 32 Tryz.underlying114 hi hz0 hz1 hz2 rfl (by decide) _ _ _ rfl HRA.out ⟨U5.heap.size+1,0,none⟩ 1 1 [.bool a,.slice (some ⟨mg,0,none⟩) os.length cap] rfl rfl CN.out (by intro u hu; simp at hu; rcases hu with rfl | rfl <;> rfl) (by unfold maxLen; omega) (by omega) HB6.out ?_; intro v' w3 hown' hgrow hblk; obtain ⟨av',cv',rfl⟩:=yh hown'; obtain ⟨r1,r2,r3,r4⟩:=STEP.out _ _ hown' hgrow; have Q1:=hid r1; have Q2:=hid r2; have Q3:=hid r3; have Q4:=hid r4; clear hgrow hown' r1 r2 r3 r4 hblk)
      go_roundw
      case rel=>exact ⟨k+1,_,_,by omega,by go_num,by simp [hxl],FI2.out,Q1.out,Q2.out,Q3.out,Q4.out⟩
      case measure=>simp [intOf]; omega
     ·have N:=hid q1
      have BF5:=hid (HBF.out.grown h5 (by simp))
      have G5:=hid (ya HGW.out h5)
      have hR5:=BF5.out.lt
      have hRn:w.heap.size+1≠U5.heap.size:=by omega
      have z0:U5.cell? ⟨w.heap.size+1,0,none⟩=some (.int .i64 0):=BF5.out.cell 0
      have z1:U5.cell? ⟨w.heap.size+1,1,none⟩=some (.int .i64 0):=BF5.out.cell 1
      have z2:U5.cell? ⟨w.heap.size+1,2,none⟩=some (.string ⟨#[]⟩):=BF5.out.cell 2
      have f0:=BF5.out.free 0
      have f1:=BF5.out.free 1
      have f2:=BF5.out.free 2
      clear q1 h5 cR ck
      go_wp2
      have F:=(((BF5.out.set 0 (.int .i64 32)).set 1 (.int .i64 k)).set 2 (.string ⟨#[]⟩)).grown (ysp _ (.cells #[.bool false,.slice none 0 0] 117) none) (by simp)
      have h0:=F.cell 0
      have h1:=F.cell 1
      have h2:=F.cell 2
      simp only [yso,ysm,ysn,ysk,ysl,ysj] at h0 h1 h2
      refine bodyPost_ret (v:=.tuple #[.pointer none,lfA ⟨32,k,[]⟩]) ?_ rfl ⟨.inl ⟨⟨32,k,[]⟩,(show (32:Int)≠0 by decide),rfl,.inr (.inr ⟨HFL.out.symm,hc.1,hc.2,k,hlt,rfl,by rw [HFK.out]; exact N.out,fun j hj=>⟨_,_,HFI.out j hj (by omega) (by omega)⟩⟩)⟩,ya (yx G5.out _ (by omega) _ _ _) (ysp _ _ none)⟩
      clear F z0 z1 z2 f0 f1 f2
      generalize World.alloc _ _=WF at *
      simp [results,Tryz.results37,go_sem,lfA,bs,h0,h1,h2]
    ·obtain rfl:k=fs.length:=by omega
     have g3:decide ((fs.length:Int) < (fs.length:Int))=false:=by simp
     have b0:wr.cell? ⟨w.heap.size,0,none⟩=some (.int .i64 bt):=HBB.out.cell 0
     have b1:wr.cell? ⟨w.heap.size,1,none⟩=some (.int .i64 bf):=HBB.out.cell 1
     have b2:wr.cell? ⟨w.heap.size,2,none⟩=some (.int .i64 bd):=HBB.out.cell 2
     have AP:=hid (ysp wr (.cells #[.int .i64 bt,.int .i64 bf,.int .i64 bd,.slice none 0 0,.pointer none,.int .i64 0,.int .i64 0,.int .i64 0] 125) none)
     have BP:=hid (yc.new wr #[.int .i64 bt,.int .i64 bf,.int .i64 bd,.slice none 0 0,.pointer none,.int .i64 0,.int .i64 0,.int .i64 0] 125)
     have hwr:=HGW.out.size
     have GA0:=hid (show yaF w wr.heap.size bt bf bd (.slice none 0 0) [] [] [] (wr.alloc (.cells #[.int .i64 bt,.int .i64 bf,.int .i64 bd,.slice none 0 0,.pointer none,.int .i64 0,.int .i64 0,.int .i64 0] 125)) from ⟨BP.out,World.ownsRow_nil _ _ _ _,rfl,rfl,fun i h=>by simp at h,fun i h=>by simp at h,by simp,fun o ho=>by simp at ho,hwr,fun b hb=>by simp at hb,ya HGW.out AP.out,List.nodup_nil⟩)
     have FA0:=hid (HFA.out.kept AP.out)
     have BF0:=hid (HBF.out.grown AP.out (by simp))
     have LN:=hid (show ∀ i (h:i < xs.length),xs[i].2.length<=6 from fun i h=>by
      rcases HFI.out i (by omega) (by omega) h with ⟨-,-,e⟩ | ⟨-,-,ms,e,e2⟩
      ·rw [e]; simp
      ·rw [e2]; simpa using e.1.2)
     rw [hxl]
     go_wp2
     generalize wr.alloc (.cells #[.int .i64 bt,.int .i64 bf,.int .i64 bd,.slice none 0 0,.pointer none,.int .i64 0,.int .i64 0,.int .i64 0] 125)=W4 at *
     generalize hPP:wr.heap.size=P at *
     have HPP:=hid hPP
     clear hPP b0 b1 b2
     go_loopw [56] (fun i wr2=>∃ (k:Nat) (bl gl:List Nat) (vm:Value),k<=xs.length/\i = .int .i64 k/\yaF w P bt bf bd vm bl gl (Ln.takeAll (xs.take k)) wr2/\bl.length<=6 * k/\(∀ i (h1:i < fl.length) (h:i < xs.length),k<=i->ycd wr2 fl[i] xs[i])/\wr2.ownsRow w.heap.size 117 2 (.slice al xs.length cl) xs.length (fl.flatMap yfS)/\yc wr2 (w.heap.size+1) #[.int .i64 0,.int .i64 0,.string ⟨#[]⟩] 45) (fun i _=>xs.length - (intOf i).toNat)
     case atStart=>exact ⟨0,[],[],_,Nat.zero_le _,rfl,GA0.out,Nat.le_refl _,fun i h1 h _=>FA0.out.at_ i h,FA0.out.row,BF0.out⟩
     case round =>
      obtain ⟨k,bl,gl,vm,hk2,rfl,hga,hbl,hfr,hrw,hbf⟩:=hrel
      have HGA:=hid hga
      have HFR:=hid hfr
      have HRW:=hid hrw
      have HBF:=hid hbf
      clear hga hfr hrw hbf
      by_cases hlt:k < xs.length
      ·have hkl:k < fl.length:=by rw [FA0.out.len]; exact hlt
       obtain ⟨sg,hsg⟩:∃ sg,al=some ⟨sg,0,none⟩:=by
        rcases HRW.out.2 with ⟨h1,h2⟩ | ⟨g,cap',cur,hv,_⟩
        ·simp at h1; omega
        ·simp only [Value.slice.injEq] at hv
         exact ⟨g,hv.1⟩
       subst hsg
       have q:=fun j (hj:j < 2)=>(HRW.out.cellAt (k * 2+j) (by omega)).trans (yde yfS 2 (fun _=>rfl) fl k j hkl hj)
       have m0:wr.cell? ⟨sg,k * 2,none⟩=some (.bool fl[k].a):=q 0 (by omega)
       have m1:wr.cell? ⟨sg,k * 2+1,none⟩=some (.slice (some ⟨fl[k].mg,0,none⟩) fl[k].n fl[k].cap):=q 1 (by omega)
       clear q
       obtain ⟨e0,e1,gs,hm,hcm⟩:=HFR.out k hkl hlt (Nat.le_refl _)
       rw [e0] at m0
       rw [e1] at m1
       have HL:=LN.out k hlt
       have TK:=hid (show Ln.takeAll (xs.take (k+1))=Ln.takeFile (Ln.takeAll (xs.take k)) xs[k] by
        unfold Ln.takeAll
        rw [List.take_succ_eq_append_getElem hlt,List.foldl_append]
        rfl)
       have BND:=FA0.out.bnd _ (ysr hkl)
       have NE:=hid (show ∀ i (h1:i < fl.length),k+1<=i->fl[i].mg≠fl[k].mg from fun i h1 hi=>by
        have:=(List.pairwise_iff_getElem.1 FA0.out.pair) k i hkl h1 (by omega)
        omega)
       generalize hr:fl[k]=r at *
       generalize hx:xs[k]=x at *
       obtain ⟨ra,rmg,rn,rcap⟩:=r
       obtain ⟨xa,xo⟩:=x
       dsimp only at *
       subst e0 e1
       have AL:=hid (ysp wr (.cells #[.bool ra,.slice (some ⟨rmg,0,none⟩) xo.length rcap] 117) none)
       have cT:=hid (ykm w P bt bf bd vm bl gl (Ln.takeAll (xs.take k)) rmg rcap gs ra xo _ (HGA.out.kept AL.out) (hm.kept AL.out) (by omega) BND.1 hcm)
       have HM:=hid (hm.kept AL.out)
       clear hm
       have g1:(k:Int) < (xs.length:Int):=by omega
       have hcm2:=hcm.2
       unfold maxLen at hcm2
       unfold ptrV at cT
       go_wp2_with fail
       refine cT.out.mono ?_
       rintro e W7 ⟨rfl,⟨vm7,b7,g7,h7,l7⟩,f7⟩
       have HG7:=hid h7
       obtain ⟨cur,hcb,-⟩:=HM.out.row
       have FR7:=f7.frame hcb
       have HF7:=hid (show ∀ i (h1:i < fl.length) (h:i < xs.length),k+1<=i->ycd W7 fl[i] xs[i] from fun i h1 h hi=>((HFR.out i h1 h (by omega)).kept AL.out).frameX f7 (NE.out i h1 hi) (fun g o ho=>FR7.obj ho (by decide) (by decide) (by decide) (by decide)) (by decide))
       have RW7:=hid (FR7.own (HRW.out.kept AL.out (Decidable.em _)) (by decide))
       have BF7:=hid (FR7 _ _ _ (HBF.out.grown AL.out (by simp)) (by decide))
       clear h7 f7 cT m0 m1 FR7
       go_wp2
       go_roundw
       case rel=>exact ⟨k+1,_,_,_,by omega,by go_num,by rw [TK.out]; exact HG7.out,by omega,HF7.out,RW7.out,BF7.out⟩
       case measure=>simp [intOf]; omega
      ·obtain rfl:k=xs.length:=by omega
       have g3:decide ((xs.length:Int) < (xs.length:Int))=false:=by simp
       have z0:wr.cell? ⟨w.heap.size+1,0,none⟩=some (.int .i64 0):=HBF.out.cell 0
       have z1:wr.cell? ⟨w.heap.size+1,1,none⟩=some (.int .i64 0):=HBF.out.cell 1
       have z2:wr.cell? ⟨w.heap.size+1,2,none⟩=some (.string ⟨#[]⟩):=HBF.out.cell 2
       have f0:=HBF.out.free 0
       have f1:=HBF.out.free 1
       have f2:=HBF.out.free 2
       have hR:=HBF.out.lt
       go_wp2
       have c0:=HBF.out.set 0 (.int .i64 0)
       have c1:=c0.set 1 (.int .i64 0)
       have F:=c1.set 2 (.string ⟨#[]⟩)
       have HLO:∀ b,some (w.heap.size+1)=some b->w.heap.size<=b:=fun b e=>by simp at e; omega
       have GF:=(((HGA.out.ty (yf _ _ 0 (.int .i64 0)) (RowT.blk HBF.out) HLO (by decide) (by decide) (by decide) (by decide) (by decide) (by decide) (by decide)).ty (yf _ _ 1 (.int .i64 0)) (RowT.blk c0) HLO (by decide) (by decide) (by decide) (by decide) (by decide) (by decide) (by decide)).ty (yf _ _ 2 (.string ⟨#[]⟩)) (RowT.blk c1) HLO (by decide) (by decide) (by decide) (by decide) (by decide) (by decide) (by decide))
       have h0:=F.cell 0
       have h1:=F.cell 1
       have h2:=F.cell 2
       simp only [yso,ysm,ysn,ysk,ysl,ysj] at h0 h1 h2
       refine bodyPost_ret (v:=.tuple #[ptrV P,lfA Ln.ok]) ?_ rfl ⟨.inr ⟨HFL.out.symm,hc.1,hc.2,xs,hxl,P,vm,bl,gl,fun i h=>HFI.out i h h (by omega),rfl,by have:=GF; rw [List.take_length] at this; exact this⟩,GF.gr⟩
       clear F GF z0 z1 z2 f0 f1 f2 c0 c1
       generalize World.setCell _ _ _=WF at *
       simp [results,Tryz.results37,go_sem,lfA,Ln.ok,ptrV,bs,h0,h1,h2]
def ycD (bl:List Nat) (s:Ln.Spot):List Value:=[.pointer (yap bl s.mod),.int .i64 s.sect,.int .i64 s.off]
def yD (W:World) (bl:List Nat) (b g:Nat) (m:Ln.Mod):Prop :=
 ∃ vm vs vt vf,yc W b #[ptrV g,vm,vs,vt,vf,.int .i64 m.data,.int .i64 m.bss] 130/\yr W g m.obj /\
  W.ownsRow 0 123 3 vm m.means.length (m.means.flatMap (ycD bl))/\W.ownsRow 0 4 1 vs m.short.length (m.short.map Value.bool) /\
  W.ownsRow 0 3 1 vt m.text.length (m.text.map (Value.int .i64))/\W.ownsRow 0 3 1 vf m.far.length (m.far.map (Value.int .i64)) /\
  (m.means=[]->vm = .slice none 0 0)/\(m.short=[]->vs = .slice none 0 0)
structure ProgAt (W0:World) (P:Nat) (bt bf bd:Int) (vm:Value) (bl gl:List Nat) (ms:List Ln.Mod) (st:Ln.Spot) (no:Int) (W:World):Prop where
 blk:yc W P #[.int .i64 bt,.int .i64 bf,.int .i64 bd,vm,.pointer (yap bl st.mod),.int .i64 st.sect,.int .i64 st.off,.int .i64 no] 125
 row:W.ownsRow W0.heap.size 121 1 vm bl.length (bl.map ptrV)
 lenG:gl.length=bl.length
 lenO:ms.length=bl.length
 mods:∀ i (h:i < bl.length),yD W bl bl[i] (gl[i]'(by rw [lenG]; exact h)) (ms[i]'(by rw [lenO]; exact h))
 few:bl.length<=4096
 syms:∀ m∈ms,m.obj.syms.length<=65535
 lo:W0.heap.size<=P
 los:∀ b∈bl,W0.heap.size<=b
 gr:W0.grownBy W none
 nd:bl.Nodup
theorem ybW {W:World} {B size n:Nat} {e:TypeId} {v:Value} {xs:List Value} (h:W.ownsRow B e size v n xs):W.ownsRow 0 e size v n xs:=by
 refine ⟨h.1,?_⟩
 rcases h.2 with q | ⟨g,cap,cur,hv,_,r⟩
 ·exact .inl q
 ·exact .inr ⟨g,cap,cur,hv,Nat.zero_le _,r⟩
theorem ypl {l:List Nat} (h:l.Nodup) {i j:Nat} (hi:i < l.length) (hj:j < l.length) (hne:i≠j):l[i]≠l[j]:=by
 rcases Nat.lt_or_gt_of_ne hne with q | q
 ·exact List.pairwise_iff_getElem.1 h i j hi hj q
 ·exact fun c=>List.pairwise_iff_getElem.1 h j i hj hi q c.symm
section
variable {W0 W W':World} {P:Nat} {bt bf bd:Int} {vm:Value} {bl gl:List Nat} {ms:List Ln.Mod} {st:Ln.Spot} {no:Int} {b g:Nat} {m:Ln.Mod}
theorem yD.kept (h:yD W bl b g m) (hg:W.grownBy W' none):yD W' bl b g m:=by
 obtain ⟨v1,v2,v3,v4,q0,q1,q2,q3,q4,q5,q6⟩:=h
 have k:∀ (v:Value),v.ownBlock=none\/v.ownBlock≠none:=fun v=>Decidable.em _
 exact ⟨v1,v2,v3,v4,q0.grown hg (by simp),q1.kept hg,q2.kept hg (k _),q3.kept hg (k _),q4.kept hg (k _),q5.kept hg (k _),q6⟩
theorem yD.ty {row:Option Nat} {e:TypeId} (h:yD W bl b g m) (hg:W.grownBy W' row) (hr:RowT W row e) (h1:130≠e) (h2:71≠e) (h3:3≠e) (h4:100≠e) (h5:102≠e) (h6:123≠e) (h7:4≠e):yD W' bl b g m:=by
 obtain ⟨v1,v2,v3,v4,q0,q1,q2,q3,q4,q5,q6⟩:=h
 exact ⟨v1,v2,v3,v4,yF q0 hg hr h1,yaQ q1 hg hr h2 h3 h4 h5,yy q2 hg hr h6,yy q3 hg hr h7,yy q4 hg hr h3,yy q5 hg hr h3,q6⟩
theorem yD.other {k:Nat} {cur:Array Value} (h:yD W bl b g m) (hg:W.grownBy W' (some k)) (hr:yc W k cur 130) (hne:b≠k):yD W' bl b g m:=by
 obtain ⟨v1,v2,v3,v4,q0,q1,q2,q3,q4,q5,q6⟩:=h
 have R:=RowT.blk hr
 exact ⟨v1,v2,v3,v4,q0.grown hg (by simp; omega),yaQ q1 hg R (by decide) (by decide) (by decide) (by decide),yy q2 hg R (by decide),yy q3 hg R (by decide),yy q4 hg R (by decide),yy q5 hg R (by decide),q6⟩
theorem ProgAt.kept (h:ProgAt W0 P bt bf bd vm bl gl ms st no W) (hg:W.grownBy W' none):ProgAt W0 P bt bf bd vm bl gl ms st no W' :=
 ⟨h.blk.grown hg (by simp),h.row.kept hg (by cases vm.ownBlock <;> simp),h.lenG,h.lenO,fun i hi=>(h.mods i hi).kept hg,h.few,h.syms,h.lo,h.los,ya h.gr hg,h.nd⟩
theorem ProgAt.ty {row:Option Nat} {e:TypeId} (h:ProgAt W0 P bt bf bd vm bl gl ms st no W) (hg:W.grownBy W' row) (hr:RowT W row e) (hlo:∀ k,row=some k->W0.heap.size<=k) (h0:125≠e) (h00:121≠e) (h1:130≠e) (h2:71≠e) (h3:3≠e) (h4:100≠e) (h5:102≠e) (h6:123≠e) (h7:4≠e):ProgAt W0 P bt bf bd vm bl gl ms st no W' :=
 ⟨yF h.blk hg hr h0,yy h.row hg hr h00,h.lenG,h.lenO,fun i hi=>(h.mods i hi).ty hg hr h1 h2 h3 h4 h5 h6 h7,h.few,h.syms,h.lo,h.los,yN h.gr hg hlo,h.nd⟩
theorem ProgAt.upd {k:Nat} {m':Ln.Mod} (h:ProgAt W0 P bt bf bd vm bl gl ms st no W) (hk:k < bl.length) (hk':k < ms.length) (hg:W.grownBy W' (some bl[k])) (hm:yD W' bl bl[k] (gl[k]'(by rw [h.lenG]; exact hk)) m') (ho:m'.obj=ms[k].obj):ProgAt W0 P bt bf bd vm bl gl (ms.set k m') st no W':=by
 obtain ⟨v1,v2,v3,v4,q0,-⟩:=h.mods k hk
 have R:=RowT.blk q0
 refine ⟨yF h.blk hg R (by decide),yy h.row hg R (by decide),h.lenG,by rw [List.length_set]; exact h.lenO,fun i hi=>?_,h.few,fun x hx=>?_,h.lo,h.los,yN h.gr hg (by intro j e; simp at e; subst e; exact h.los _ (ysr hk)),h.nd⟩
 ·by_cases e:i=k
  ·subst e
   rw [List.getElem_set_self]
   exact hm
  ·rw [List.getElem_set_ne (by omega)]
   exact (h.mods i hi).other hg q0 (fun c=>ypl h.nd hi hk e c)
 ·rcases List.mem_or_eq_of_mem_set hx with q | rfl
  ·exact h.syms x q
  ·rw [ho]; exact h.syms _ (ysr hk')
theorem ProgAt.modsIn {am:Option Addr} {cm:Nat} (h:ProgAt W0 P bt bf bd (.slice am bl.length cm) bl gl ms st no W):yaV W am bl (ms.map Ln.Mod.obj):=by
 refine ⟨fun hp=>?_,by rw [ysv,h.lenO],fun i h1 h2=>?_,by rw [ysv,h.lenO]; exact h.few,fun o ho=>?_⟩
 ·obtain ⟨sg,hs,-,-,-,hc⟩:=ycG h.row hp
  refine ⟨sg,0,hs,fun i hi=>?_⟩
  rw [Nat.zero_add,hc i hi,List.getElem?_map,yst hi]
  rfl
 ·obtain ⟨v1,v2,v3,v4,q0,q1,-⟩:=h.mods i h1
  refine ⟨_,q0.cell 0,?_⟩
  rw [List.getElem_map]
  exact q1
 ·obtain ⟨x,hx,rfl⟩:=List.mem_map.1 ho
  exact h.syms x hx
theorem ProgAt.spot {st':Ln.Spot} (h:ProgAt W0 P bt bf bd vm bl gl ms st no W):ProgAt W0 P bt bf bd vm bl gl ms st' no (((W.setCell ⟨P,4,none⟩ (.pointer (yap bl st'.mod))).setCell ⟨P,5,none⟩ (.int .i64 st'.sect)).setCell ⟨P,6,none⟩ (.int .i64 st'.off)):=by
 have c1:=h.blk.set 4 (.pointer (yap bl st'.mod))
 have c2:=c1.set 5 (.int .i64 st'.sect)
 have c3:=c2.set 6 (.int .i64 st'.off)
 have g1:=yf W P 4 (.pointer (yap bl st'.mod))
 have g2:=yf (W.setCell ⟨P,4,none⟩ (.pointer (yap bl st'.mod))) P 5 (.int .i64 st'.sect)
 have g3:=yf ((W.setCell ⟨P,4,none⟩ (.pointer (yap bl st'.mod))).setCell ⟨P,5,none⟩ (.int .i64 st'.sect)) P 6 (.int .i64 st'.off)
 have G:=World.grownBy.trans (World.grownBy.trans g1 g2) g3
 have R:=RowT.blk h.blk
 refine ⟨?_,yy h.row G R (by decide),h.lenG,h.lenO,fun i hi=>(h.mods i hi).ty G R (by decide) (by decide) (by decide) (by decide) (by decide) (by decide) (by decide),h.few,h.syms,h.lo,h.los,yN h.gr G (by intro j e; simp at e; have:=h.lo; omega),h.nd⟩
 simpa using c3
theorem ProgAt.nought {no':Int} (h:ProgAt W0 P bt bf bd vm bl gl ms st no W):ProgAt W0 P bt bf bd vm bl gl ms st no' (W.setCell ⟨P,7,none⟩ (.int .i64 no')):=by
 have c1:=h.blk.set 7 (.int .i64 no')
 have G:=yf W P 7 (.int .i64 no')
 have R:=RowT.blk h.blk
 refine ⟨?_,yy h.row G R (by decide),h.lenG,h.lenO,fun i hi=>(h.mods i hi).ty G R (by decide) (by decide) (by decide) (by decide) (by decide) (by decide) (by decide),h.few,h.syms,h.lo,h.los,yN h.gr G (by intro j e; simp at e; have:=h.lo; omega),h.nd⟩
 simpa using c1
end
namespace Ln
def bare (o:Lk.Obj):Mod:=⟨o,[],[],[],[],0,0⟩
def resOne (os:List Lk.Obj) (i:Nat) (m:Mod):Mod:={ m with means:=m.obj.syms.map (meaning os i) }
def resAll (os:List Lk.Obj) (ms:List Mod):List Mod:=ms.mapIdx (resOne os)
end Ln
theorem yaF.prog {W0 W:World} {P:Nat} {bt bf bd:Int} {vm:Value} {bl gl:List Nat} {os:List Lk.Obj} (h:yaF W0 P bt bf bd vm bl gl os W):ProgAt W0 P bt bf bd vm bl gl (os.map Ln.bare) Ln.none_ 0 W :=
 ⟨h.blk,h.row,h.lenG,by rw [ysv]; exact h.lenO,fun i hi=>by
  rw [List.getElem_map]
  exact ⟨_,_,_,_,h.mods i hi,h.objs i hi,World.ownsRow_nil _ _ _ _,World.ownsRow_nil _ _ _ _,World.ownsRow_nil _ _ _ _,World.ownsRow_nil _ _ _ _,fun _=>rfl,fun _=>rfl⟩,h.few,fun m hm=>by
  obtain ⟨o,ho,rfl⟩:=List.mem_map.1 hm
  exact h.syms o ho,h.lo,h.los,h.gr,h.nd⟩
theorem yei {α:Type} (xs ys:List α) (k:Nat) (hx:k < xs.length) (hy:k < ys.length) (_hl:ys.length=xs.length):(ys.take k ++ xs.drop k).set k ys[k]=ys.take (k+1) ++ xs.drop (k+1):=by
 rw [List.set_append_right _ _ (by rw [List.length_take]; omega)]
 have e:k - (ys.take k).length=0:=by rw [List.length_take]; omega
 rw [e,ysu hx,ysn,List.take_succ_eq_append_getElem hy,List.append_assoc,List.singleton_append]
theorem ydP {α:Type} (xs ys:List α) (k:Nat) (hx:k < xs.length) (_hy:k<=ys.length) (h:k < (ys.take k ++ xs.drop k).length):(ys.take k ++ xs.drop k)[k]=xs[k]:=by
 rw [List.getElem_append_right (by rw [List.length_take]; omega)]
 simp [List.length_take,Nat.min_eq_left _hy]
structure yT (Wf W0:World) (P:Nat) (bt bf bd:Int) (vm:Value) (bl gl:List Nat) (ms:List Ln.Mod) (st:Ln.Spot) (no:Int) (W:World):Prop extends ProgAt W0 P bt bf bd vm bl gl ms st no W where
 kf:∀ k cs,yc Wf k cs 45->yc W k cs 45
 le:W0.heap.size<=Wf.heap.size
 sz:Wf.heap.size<=W.heap.size
section
variable {Wf W0 W W':World} {P:Nat} {bt bf bd:Int} {vm:Value} {bl gl:List Nat} {ms:List Ln.Mod} {st:Ln.Spot} {no:Int}
theorem ProgAt.f (h:ProgAt W0 P bt bf bd vm bl gl ms st no W):yT W W0 P bt bf bd vm bl gl ms st no W:=⟨h,fun _ _ q=>q,h.gr.size,Nat.le_refl _⟩
theorem yT.kept (h:yT Wf W0 P bt bf bd vm bl gl ms st no W) (hg:W.grownBy W' none):yT Wf W0 P bt bf bd vm bl gl ms st no W' :=
 ⟨h.toProgAt.kept hg,fun k cs q=>(h.kf k cs q).grown hg (by simp),h.le,Nat.le_trans h.sz hg.size⟩
theorem yT.upd {k:Nat} {m':Ln.Mod} (h:yT Wf W0 P bt bf bd vm bl gl ms st no W) (hk:k < bl.length) (hk':k < ms.length) (hg:W.grownBy W' (some bl[k])) (hm:yD W' bl bl[k] (gl[k]'(by rw [h.lenG]; exact hk)) m') (ho:m'.obj=ms[k].obj):yT Wf W0 P bt bf bd vm bl gl (ms.set k m') st no W':=by
 obtain ⟨v1,v2,v3,v4,q0,-⟩:=h.mods k hk
 exact ⟨h.toProgAt.upd hk hk' hg hm ho,fun k cs q=>yF (h.kf k cs q) hg (RowT.blk q0) (by decide),h.le,Nat.le_trans h.sz hg.size⟩
theorem yT.spot {st':Ln.Spot} (h:yT Wf W0 P bt bf bd vm bl gl ms st no W):yT Wf W0 P bt bf bd vm bl gl ms st' no (((W.setCell ⟨P,4,none⟩ (.pointer (yap bl st'.mod))).setCell ⟨P,5,none⟩ (.int .i64 st'.sect)).setCell ⟨P,6,none⟩ (.int .i64 st'.off)):=by
 have G:=World.grownBy.trans (World.grownBy.trans (yf W P 4 (.pointer (yap bl st'.mod))) (yf _ P 5 (.int .i64 st'.sect))) (yf _ P 6 (.int .i64 st'.off))
 exact ⟨h.toProgAt.spot,fun k cs q=>yF (h.kf k cs q) G (RowT.blk h.blk) (by decide),h.le,Nat.le_trans h.sz G.size⟩
theorem yT.nought {no':Int} (h:yT Wf W0 P bt bf bd vm bl gl ms st no W):yT Wf W0 P bt bf bd vm bl gl ms st no' (W.setCell ⟨P,7,none⟩ (.int .i64 no')) :=
 ⟨h.toProgAt.nought,fun k cs q=>yF (h.kf k cs q) (yf W P 7 (.int .i64 no')) (RowT.blk h.blk) (by decide),h.le,Nat.le_trans h.sz (yf W P 7 (.int .i64 no')).size⟩
end
end Go.Proofs.YtpgklkhgfcjceaaGreatDoor
