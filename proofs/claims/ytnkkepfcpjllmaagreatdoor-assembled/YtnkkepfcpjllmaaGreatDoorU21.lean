
import Derived.Test.YtnkkepfcpjllmaaGreatDoorU20
import Derived.Deep.CutRange
set_option maxHeartbeats 16000000
set_option maxRecDepth 100000
namespace Go.Proofs.YtnkkepfcpjllmaaGreatDoor
open Go.RowKit
def ylF (k:Nat) (w:World) (b:Nat):Prop:=w.cell? ⟨b,k * 4,none⟩=some (.string (bs (Rf.pJ.getD k [])))/\w.cell? ⟨b,k * 4+1,none⟩=some (.string (bs (Rf.Lc.getD k [])))/\w.cell? ⟨b,k * 4+2,none⟩=some (.int .i64 (Rf.oN.getD k 0))/\w.cell? ⟨b,k * 4+3,none⟩=some (.int .i64 (Rf.oL.getD k 0))
theorem yhZ (w:World) :
  Calls Tryz.prog 53 #[] w fun e w'=>e = .returned (.slice (some ⟨w.heap.size,0,none⟩) 32 32)/\(∀ k,k < 32->ylF k w' w.heap.size)/\(∃ cs,yd w' w.heap.size cs 96)/\w.grownBy w' none:=by
 have G:=hid (fun o:Obj=>aW w o none);go_enter Tryz.func53,Tryz.ntmps53;go_wp2;go_ret;refine ⟨rfl,fun k hk=>?_,⟨_,yd.new w _ _⟩,G.o _⟩;refine ⟨((yd.new w _ _).cell _).trans ?_,((yd.new w _ _).cell _).trans ?_,((yd.new w _ _).cell _).trans ?_,((yd.new w _ _).cell _).trans ?_⟩
 all_goals
  clear G;rcases (show k=0\/k=1\/k=2\/k=3\/k=4\/k=5\/k=6\/k=7\/k=8\/k=9\/k=10\/k=11\/k=12\/k=13\/k=14\/k=15\/k=16\/k=17\/k=18\/k=19\/k=20\/k=21\/k=22\/k=23\/k=24\/k=25\/k=26\/k=27\/k=28\/k=29\/k=30\/k=31 from by omega) with rfl | rfl | rfl | rfl | rfl | rfl | rfl | rfl | rfl | rfl | rfl | rfl | rfl | rfl | rfl | rfl | rfl | rfl | rfl | rfl | rfl | rfl | rfl | rfl | rfl | rfl | rfl | rfl | rfl | rfl | rfl | rfl <;> rfl
namespace Rf
theorem GU:∀ k,k < 32->pJ.findIdx? (· == pJ.getD k [])=some k:=by decide +kernel
theorem Ei (w:List UInt8) (h:∀ j,j < 32->pJ.getD j []≠w):pJ.findIdx? (· == w)=none:=by
 rw [List.findIdx?_eq_none_iff];intro x hx;obtain ⟨i,hi,rfl⟩:=List.getElem_of_mem hx
 have:=h i hi
 rw [mP,kg hi] at this;simpa using this
theorem JO:∀ k,k < 32->cnt (fm k)<=3:=by decide
theorem JQ:∀ k,k < 32->(Lc.getD k []).length<=16:=by decide
theorem JR:∀ k,k < 32->(As.forms.getD (As.named (pJ.getD k [])) 0=2\/As.forms.getD (As.named (pJ.getD k [])) 0=4)->∀ c∈fm k,c≠110/\c≠112:=by decide +kernel
theorem G7 {G:Got} (h:AA G) (i:Nat):aG G i<=31:=by
 unfold aG;rw [mP]
 cases e:G.rs[i]? with
 | none=>exact Nat.zero_le _
 | some x=>exact h.rs x (List.mem_of_getElem? e)
theorem zZ (L:List Tk) (lo hi:Int):∀ (cs:List Nat) (G:Got) (d:Ds),(aS L lo hi cs G d).2.ah=d.ah:=by
 intro cs
 induction cs with
 | nil=>intro G d; rfl
 | cons c cs ih =>
  intro G d;show (if d.fe=0 then aS L lo hi cs (iU L lo hi c G d).1 (iU L lo hi c G d).2 else (G,d)).2.ah=d.ah;split
  ·rw [ih];unfold iU;split
   ·exact mH _ _
   split
   ·exact iQ _ _ _
   split
   ·exact jU _ _ _ _
   split
   ·exact mM _ _
   split
   ·exact jO _ _
   split
   ·show (expect L 41 (reg L (expect L 40 (num L lo hi d).2)).2).ah=d.ah;rw [iQ,mH,iQ,jU]
   ·rfl
  ·rfl
theorem uz (L:List Tk) (cs:List Nat) (lo hi:Int) (d:Ds):(operands L cs lo hi d).2.ah=d.ah:=zZ L lo hi cs ⟨[],0,0,0⟩ d
end Rf
theorem Wx (B m g:Nat) (ao:Option Addr) (cap:Nat) (L:List Rf.Tk) (d:Rf.Ds) (w:List UInt8) (W:World) (h:rJ B m g ao cap L d W) (hw:0 < w.length/\w.length<=1000) :
  Calls Tryz.prog 29 #[.pointer (some ⟨m,0,none⟩),.string (bs w)] W fun en W'=>en = .returned (.tuple #[])/\yO B m g ao cap L yW W (Rf.operation L w d) W':=by
 have RS:=hid (show Rf.operation L w d=(if w.headD 0=46 then Rf.directive L w d else match Rf.pJ.findIdx? (· == w) with | none=>Rf.bad 6 d.op d | some i=>if d.ah=1\/d.ah=2 then Rf.instr L d i else Rf.bad 9 d.op d) from rfl);generalize Rf.operation L w d=X at *;have ZV:(bs w).size=w.length:=zw _;have ix:((bs w)[0]'(by rw [ZV]; exact hw.1)).toNat=(w.headD 0).toNat:=by
  cases w with
  | nil=>simp at hw
  | cons a l=>rfl
 have j0:(0:Int) < (w.length:Int):=by omega
 have HM:=hid h;obtain ⟨c0,hc0⟩:∃ c0,(w.headD 0).toNat=c0:=⟨_,rfl⟩
 rw [hc0] at ix;by_cases h46:w.headD 0=46
 ·rw [if_pos h46] at RS;have e0:((c0:Int) == 46)=true:=by rw [<- hc0,h46]; rfl
  have cD:=hid (yfV B m g ao cap L d w W h);clear h h46 hc0;go_enter Tryz.func29,Tryz.ntmps29;go_wp2_with fail;refine cD.o.mono ?_;rintro en V7 ⟨rfl,h7⟩;have D7:=hid h7;clear h7;go_wp2
  (try simp only [Exit.inBlock,Exit.then]); refine bodyPost_ret (results_none rfl _ _ _) rfl ?_
  rw [RS.o];exact ⟨rfl,D7.o⟩
 ·rw [if_neg h46] at RS;have e0:((c0:Int) == 46)=false:=by
   rw [beq_eq_false_iff_ne];intro x;exact h46 (UInt8.toNat_inj.1 (by show (w.headD 0).toNat=46; omega))
  obtain ⟨vq,vt,vf,vd,va,vs,vr,h⟩:=h;have H:=hid h;have hop:=h.md.ok.op;have hsc:=h.md.ok.ah;have hkk:=h.md.ok.k;have hll:=h.md.ok.len;have FN:=hid (Rf.Ei w);clear h h46 HM hc0;go_enter Tryz.func29,Tryz.ntmps29;go_wp2_with fail;refine (yhZ _).mono ?_;rintro en V1 ⟨rfl,hsh,⟨cs,hcs⟩,hg1⟩;have SH:=hid hsh;have H1:=hid (H.o.grown hg1);have D1:=hid ((H.o.refl (ts:=yW)).grown hg1);generalize W.heap.size=sb at *;clear hsh hcs hg1;go_wp2_with fail
  go_loopw [5] (fun i wr=>∃ k:Nat,k<=32/\i = .int .i64 k/\(∀ j,j < k->Rf.pJ.getD j []≠w)/\wr=V1) (fun i _=>32 - (intOf i).toNat)
  case atStart=>exact ⟨0,Nat.zero_le _,rfl,fun j hj=>absurd hj (Nat.not_lt_zero j),rfl⟩
  case round =>
   obtain ⟨k,hk,rfl,hall,rfl⟩:=hrel;have HA:=hid hall;clear hall;by_cases hlt:k < 32
   ·obtain ⟨q0,q1,q2,q3⟩:=SH.o k hlt;have g2:(k:Int) < 32:=by omega
    generalize hnm:Rf.pJ.getD k []=nm at *;by_cases e1:nm=w
    ·have b1:((bs nm).toList == (bs w).toList)=true:=by rw [e1]; simp
     have b2:((bs nm).toList != (bs w).toList)=false:=by rw [e1]; simp
     subst e1;have NM:=hid hnm;clear hnm HA;have RI:=hid (show X=if d.ah=1\/d.ah=2 then Rf.kW L d k else Rf.bad 9 d.op d by
      rw [RS.o,<- NM.o,Rf.GU k hlt,<- Rf.Cx L d k hlt])
     have c2:=yp H1.o.md 2;have c3:=yp H1.o.md 3;have c4:=yp H1.o.md 4;have c7:=yp H1.o.md 7;simp only [yr,bB,yml,bf] at c2 c3 c4 c7;by_cases hse:d.ah=1\/d.ah=2
     ·rw [if_pos hse] at RI;have hs4:d.ah≠4:=by omega
      obtain ⟨m1,m2⟩ | ⟨m1,m2⟩:(((d.ah:Int) != 1)=false/\True)\/(((d.ah:Int) != 1)=true/\((d.ah:Int) != 2)=false):=by
       rcases hse with x | x
       ·exact .inl ⟨by simp [x],trivial⟩
       ·exact .inr ⟨by simp [x],by simp [x]⟩
      all_goals
      clear hse;obtain ⟨F,hF⟩:∃ F,(decide (nm=[108,119]\/nm=[115,119]) && Rf.far L d)=F:=⟨_,rfl⟩
      have FE:=hid hF;have EL:=hid (show ((bs nm).toList == [108,119])=decide (nm=[108,119]) by rw [yA,Bool.eq_iff_iff,beq_iff_eq,decide_eq_true_iff]);have ES:=hid (show ((bs nm).toList == [115,119])=decide (nm=[115,119]) by rw [yA,Bool.eq_iff_iff,beq_iff_eq,decide_eq_true_iff]);have wk:IntKind.i64.wrap ((d.k:Int)+2)=((d.k+2:Nat):Int):=by rw [IntWalk.i64_in _ ⟨by omega,by omega⟩]; omega
      clear hF
      go_upto_region 9 with fail
      go_cut [6] from 46 to 46 (fun v wx=>v = .bool F/\wr.grownBy wx none)
      case first =>
       by_cases hls:nm=[108,119]\/nm=[115,119]
       ·obtain ⟨l1,l2⟩ | ⟨l1,l2⟩:(((bs nm).toList == [108,119])=true/\True)\/(((bs nm).toList == [108,119])=false/\((bs nm).toList == [115,119])=true):=by
         rw [EL.o,ES.o];rcases hls with x | x
         ·exact .inl ⟨decide_eq_true x,trivial⟩
         ·refine .inr ⟨decide_eq_false (by rw [x]; decide),decide_eq_true x⟩
        all_goals
         rw [decide_eq_true hls] at FE;clear hls EL ES;by_cases h3:d.k+2 < L.length
         ·obtain ⟨tb,htb,hct⟩:=H1.o.md.toks (by omega);have a0:=(hct d.k (by omega)).1;have a1:=(hct (d.k+1) (by omega)).1;have a2:=(hct (d.k+2) (by omega)).1;have FK:=hid (show F=(decide (L[d.k].kind=119) && (decide (L[d.k+1].kind=44) && decide (L[d.k+2].kind=119))) by
           rw [<- FE.o];unfold Rf.far;rw [decide_eq_true h3,mP,mP,mP,kg (by omega),kg (by omega),kg (by omega)];rfl)
          subst htb;have f0:decide ((d.k:Int)+2 < (L.length:Int))=true:=by simp; omega
          have f1:(d.k:Int) < (L.length:Int):=by omega
          have f2:(d.k:Int)+1 < (L.length:Int):=by omega
          have f3:(d.k:Int)+2 < (L.length:Int):=by omega
          generalize L[d.k].kind=y0 at *;generalize L[d.k+1].kind=y1 at *;generalize L[d.k+2].kind=y2 at *;clear hct h3 FE;by_cases z0:y0=119
          ·have u0:((y0:Int) == 119)=true:=by simp [z0]
           by_cases z1:y1=44
           ·have u1:((y1:Int) == 44)=true:=by simp [z1]
            by_cases z2:y2=119
            ·have u2:((y2:Int) == 119)=true:=by simp [z2]
             have FF:=hid (show F=true by rw [FK.o]; simp [z0,z1,z2]);clear z0 z1 z2 FK
             go_quiet (fail)
             go_wp2_with fail;go_meet;exact ⟨by rw [FF.o],yc (World.grownBy.refl _ _) _⟩
            ·have u2:((y2:Int) == 119)=false:=by simp; omega
             have FF:=hid (show F=false by rw [FK.o]; simp [z2]);clear z0 z1 z2 FK
             go_quiet (fail)
             go_wp2_with fail;go_meet;exact ⟨by rw [FF.o],yc (World.grownBy.refl _ _) _⟩
           ·have u1:((y1:Int) == 44)=false:=by simp; omega
            have FF:=hid (show F=false by rw [FK.o]; simp [z1]);clear z0 z1 FK
            go_quiet (fail)
            go_wp2_with fail;go_meet;exact ⟨by rw [FF.o],yc (World.grownBy.refl _ _) _⟩
          ·have u0:((y0:Int) == 119)=false:=by simp; omega
           have FF:=hid (show F=false by rw [FK.o]; simp [z0]);clear z0 FK
           go_quiet (fail)
           go_wp2_with fail;go_meet;exact ⟨by rw [FF.o],yc (World.grownBy.refl _ _) _⟩
         ·have f0:decide ((d.k:Int)+2 < (L.length:Int))=false:=by simp; omega
          have FF:=hid (show F=false by rw [<- FE.o]; unfold Rf.far; rw [decide_eq_false h3]; rfl);clear h3 FE
          go_quiet (fail)
          go_wp2_with fail;go_meet;exact ⟨by rw [FF.o],yc (World.grownBy.refl _ _) _⟩
       ·have l1:=EL.o;have l2:=ES.o;rw [decide_eq_false (fun x=>hls (.inl x))] at l1;rw [decide_eq_false (fun x=>hls (.inr x))] at l2;have FF:=hid (show F=false by rw [<- FE.o,decide_eq_false hls]; rfl);clear hls FE EL ES
        go_quiet (fail)
        go_wp2_with fail;go_meet;exact ⟨by rw [FF.o],yc (World.grownBy.refl _ _) _⟩
      case rest =>
      obtain ⟨rfl,hgc⟩:=hcut;have H2:=hid (H1.o.grown hgc);have D2:=hid (D1.o.grown hgc);have ZO:=yb q0 hgc;have q1':=yb q1 hgc;have q2':=yb q2 hgc;have q3':=yb q3 hgc;clear hgc q0 q1 q2 q3 c2 c3 c4 c7 H1 D1 EL ES
      cases F
      ·have RO:=hid (show X=if (Rf.operands L (Rf.fm k) (Rf.oN.getD k 0) (Rf.oL.getD k 0) d).2.fe=0 then Rf.bI nm (Rf.operands L (Rf.fm k) (Rf.oN.getD k 0) (Rf.oL.getD k 0) d).1 (Rf.operands L (Rf.fm k) (Rf.oN.getD k 0) (Rf.oL.getD k 0) d).2 else (Rf.operands L (Rf.fm k) (Rf.oN.getD k 0) (Rf.oL.getD k 0) d).2 by
        rw [RI.o];unfold Rf.kW;rw [NM.o,FE.o];rfl)
       have cP:=hid (fun V hV=>ygB B m g ao cap L d nm (Rf.Lc.getD k []) (Rf.oN.getD k 0) (Rf.oL.getD k 0) V hV (Rf.JQ k hlt) (Rf.JO k hlt));have OS:=hid (Rf.uz L (Rf.fm k) (Rf.oN.getD k 0) (Rf.oL.getD k 0) d);have ON:=hid (show As.forms.getD (As.named nm) 0=2\/As.forms.getD (As.named nm) 0=4->(Rf.operands L (Rf.fm k) (Rf.oN.getD k 0) (Rf.oL.getD k 0) d).1.num=0 from fun x=>Rf.bD L (Rf.fm k) _ _ d (Rf.JR k hlt (by rw [NM.o]; exact x)));have YD:Hd ((Rf.Lc.getD k []).map (·.toNat)=Rf.fm k):=rfl;rw [YD.o] at cP;clear RI FE RS NM;generalize Rf.operands L (Rf.fm k) (Rf.oN.getD k 0) (Rf.oL.getD k 0) d=P at *
       generalize Rf.Lc.getD k []=fo at *;generalize Rf.oN.getD k 0=lo at *;generalize Rf.oL.getD k 0=hi at *;go_wp2_with fail;refine (cP.o _ D2.o.1).mono ?_;rintro en V4 ⟨rb,cr,rfl,hcells,hok,h4⟩;have A4:=aW V4 (.cells #[.slice (some ⟨rb,0,none⟩) 3 cr,.int .i64 P.1.num,.int .i64 P.1.sym,.int .i64 P.1.add] 98) none;have D4:=hid ((D2.o.after h4 LV).grown A4);have BG:=yd.new V4 #[.slice (some ⟨rb,0,none⟩) 3 cr,.int .i64 P.1.num,.int .i64 P.1.sym,.int .i64 P.1.add] 98;obtain ⟨VX,vt4,vf4,vd4,Z4,Wj,Wi,Po⟩:=D4.o.1;have c5:=yp Po.md 5;simp only [yr,bB,yml,bf] at c5;have b0:=BG.cell 0;have b1:=BG.cell 1
       have b2:=BG.cell 2;have b3:=BG.cell 3;simp only [bB,yml,bf] at b0 b1 b2 b3;have CE:=hid (fun i (hi3:i < 3)=>yb (hcells i hi3) A4);have OK:=hid hok;clear h4 hcells hok A4 BG Po cP ZO q1' q2' q3' H2 D2;by_cases hfe:P.2.fe=0
       ·rw [if_pos hfe] at RO;have f1:((P.2.fe:Int) == 0)=true:=by simp [hfe]
        have cI:=hid (fun V hV hC=>yfc B m g ao cap L P.2 nm P.1 rb cr V hV (by rw [OS.o]; exact hs4) hC (Rf.G7 OK.o) OK.o.num ON.o);clear hfe;go_wp2_with fail;refine (cI.o _ D4.o.1 CE.o).mono ?_;rintro en V7 ⟨rfl,h7⟩;have D7:=hid (D4.o.after h7 KH);clear h7;go_wp2
        (try simp only [Exit.inBlock,Exit.then]); refine bodyPost_ret (results_none rfl _ _ _) rfl ?_
        rw [RO.o];exact ⟨rfl,D7.o⟩
       ·rw [if_neg hfe] at RO;have f1:((P.2.fe:Int) == 0)=false:=by simp; omega
        clear hfe;go_wp2
        (try simp only [Exit.inBlock,Exit.then]); refine bodyPost_ret (results_none rfl _ _ _) rfl ?_
        rw [RO.o];exact ⟨rfl,D4.o⟩
      ·have RM:=hid (show X=(if nm=[108,119] then Rf.nL L d else Rf.nM L d) by
        rw [RI.o];unfold Rf.kW;rw [NM.o,FE.o];rfl)
       have cM:=hid (yhL B m g ao cap L d nm wc D2.o.1 hs4);clear RI FE RS NM;go_wp2_with fail;refine cM.o.mono ?_;rintro en V4 ⟨rfl,h4⟩;have D4:=hid (D2.o.after h4 (fun t ht=>ht));clear h4;go_wp2
       (try simp only [Exit.inBlock,Exit.then]); refine bodyPost_ret (results_none rfl _ _ _) rfl ?_
       rw [RM.o];exact ⟨rfl,D4.o⟩
     ·rw [if_neg hse] at RI;have m1:((d.ah:Int) != 1)=true:=by simp; omega
      have m2:((d.ah:Int) != 2)=true:=by simp; omega
      clear hse;go_wp2_with fail;refine (yL m g _ ao cap L d 9 d.op _ H1.o.md (by decide) hop).mono ?_;rintro en V4 ⟨rfl,h4⟩;have D4:=hid (D1.o.after (H1.o.dW (ts:=yW) h4 (yq _ _ _).2 (yq _ _ _).1 (by decide)) (fun t ht=>ht));clear h4;go_wp2
      (try simp only [Exit.inBlock,Exit.then]); refine bodyPost_ret (results_none rfl _ _ _) rfl ?_
      rw [RI.o];exact ⟨rfl,D4.o⟩
    ·have E:=hid e1;have b1:((bs nm).toList == (bs w).toList)=false:=by rw [yA,yA]; simpa using e1
     have b2:((bs nm).toList != (bs w).toList)=true:=by rw [yA,yA]; simpa using e1
     have HN:=hid hnm;clear e1 hnm;go_wp2
     go_roundw
     case rel=>exact ⟨k+1,by omega,by go_num,fun j hj=>(Nat.lt_succ_iff_lt_or_eq.1 hj).elim (fun h=>HA.o j h) (fun h=>by subst h; rw [HN.o]; exact E.o),trivial⟩
     case measure=>simp [intOf]; omega
   ·have g2:(32:Int)<=(k:Int):=by omega
    have c7:=yp H1.o.md 7;simp only [yr,bB,yml,bf] at c7;have RN:=hid (show X=Rf.bad 6 d.op d by rw [RS.o,FN.o (fun j hj=>HA.o j (by omega))]);go_wp2_with fail;refine (yL m g _ ao cap L d 6 d.op _ H1.o.md (by decide) hop).mono ?_;rintro en V4 ⟨rfl,h4⟩;have D4:=hid (D1.o.after (H1.o.dW (ts:=yW) h4 (yq _ _ _).2 (yq _ _ _).1 (by decide)) (fun t ht=>ht));clear h4;go_wp2
    go_end0
    rw [RN.o];exact ⟨rfl,D4.o⟩
theorem yha (c:UInt8) (w:World) :
  Calls Tryz.prog 48 #[.int .u8 c.toNat] w fun e w'=>e = .returned (.bool (As.aK c))/\w'=w:=by
 have N:=hid (show As.aK c=(decide (48<=c.toNat) && decide (c.toNat<=57)) from rfl);generalize As.aK c=x at *;generalize hc:c.toNat=n at *;clear hc;by_cases h1:48<=n
 ·by_cases h2:n<=57
  ·have X:=hid (show x=true by rw [N.o]; simp [h1,h2]);have d1:decide (48<=(n:Int))=true:=by simp; omega
   have d2:decide ((n:Int)<=57)=true:=by simp; omega
   clear h1 h2;go_enter Tryz.func48,Tryz.ntmps48;go_wp2;go_ret;exact ⟨by rw [X.o]; rfl,rfl⟩
  ·have X:=hid (show x=false by rw [N.o]; simp [h2]);have d1:decide (48<=(n:Int))=true:=by simp; omega
   have d2:decide ((n:Int)<=57)=false:=by simp; omega
   clear h1 h2;go_enter Tryz.func48,Tryz.ntmps48;go_wp2;go_ret;exact ⟨by rw [X.o]; rfl,rfl⟩
 ·have X:=hid (show x=false by rw [N.o]; simp [h1]);have d1:decide (48<=(n:Int))=false:=by simp; omega
  clear h1;go_enter Tryz.func48,Tryz.ntmps48;go_wp2;go_ret;exact ⟨by rw [X.o]; rfl,rfl⟩
theorem yiP (c:UInt8) (w:World) :
  Calls Tryz.prog 47 #[.int .u8 c.toNat] w fun e w'=>e = .returned (.bool (As.aI c))/\w'=w:=by
 have N:=hid (show As.aI c=(c.toNat == 95 || c.toNat == 46 || (decide (97<=c.toNat) && decide (c.toNat<=122)) || (decide (48<=c.toNat) && decide (c.toNat<=57))) by
  show ((decide (97<=c.toNat) && decide (c.toNat<=122)) || c.toNat == 95 || (decide (48<=c.toNat) && decide (c.toNat<=57)) || c.toNat == 46)=_;generalize (c.toNat == 95)=a;generalize (c.toNat == 46)=b;generalize (decide (97<=c.toNat) && decide (c.toNat<=122))=x;generalize (decide (48<=c.toNat) && decide (c.toNat<=57))=y
  revert a b x y
  decide)
 generalize As.aI c=x at *;generalize hc:c.toNat=n at *;clear hc;have d1:((n:Int) == 95)=(n == 95):=by rw [Bool.eq_iff_iff,beq_iff_eq,beq_iff_eq]; omega
 have d2:((n:Int) == 46)=(n == 46):=by rw [Bool.eq_iff_iff,beq_iff_eq,beq_iff_eq]; omega
 have d3:decide (97<=(n:Int))=decide (97<=n):=by rw [Bool.eq_iff_iff,decide_eq_true_iff,decide_eq_true_iff]; omega
 have d4:decide ((n:Int)<=122)=decide (n<=122):=by rw [Bool.eq_iff_iff,decide_eq_true_iff,decide_eq_true_iff]; omega
 have d5:decide (48<=(n:Int))=decide (48<=n):=by rw [Bool.eq_iff_iff,decide_eq_true_iff,decide_eq_true_iff]; omega
 have d6:decide ((n:Int)<=57)=decide (n<=57):=by rw [Bool.eq_iff_iff,decide_eq_true_iff,decide_eq_true_iff]; omega
 generalize (n == 95)=b1 at *;generalize (n == 46)=b2 at *;generalize decide (97<=n)=b3 at *;generalize decide (n<=122)=b4 at *;generalize decide (48<=n)=b5 at *;generalize decide (n<=57)=b6 at *
 cases b1 <;> cases b2 <;> cases b3 <;> cases b4 <;> cases b5 <;> cases b6
 all_goals
  go_enter Tryz.func47,Tryz.ntmps47;go_wp2;go_ret;exact ⟨by rw [N.o]; rfl,rfl⟩
theorem yjZ (s:ByteArray) (p:Nat) (w:World) (hs:s.size<=1000) (hp:p < s.size) :
  Calls Tryz.prog 24 #[.string s,.int .i64 p] w fun e w'=>e = .returned (.tuple #[jg (Rf.one (sl s) p).1,.int .i64 (Rf.one (sl s) p).2])/\w.grownBy w' none:=by
 have SL:=hid (yx s);have cW:=hid (fun (c:UInt8) W=>yiP c W);have cD:=hid (fun (c:UInt8) W=>yha c W);have O:=hid (show Rf.one (sl s) p=(if As.aK (s[p]'hp) then
   if 10 < (((sl s).drop p).takeWhile As.aK).length then ((⟨33,p,[],0,5⟩:Rf.Tk),p+11)
   else if (((sl s)[As.skip As.aK (sl s) p]?).map As.aI).getD false then (⟨33,As.skip As.aK (sl s) p,[],0,2⟩,As.skip As.aK (sl s) p)
   else (⟨110,p,[],As.dec (((sl s).drop p).takeWhile As.aK),0⟩,As.skip As.aK (sl s) p)
  else if As.aI (s[p]'hp) then (⟨119,p,((sl s).drop p).takeWhile As.aI,0,0⟩,As.skip As.aI (sl s) p)
  else if As.gG (s[p]'hp) then (⟨(s[p]'hp).toNat,p,[],0,0⟩,p+1)
  else (⟨33,p,[],0,2⟩,p)) by
   unfold Rf.one;rw [kg (by rw [yx]; exact hp)];rfl)
 generalize Rf.one (sl s) p=R at *;have g1:(p:Int) < (s.size:Int):=by omega
 have g0:(0:Int)<=(p:Int):=by omega
 go_enter Tryz.func24,Tryz.ntmps24;go_wp2_with fail;refine (cW.o _ _).mono ?_;rintro e w1 ⟨rfl,hw1⟩;rw [hw1];clear hw1 w1;go_wp2_with fail;refine (cD.o _ _).mono ?_;rintro e w1 ⟨rfl,hw1⟩;rw [hw1];clear hw1 w1;have IW:As.aK (s[p]'hp)=true->As.aI (s[p]'hp)=true:=fun h=>by unfold As.aI; rw [h]; simp
 cases hd:As.aK (s[p]'hp)
 ·rw [hd] at O;rw [if_neg (by decide)] at O
  cases hw:As.aI (s[p]'hp)
  ·rw [hw] at O;rw [if_neg (by decide)] at O;clear hd hw IW;have dc:∀ m:Nat,(((s[p]'hp).toNat:Int) == (m:Int))=((s[p]'hp).toNat == m):=fun m=>by rw [Bool.eq_iff_iff,beq_iff_eq,beq_iff_eq]; omega
   have d1:=dc 44;have d2:=dc 58;have d3:=dc 40;have d4:=dc 41;have d5:=dc 43;have d6:=dc 45;clear dc;simp only [Int.cast_ofNat_Int] at d1 d2 d3 d4 d5 d6;rw [show As.gG (s[p]'hp)=((s[p]'hp).toNat == 44 || (s[p]'hp).toNat == 58 || (s[p]'hp).toNat == 40 || (s[p]'hp).toNat == 41 || (s[p]'hp).toNat == 43 || (s[p]'hp).toNat == 45) from rfl] at O;generalize ((s[p]'hp).toNat == 44)=b1 at *;generalize ((s[p]'hp).toNat == 58)=b2 at *;generalize ((s[p]'hp).toNat == 40)=b3 at *;generalize ((s[p]'hp).toNat == 41)=b4 at *;generalize ((s[p]'hp).toNat == 43)=b5 at *;generalize ((s[p]'hp).toNat == 45)=b6 at *
   obtain ⟨n,hn⟩:∃ n:Nat,(s[p]'hp).toNat=n:=⟨_,rfl⟩
   have HN:=hid hn;clear hn;have sx:=(show ∀ b1 b2 b3 b4 b5 b6:Bool,(b1=true)\/(b1=false/\b2=true)\/(b1=false/\b2=false/\b3=true)\/(b1=false/\b2=false/\b3=false/\b4=true)\/(b1=false/\b2=false/\b3=false/\b4=false/\b5=true)\/(b1=false/\b2=false/\b3=false/\b4=false/\b5=false/\b6=true)\/(b1=false/\b2=false/\b3=false/\b4=false/\b5=false/\b6=false) by intro b1 b2 b3 b4 b5 b6; cases b1 <;> cases b2 <;> cases b3 <;> cases b4 <;> cases b5 <;> cases b6 <;> simp) b1 b2 b3 b4 b5 b6;rcases sx with rfl | ⟨rfl,rfl⟩ | ⟨rfl,rfl,rfl⟩ | ⟨rfl,rfl,rfl,rfl⟩ | ⟨rfl,rfl,rfl,rfl,rfl⟩ | ⟨rfl,rfl,rfl,rfl,rfl,rfl⟩ | ⟨rfl,rfl,rfl,rfl,rfl,rfl⟩
   all_goals
    simp [-Prod.mk.injEq] at O;go_wp2;refine bodyPost_ret (v:=.tuple #[jg R.1,.int .i64 R.2]) ?_ rfl ⟨rfl,aW _ _ _⟩;rw [O.o];simp [results,Tryz.results24,go_sem,jg,bs]
  ·rw [hw] at O;rw [if_pos rfl] at O;clear hd hw IW cD;have Z0:=hid (yd.new w #[.int .u8 0,.int .i64 0,.string ⟨#[]⟩,.int .i64 0,.int .i64 0] 69);have Y0:=hid (aW w (.cells #[.int .u8 0,.int .i64 0,.string ⟨#[]⟩,.int .i64 0,.int .i64 0] 69) none);go_wp2
   go_loopw [6] (fun q wr=>∃ k:Nat,p<=k/\k<=s.size/\q = .int .i64 k/\As.skip As.aI (sl s) k=As.skip As.aI (sl s) p/\yd wr w.heap.size #[.int .u8 0,.int .i64 0,.string ⟨#[]⟩,.int .i64 0,.int .i64 0] 69/\w.grownBy wr none) (fun q _=>s.size - (intOf q).toNat)
   case atStart=>exact ⟨p,Nat.le_refl _,by omega,rfl,rfl,Z0.o,Y0.o⟩
   case round =>
    obtain ⟨k,hpk,hk,rfl,hsk,hbk,hgr⟩:=hrel;have HK:=hid hsk;have HB:=hid hbk;have HG:=hid hgr;have c0:=hbk.cell 0;have c1:=hbk.cell 1;have c2:=hbk.cell 2;have c3:=hbk.cell 3;have c4:=hbk.cell 4;have f0:=hbk.free 0;have f1:=hbk.free 1;have f2:=hbk.free 2;have f3:=hbk.free 3;have f4:=hbk.free 4;simp only [bB,yml,bf] at c0 c1 c2 c3 c4;clear hsk hbk hgr Z0 Y0;have FIN:=hid (show As.skip As.aI (sl s) p=k->R=((⟨119,p,sl (s.extract p k),0,0⟩:Rf.Tk),k) from fun e=>by
     rw [O.o,e];have w1:=(PO As.aI s p (by omega) _ rfl)
     have e2:k=p+(((sl s).drop p).takeWhile As.aI).length:=by rw [<- e]; rfl
     rw [KD,OT,e2,Nat.add_sub_cancel_left]
     have:=List.prefix_iff_eq_take.1 (List.takeWhile_prefix As.aI (l:=(sl s).drop p))
     rw [<- this])
    have j1:(0:Int)<=(k:Int):=by omega
    have j2:(p:Int)<=(k:Int):=by omega
    have j3:(k:Int)<=(s.size:Int):=by omega
    by_cases hlt:k < s.size
    ·have d:decide ((k:Int) < (s.size:Int))=true:=by simp; omega
     have g2:(k:Int) < (s.size:Int):=by omega
     have HL:=hid (show k < (sl s).length by rw [SL.o]; exact hlt);have GET:=hid (LK s k hlt);have cK:=hid (cW.o (s[k]'hlt))
     cases e1:As.aI (s[k]'hlt)
     ·have E:=hid (LH (f:=As.aI) HL.o (by rw [GET.o]; exact e1));rw [e1] at cK;clear e1;go_wp2_with fail;refine (cK.o _).mono ?_;rintro e w1 ⟨rfl,hw1⟩;rw [hw1];clear hw1 w1 cK;have RR:=hid (FIN.o (by rw [<- HK.o,E.o]));have F:=hid (vG [(0,.int .u8 119),(1,.int .i64 p),(2,.string (s.extract p k)),(3,.int .i64 0),(4,.int .i64 0)] HB.o);have FG:=hid (Dv HG.o w.heap.size (Nat.le_refl _) [(0,.int .u8 119),(1,.int .i64 p),(2,.string (s.extract p k)),(3,.int .i64 0),(4,.int .i64 0)]);go_wp2;refine bodyPost_ret (v:=.tuple #[jg R.1,.int .i64 R.2]) ?_ rfl ⟨rfl,FG.o⟩;have F2:=F.o;simp only [nE,jA,jE,iW,iR,iT] at F2
      have e0:=F2.cell 0;have e1:=F2.cell 1;have e2:=F2.cell 2;have e3:=F2.cell 3;have e4:=F2.cell 4;simp only [bB,yml,bf,sets,jA,jE] at e0 e1 e2 e3 e4;rw [RR.o];clear c0 c1 c2 c3 c4 f0 f1 f2 f3 f4 F2;generalize World.setCell _ _ _=WF at *;simp [results,Tryz.results24,go_sem,jg,U6,e0,e1,e2,e3,e4]
     ·have E:=hid (KF (f:=As.aI) HL.o (by rw [GET.o]; exact e1));rw [e1] at cK;clear e1;go_wp2_with fail;refine (cK.o _).mono ?_;rintro e w1 ⟨rfl,hw1⟩;rw [hw1];clear hw1 w1 cK;go_wp2
      go_roundw
      case rel=>exact ⟨k+1,by omega,by omega,by go_num,by rw [<- E.o,HK.o],HB.o,HG.o⟩
      case measure=>simp [intOf]; omega
    ·have d:decide ((k:Int) < (s.size:Int))=false:=by simp; omega
     have E:=hid (Ls (f:=As.aI) (s:=sl s) (k:=k) (by rw [SL.o]; omega));have RR:=hid (FIN.o (by rw [<- HK.o,E.o]));have F:=hid (vG [(0,.int .u8 119),(1,.int .i64 p),(2,.string (s.extract p k)),(3,.int .i64 0),(4,.int .i64 0)] HB.o);have FG:=hid (Dv HG.o w.heap.size (Nat.le_refl _) [(0,.int .u8 119),(1,.int .i64 p),(2,.string (s.extract p k)),(3,.int .i64 0),(4,.int .i64 0)]);go_wp2;refine bodyPost_ret (v:=.tuple #[jg R.1,.int .i64 R.2]) ?_ rfl ⟨rfl,FG.o⟩;have F2:=F.o;simp only [nE,jA,jE,iW,iR,iT] at F2;have e0:=F2.cell 0;have e1:=F2.cell 1;have e2:=F2.cell 2;have e3:=F2.cell 3;have e4:=F2.cell 4
     simp only [bB,yml,bf,sets,jA,jE] at e0 e1 e2 e3 e4;rw [RR.o];clear c0 c1 c2 c3 c4 f0 f1 f2 f3 f4 F2;generalize World.setCell _ _ _=WF at *;simp [results,Tryz.results24,go_sem,jg,U6,e0,e1,e2,e3,e4]
 ·rw [hd] at O;rw [if_pos rfl] at O;rw [IW hd];clear hd IW;generalize hD:((sl s).drop p).takeWhile As.aK=ds at *;obtain ⟨w1,w2,w3,w4⟩:=PO As.aK s p (by omega) ds hD.symm;have SK:=hid (show As.skip As.aK (sl s) p=p+ds.length by unfold As.skip; rw [hD]);rw [SK.o] at O;have DC:=hid w1;have Qy:=hid w3;have HST:=hid w4;clear hD w1 w3 w4 SK;have Z0:=hid (yd.new w #[.int .u8 0,.int .i64 0,.string ⟨#[]⟩,.int .i64 0,.int .i64 0] 69);have Y0:=hid (aW w (.cells #[.int .u8 0,.int .i64 0,.string ⟨#[]⟩,.int .i64 0,.int .i64 0] 69) none);go_wp2
  go_loopw [6,10] (fun q n wr=>∃ j k:Nat,j<=ds.length/\j<=10/\q = .int .i64 k/\n = .int .i64 (As.dec (ds.take j))/\k=p+j/\yd wr w.heap.size #[.int .u8 0,.int .i64 0,.string ⟨#[]⟩,.int .i64 0,.int .i64 0] 69/\w.grownBy wr none) (fun q _ _=>s.size - (intOf q).toNat)
  case atStart=>exact ⟨0,p,by omega,by omega,rfl,by simp [As.dec],rfl,Z0.o,Y0.o⟩
  case round =>
   obtain ⟨j,k,hj,J5,rfl,rfl,hkj,hbk,hgr⟩:=hrel;have HB:=hid hbk;have HG:=hid hgr;have c0:=hbk.cell 0;have c1:=hbk.cell 1;have c2:=hbk.cell 2;have c3:=hbk.cell 3;have c4:=hbk.cell 4;have f0:=hbk.free 0;have f1:=hbk.free 1;have f2:=hbk.free 2;have f3:=hbk.free 3;have f4:=hbk.free 4;simp only [bB,yml,bf] at c0 c1 c2 c3 c4;have hdec:=Qs ds DC.o j J5;have Jv:=hid (Qc ds j);generalize hn:As.dec (ds.take j)=n at *;have HN:=hid hn;have KJ:=hid hkj;have kj1:(k:Int) - p<=10:=by omega
   have kj2:(p:Int)<=k:=by omega
   have kj3:(k:Int)<=s.size:=by omega
   clear hn hbk hgr hkj Z0 Y0;by_cases hlt:k < s.size
   ·have d:decide ((k:Int) < (s.size:Int))=true:=by simp; omega
    have g2:(k:Int) < (s.size:Int):=by omega
    have j1:(0:Int)<=(k:Int):=by omega
    have cK:=hid (cD.o (s[k]'hlt));by_cases hjd:j < ds.length
    ·have ED:=hid (show (s[k]'hlt)=ds[j] from by have e:=KJ.o; subst e; exact Qy.o j hjd hlt);have hdg:As.aK (s[k]'hlt)=true:=by rw [ED.o]; exact DC.o _ (lM hjd)
     rw [hdg] at cK;have DR:=hdg;unfold As.aK at DR;simp only [Bool.and_eq_true,decide_eq_true_eq] at DR;obtain ⟨dr1,dr2⟩:=DR;clear hdg;by_cases h10:j=10
     ·have RR:=hid (show R=(⟨33,p,[],0,5⟩,k+1) by rw [O.o,if_pos (by omega),KJ.o,h10]);have d3:decide ((k:Int)+1 - (p:Int) > 10)=true:=by have:=KJ.o; simp; omega
      have d4:decide (10 < (k:Int)+1 - (p:Int))=true:=by have:=KJ.o; simp; omega
      clear h10;go_wp2_with fail;refine (cK.o _).mono ?_;rintro e w1 ⟨rfl,hw1⟩;rw [hw1];clear hw1 w1 cK;have F:=hid (vG [(0,.int .u8 33),(1,.int .i64 p),(2,.string ⟨#[]⟩),(3,.int .i64 0),(4,.int .i64 5)] HB.o);have FG:=hid (Dv HG.o w.heap.size (Nat.le_refl _) [(0,.int .u8 33),(1,.int .i64 p),(2,.string ⟨#[]⟩),(3,.int .i64 0),(4,.int .i64 5)]);go_wp2;refine bodyPost_ret (v:=.tuple #[jg R.1,.int .i64 R.2]) ?_ rfl ⟨rfl,FG.o⟩;have F2:=F.o;simp only [nE,jA,jE,iW,iR,iT] at F2;have e0:=F2.cell 0;have e1:=F2.cell 1;have e2:=F2.cell 2;have e3:=F2.cell 3;have e4:=F2.cell 4;simp only [bB,yml,bf,sets,jA,jE] at e0 e1 e2 e3 e4
      rw [RR.o];clear c0 c1 c2 c3 c4 f0 f1 f2 f3 f4 F2;generalize World.setCell _ _ _=WF at *;simp [results,Tryz.results24,go_sem,jg,bs,e0,e1,e2,e3,e4]
     ·have d3:decide ((k:Int)+1 - (p:Int) > 10)=false:=by have:=KJ.o; simp; omega
      have d4:decide (10 < (k:Int)+1 - (p:Int))=false:=by have:=KJ.o; simp; omega
      go_wp2_with fail;refine (cK.o _).mono ?_;rintro e w1 ⟨rfl,hw1⟩;rw [hw1];clear hw1 w1 cK;go_wp2
      go_roundw
      case rel =>
       refine ⟨j+1,k+1,by omega,by omega,by go_num,?_,by have:=KJ.o; omega,HB.o,HG.o⟩;rw [Jv.o hjd,<- ED.o]
       congr 1
       omega
      case measure=>simp [intOf]; omega
    ·have ej:j=ds.length:=by omega
     have hdg:As.aK (s[k]'hlt)=false:=by
      have e:=KJ.o;subst e;subst ej;exact HST.o hlt
     rw [hdg] at cK;clear hdg;have cX:=hid (cW.o (s[k]'hlt));have JA:=hid (show (((sl s)[p+ds.length]?).map As.aI).getD false=As.aI (s[k]'hlt) from by
      have e:=KJ.o;subst e;subst ej;rw [kg (by rw [SL.o]; exact hlt)];rfl)
     have EJ:=hid ej;clear ej
     cases hw:As.aI (s[k]'hlt)
     ·have RR:=hid (show R=(⟨110,p,[],n,0⟩,k) by
       rw [O.o,if_neg (by have:=EJ.o; omega),JA.o,hw,KJ.o,<- HN.o,EJ.o,List.take_length];rfl)
      rw [hw] at cX;clear hw;go_wp2_with fail;refine (cK.o _).mono ?_;rintro e w1 ⟨rfl,hw1⟩;rw [hw1];clear hw1 w1 cK;go_wp2_with fail;refine (cX.o _).mono ?_;rintro e w1 ⟨rfl,hw1⟩;rw [hw1];clear hw1 w1 cX;have F:=hid (vG [(0,.int .u8 110),(1,.int .i64 p),(2,.string ⟨#[]⟩),(3,.int .i64 n),(4,.int .i64 0)] HB.o);have FG:=hid (Dv HG.o w.heap.size (Nat.le_refl _) [(0,.int .u8 110),(1,.int .i64 p),(2,.string ⟨#[]⟩),(3,.int .i64 n),(4,.int .i64 0)]);go_wp2;refine bodyPost_ret (v:=.tuple #[jg R.1,.int .i64 R.2]) ?_ rfl ⟨rfl,FG.o⟩;have F2:=F.o;simp only [nE,jA,jE,iW,iR,iT] at F2;have e0:=F2.cell 0;have e1:=F2.cell 1
      have e2:=F2.cell 2;have e3:=F2.cell 3;have e4:=F2.cell 4;simp only [bB,yml,bf,sets,jA,jE] at e0 e1 e2 e3 e4;rw [RR.o];clear c0 c1 c2 c3 c4 f0 f1 f2 f3 f4 F2;generalize World.setCell _ _ _=WF at *;simp [results,Tryz.results24,go_sem,jg,bs,e0,e1,e2,e3,e4]
     ·have RR:=hid (show R=(⟨33,k,[],0,2⟩,k) by
       rw [O.o,if_neg (by have:=EJ.o; omega),JA.o,hw,KJ.o,EJ.o];rfl)
      rw [hw] at cX;clear hw;go_wp2_with fail;refine (cK.o _).mono ?_;rintro e w1 ⟨rfl,hw1⟩;rw [hw1];clear hw1 w1 cK;go_wp2_with fail;refine (cX.o _).mono ?_;rintro e w1 ⟨rfl,hw1⟩;rw [hw1];clear hw1 w1 cX;have F:=hid (vG [(0,.int .u8 33),(1,.int .i64 k),(2,.string ⟨#[]⟩),(3,.int .i64 0),(4,.int .i64 2)] HB.o);have FG:=hid (Dv HG.o w.heap.size (Nat.le_refl _) [(0,.int .u8 33),(1,.int .i64 k),(2,.string ⟨#[]⟩),(3,.int .i64 0),(4,.int .i64 2)]);go_wp2;refine bodyPost_ret (v:=.tuple #[jg R.1,.int .i64 R.2]) ?_ rfl ⟨rfl,FG.o⟩;have F2:=F.o;simp only [nE,jA,jE,iW,iR,iT] at F2;have e0:=F2.cell 0;have e1:=F2.cell 1
      have e2:=F2.cell 2;have e3:=F2.cell 3;have e4:=F2.cell 4;simp only [bB,yml,bf,sets,jA,jE] at e0 e1 e2 e3 e4;rw [RR.o];clear c0 c1 c2 c3 c4 f0 f1 f2 f3 f4 F2;generalize World.setCell _ _ _=WF at *;simp [results,Tryz.results24,go_sem,jg,bs,e0,e1,e2,e3,e4]
   ·have d:decide ((k:Int) < (s.size:Int))=false:=by simp; omega
    have ej:j=ds.length:=by have:=KJ.o; omega
    have RR:=hid (show R=(⟨110,p,[],n,0⟩,k) by
     rw [O.o,if_neg (by omega),List.getElem?_eq_none (by rw [SL.o]; have:=KJ.o; omega),<- HN.o,ej,List.take_length,KJ.o,ej];rfl)
    have F:=hid (vG [(0,.int .u8 110),(1,.int .i64 p),(2,.string ⟨#[]⟩),(3,.int .i64 n),(4,.int .i64 0)] HB.o);have FG:=hid (Dv HG.o w.heap.size (Nat.le_refl _) [(0,.int .u8 110),(1,.int .i64 p),(2,.string ⟨#[]⟩),(3,.int .i64 n),(4,.int .i64 0)]);go_wp2;refine bodyPost_ret (v:=.tuple #[jg R.1,.int .i64 R.2]) ?_ rfl ⟨rfl,FG.o⟩;have F2:=F.o;simp only [nE,jA,jE,iW,iR,iT] at F2;have e0:=F2.cell 0;have e1:=F2.cell 1;have e2:=F2.cell 2;have e3:=F2.cell 3;have e4:=F2.cell 4;simp only [bB,yml,bf,sets,jA,jE] at e0 e1 e2 e3 e4;rw [RR.o];clear c0 c1 c2 c3 c4 f0 f1 f2 f3 f4 F2;generalize World.setCell _ _ _=WF at *
    simp [results,Tryz.results24,go_sem,jg,bs,e0,e1,e2,e3,e4]
theorem Tryz.Eo:(Tryz.prog.info? 69).map (fun i=>(i.zero,i.size,i.bytes))=some (some (.agg #[.int .u8 0,.int .i64 0,.string ⟨#[]⟩,.int .i64 0,.int .i64 0]),5,48):=by kernel_rfl
namespace Rf
theorem mg (s:List UInt8) (p:Nat) (h:oJ s p=false):p < s.length:=by
 rcases Nat.lt_or_ge p s.length with c | c
 ·exact c
 ·unfold oJ at h;rw [List.getElem?_eq_none c] at h
  cases h
theorem qB (s:List UInt8):∀ n m p,p<=s.length->s.length < n+p->s.length < m+p->aV s n p=aV s m p:=by
 intro n
 induction n with
 | zero=>intro m p h1 h2; omega
 | succ n ih =>
  intro m p h1 h2 h3;obtain ⟨m,rfl⟩:∃ k,m=k+1:=⟨m - 1,by omega⟩
  unfold aV
  cases he:oJ s p
  ·have lt:=mg s p he;simp only [Bool.false_eq_true,if_false];by_cases hb:((s[p]?).map As.blank).getD false=true
   ·rw [if_pos hb,if_pos hb];exact ih _ _ (by omega) (by omega) (by omega)
   ·rw [if_neg hb,if_neg hb];by_cases hk:(one s p).1.kind=33
    ·rw [if_pos hk,if_pos hk]
    ·have o:=jD s p he hk;rw [if_neg hk,if_neg hk,ih m (one s p).2 (by omega) (by omega) (by omega)]
  ·rfl
theorem y7 (s:List UInt8) (p:Nat) (hp:p<=s.length):tokens s p=(if oJ s p then ([⟨101,p,[],0,0⟩],As.skip As.bF s p+1)
  else if ((s[p]?).map As.blank).getD false then tokens s (p+1)
  else if (one s p).1.kind=33 then ([(one s p).1],s.length)
  else ((one s p).1 :: (tokens s (one s p).2).1,(tokens s (one s p).2).2)):=by
 cases he:oJ s p
 ·have lt:=mg s p he
  conv=>lhs; unfold tokens; rw [show s.length+1 - p=(s.length - p)+1 by omega]; unfold aV
  rw [he];have e1:aV s (s.length - p) (p+1)=tokens s (p+1):=qB s _ _ _ (by omega) (by omega) (by omega);rw [e1];by_cases hk:(one s p).1.kind=33
  ·rw [if_pos hk,if_pos hk]
  ·have o:=jD s p he hk;have e2:aV s (s.length - p) (one s p).2=tokens s (one s p).2:=qB s _ _ _ (by omega) (by omega) (by omega);rw [e2]
 ·conv=>lhs; unfold tokens; rw [show s.length+1 - p=(s.length - p)+1 by omega]; unfold aV
  rw [he];rfl
theorem xY (s:List UInt8):∀ n p,(aV s n p).1.length<=n:=by
 intro n
 induction n with
 | zero=>intro p; exact Nat.le_refl 0
 | succ n ih =>
  intro p;unfold aV;split
  ·exact Nat.le_add_left 1 n
  split
  ·exact Nat.le_succ_of_le (ih _)
  split
  ·exact Nat.le_add_left 1 n
  ·exact Nat.succ_le_succ (ih _)
theorem tJ (s:List UInt8) (p:Nat) (h:s.length<=1000):(tokens s p).1.length<=1001:=by
 have:=xY s (s.length+1 - p) p
 unfold tokens;omega
theorem x9 (s:List UInt8):∀ n p,0 < n->p<=s.length->s.length < n+p->0 < (aV s n p).1.length:=by
 intro n
 induction n with
 | zero=>intro p h; omega
 | succ n ih =>
  intro p h hp hn;unfold aV
  cases he:oJ s p
  ·have lt:=mg s p he;rw [if_neg (by decide)];split
   ·exact ih _ (by omega) (by omega) (by omega)
   split
   ·exact Nat.zero_lt_one
   ·exact Nat.succ_pos _
  ·exact Nat.zero_lt_one
theorem kH (f:UInt8->Bool) (s:List UInt8) (p:Nat) (h:p<=s.length):As.skip f s p<=s.length:=by
 unfold As.skip
 have:=(List.takeWhile_prefix f (l:=s.drop p)).length_le
 rw [List.length_drop] at this;omega
end Rf
theorem UY (s:List UInt8) (p:Nat) (hs:s.length<=1000) (hp:p < s.length):zD (Rf.one s p).1:=by
 unfold Rf.one;rw [kg hp];have k1:=Rf.kH As.aK s p (by omega);have l2:=(List.takeWhile_prefix As.aI (l:=s.drop p)).length_le;rw [List.length_drop] at l2;dsimp only;split
 ·split
  ·exact ⟨(by decide:(33:Nat)<=255),(by show p<=1000; omega),(by show 0<=1000; omega),(by show 0<=9999999999; omega),(by show 5<=99; omega)⟩
  split
  ·exact ⟨(by decide:(33:Nat)<=255),(by show As.skip As.aK s p<=1000; omega),(by show 0<=1000; omega),(by show 0<=9999999999; omega),(by show 2<=99; omega)⟩
  ·rename_i h10 _;have dl:=Qs ((s.drop p).takeWhile As.aK) (XA As.aK _) ((s.drop p).takeWhile As.aK).length (by omega);rw [List.take_length] at dl;exact ⟨(by decide:(110:Nat)<=255),(by show p<=1000; omega),(by show 0<=1000; omega),dl,(by show 0<=99; omega)⟩
 split
 ·exact ⟨(by decide:(119:Nat)<=255),(by show p<=1000; omega),(by show ((s.drop p).takeWhile As.aI).length<=1000; omega),(by show 0<=9999999999; omega),(by show 0<=99; omega)⟩
 split
 ·exact ⟨(by show s[p].toNat<=255; have:=s[p].toNat_lt; omega),(by show p<=1000; omega),(by show 0<=1000; omega),(by show 0<=9999999999; omega),(by show 0<=99; omega)⟩
 ·exact ⟨(by decide:(33:Nat)<=255),(by show p<=1000; omega),(by show 0<=1000; omega),(by show 0<=9999999999; omega),(by show 2<=99; omega)⟩
theorem ylb (s:List UInt8) (hs:s.length<=1000):∀ n p,p<=s.length->∀ x∈(Rf.aV s n p).1,zD x:=by
 intro n
 induction n with
 | zero=>intro p _ x hx; cases hx
 | succ n ih =>
  intro p hp x hx;unfold Rf.aV at hx
  cases he:Rf.oJ s p
  ·have lt:=Rf.mg s p he;rw [he,if_neg (by decide)] at hx;split at hx
   ·exact ih _ (by omega) x hx
   split at hx
   ·obtain rfl:x=(Rf.one s p).1:=by simpa using hx
    exact UY s p hs lt
   ·rename_i hk;have o:=Rf.jD s p he hk;rcases List.mem_cons.1 hx with rfl | hx
    ·exact UY s p hs lt
    ·exact ih _ o.2 x hx
  ·rw [he,if_pos rfl] at hx;obtain rfl:x=⟨101,p,[],0,0⟩:=by simpa using hx
   exact ⟨(by decide:(101:Nat)<=255),(by show p<=1000; omega),(by show 0<=1000; omega),(by show 0<=9999999999; omega),(by show 0<=99; omega)⟩
theorem yia (s:ByteArray) (p:Nat) (w:World) (hs:s.size<=1000) (hp:p<=s.size) :
  Calls Tryz.prog 10 #[.string s,.int .i64 p] w fun e w'=>∃ v,e = .returned (.tuple #[v,.int .i64 (Rf.tokens (sl s) p).2])/\w'.ownsRow w.heap.size 69 5 v (Rf.tokens (sl s) p).1.length ((Rf.tokens (sl s) p).1.flatMap Gd)/\w.grownBy w' none:=by
 obtain ⟨i2,hi2,hx0,hx1,hx2⟩:=info_parts Tryz.Eo;have SL:=hid (yx s);have TL:=hid (Rf.tJ (sl s) p (by rw [yx]; exact hs));have TS:=hid (Rf.y7 (sl s));generalize hR:Rf.tokens (sl s) p=R at *;have HR:=hid hR;clear hR;have cO:=hid (fun (k:Nat) (W:World) (hk:k < s.size)=>yjZ s k W hs hk);have OM:=hid (Rf.jD (sl s));have OK:=hid (fun k (h:k < s.size)=>UY (sl s) k (by rw [yx]; exact hs) (by rw [yx]; exact h));go_enter Tryz.func10,Tryz.ntmps10;go_wp2
 go_loopw [1,6] (fun q v wr=>∃ (k:Nat) (D:List Rf.Tk),k<=s.size/\q = .int .i64 k/\wr.ownsRow w.heap.size 69 5 v D.length (D.flatMap Gd)/\w.grownBy wr none/\R=(D ++ (Rf.tokens (sl s) k).1,(Rf.tokens (sl s) k).2)) (fun q _ _=>s.size - (intOf q).toNat)
 case atStart=>exact ⟨p,[],hp,rfl,World.ownsRow_nil _ _ _ _,World.grownBy.refl _ _,HR.o.symm⟩
 case round =>
  obtain ⟨k,D,hk,rfl,hown,hgr,hrr⟩:=hrel;obtain ⟨av,cv,rfl⟩:=yi hown;have RR:=hid hrr;have hsz:=hgr.size;have hD:D.length<=1001:=by have:=TL.o; rw [hrr,iA] at this; omega
  have TK:=hid (TS.o k (by rw [SL.o]; exact hk));have HG:=hid hgr;clear hrr hgr;by_cases hE:Rf.oJ (sl s) k=true
  ·rw [if_pos hE] at TK;rcases (show (∃ h:k < s.size,decide ((k:Int) < (s.size:Int))=true/\(k:Int) < (s.size:Int)/\(((s[k]'h).toNat:Int) != 10)=false)\/(∃ h:k < s.size,decide ((k:Int) < (s.size:Int))=true/\(k:Int) < (s.size:Int)/\(((s[k]'h).toNat:Int) != 10)=true/\(((s[k]'h).toNat:Int) != 35)=false)\/(decide ((k:Int) < (s.size:Int))=false/\¬ k < s.size) by
    by_cases h:k < s.size
    ·have e:Rf.oJ (sl s) k=(((s[k]'h).toNat == 10) || ((s[k]'h).toNat == 35)):=by unfold Rf.oJ; rw [kg (by rw [SL.o]; exact h)]; rfl
     rw [e] at hE;by_cases z:(s[k]'h).toNat=10
     ·exact .inl ⟨h,by simp; omega,by omega,by simp [z]⟩
     ·simp [z] at hE;exact .inr (.inl ⟨h,by simp; omega,by omega,by simp; omega,by simp [hE]⟩)
    ·exact .inr (.inr ⟨by simp; omega,h⟩)) with ⟨hlt,d,g2,n1⟩ | ⟨hlt,d,g2,n1,n2⟩ | ⟨d,g2⟩
   all_goals
    have AG:Hd (w.grownBy (wr.alloc (.cells #[.int .u8 101,.int .i64 k,.string ⟨#[]⟩,.int .i64 0,.int .i64 0] 69)) none):=ya HG.o (aW _ _ _);go_wp2_with (at_builtin; refine wpList_append_own _ rfl _ _ 42 rfl w.heap.size 69 i2 (.agg #[.int .u8 0,.int .i64 0,.string ⟨#[]⟩,.int .i64 0,.int .i64 0]) 5 48 Tryz.underlying42 hi2 hx0 hx1 hx2 rfl (by decide) _ _ _ rfl (hown.alloc _) ⟨wr.heap.size,0,none⟩ 1 1 [.int .u8 101,.int .i64 k,.string ⟨#[]⟩,.int .i64 0,.int .i64 0] rfl rfl (World.news_of_block (heap_alloc_new wr _)) (by intro u hu; simp at hu; rcases hu with rfl | rfl | rfl | rfl | rfl <;> rfl) (by unfold maxLen; omega) (by omega) (by simp; omega) ?_; intro v' w3 hown' hgrow _; obtain ⟨Gw,cv',rfl⟩:=yi hown'; have K3:=hid (Gj AG.o hgrow (fun b hb=>(hown.lt b hb).1)); have IY:=hid hown'; clear hgrow hown')
    go_loopw [1] (fun q w4=>∃ k2:Nat,k2<=s.size/\q = .int .i64 k2/\As.skip As.bF (sl s) k2=As.skip As.bF (sl s) k/\w4=w3) (fun q _=>s.size - (intOf q).toNat)
    case atStart=>exact ⟨k,hk,rfl,rfl,rfl⟩
    case round =>
     obtain ⟨k2,hk2,rfl,hsk,rfl⟩:=hrel;have HK:=hid hsk;clear hsk;have FIN:=hid (show As.skip As.bF (sl s) k2=k2->R.2=k2+1/\R.1.length=D.length+1/\R.1.flatMap Gd=D.flatMap Gd ++ [.int .u8 101,.int .i64 k,.string ⟨#[]⟩,.int .i64 0,.int .i64 0] from fun e=>by
      rw [RR.o,TK.o];refine ⟨?_,?_,?_⟩
      ·show As.skip As.bF (sl s) k+1=k2+1;rw [<- HK.o,e]
      ·simp
      ·simp [Gd,bs])
     have j5:(0:Int)<=(k2:Int):=by omega
     by_cases hl2:k2 < s.size
     ·have d7:decide ((k2:Int) < (s.size:Int))=true:=by simp; omega
      have g7:(k2:Int) < (s.size:Int):=by omega
      have HL2:=hid (show k2 < (sl s).length by rw [SL.o]; exact hl2);have G2:=hid (LK s k2 hl2);have n7:(((s[k2]'hl2).toNat:Int) != 10)=As.bF (s[k2]'hl2):=by
       show (((s[k2]'hl2).toNat:Int) != 10) = !((s[k2]'hl2).toNat == 10);rw [Bool.eq_iff_iff];simp;omega
      cases e1:As.bF (s[k2]'hl2)
      ·have E:=hid (LH (f:=As.bF) HL2.o (by rw [G2.o]; exact e1));rw [e1] at n7;clear e1;go_wp2;go_ret2;obtain ⟨x1,x2,x3⟩:=FIN.o E.o;exact ⟨_,by rw [x1]; rfl,by rw [x2,x3]; exact IY.o,K3.o⟩
      ·have E:=hid (KF (f:=As.bF) HL2.o (by rw [G2.o]; exact e1));rw [e1] at n7;clear e1;go_wp2
       go_roundw
       case rel=>exact ⟨k2+1,by omega,by go_num,by rw [<- E.o,HK.o],trivial⟩
       case measure=>simp [intOf]; omega
     ·have d7:decide ((k2:Int) < (s.size:Int))=false:=by simp; omega
      have E:=hid (Ls (f:=As.bF) (s:=sl s) (k:=k2) (by rw [SL.o]; omega));go_wp2;go_ret2;obtain ⟨x1,x2,x3⟩:=FIN.o E.o;exact ⟨_,by rw [x1]; rfl,by rw [x2,x3]; exact IY.o,K3.o⟩
  have hlt:k < s.size:=by have:=Rf.mg (sl s) k (by simpa using hE); rw [SL.o] at this; exact this
  have d:decide ((k:Int) < (s.size:Int))=true:=by simp; omega
  have g2:(k:Int) < (s.size:Int):=by omega
  have j1:(0:Int)<=(k:Int):=by omega
  have HL:k < (sl s).length:=by rw [SL.o]; exact hlt
  have GET:=hid (show (sl s)[k]?=some (s[k]'hlt) by rw [kg HL]; rfl);have EO:=hid (show Rf.oJ (sl s) k=(((s[k]'hlt).toNat == 10) || ((s[k]'hlt).toNat == 35)) by unfold Rf.oJ; rw [GET.o]; rfl);have BL:=hid (show (((sl s)[k]?).map As.blank).getD false=(((s[k]'hlt).toNat == 32) || ((s[k]'hlt).toNat == 9)) by rw [GET.o]; rfl);have dc:∀ m:Nat,(((s[k]'hlt).toNat:Int) == (m:Int))=((s[k]'hlt).toNat == m):=fun m=>by rw [Bool.eq_iff_iff,beq_iff_eq,beq_iff_eq]; omega
  have dn:∀ m:Nat,(((s[k]'hlt).toNat:Int) != (m:Int)) = !((s[k]'hlt).toNat == m):=fun m=>by rw [<- dc]; rfl
  have d1:=dc 10;have d2:=dc 35;have d3:=dc 32;have d4:=dc 9;have n1:=dn 10;have n2:=dn 35;simp only [Int.cast_ofNat_Int] at d1 d2 d3 d4 n1 n2;clear dc dn HL;rw [EO.o,BL.o] at TK;have cK:=hid (fun W=>cO.o k W hlt);have O8:=hid (OM.o k);rw [EO.o] at O8;have YK:=hid (show (((s[k]'hlt).toNat == 10) || ((s[k]'hlt).toNat == 35))=false by rw [<- EO.o]; simpa using hE);clear EO BL GET hE;generalize ((s[k]'hlt).toNat == 10)=b1 at *;generalize ((s[k]'hlt).toNat == 35)=b2 at *;generalize ((s[k]'hlt).toNat == 32)=b3 at *;generalize ((s[k]'hlt).toNat == 9)=b4 at *;have hb:b1=false/\b2=false:=by
   have:=YK.o
   simp at this;exact this
  obtain ⟨rfl,rfl⟩:=hb;simp only [Bool.or_false,Bool.false_eq_true,if_false] at TK O8
  cases b3
  ·cases b4
   ·simp only [Bool.or_false,Bool.false_eq_true,if_false] at TK;have TO:=OK.o k hlt;generalize hO:Rf.one (sl s) k=O at *;clear hO;obtain ⟨x,q⟩:=O;dsimp only at TK O8 cK TO;unfold jg at cK;go_wp2_with fail;refine (cK.o _).mono ?_;rintro e w1 ⟨rfl,hg1⟩;have hown1:=hown.kept hg1 (Decidable.em _);have hsz1:=hg1.size;have AG:Hd (w.grownBy ((w1.alloc (.cells #[.int .u8 x.kind,.int .i64 x.at_,.string (bs x.text),.int .i64 x.num,.int .i64 x.e] 69)).alloc (.cells #[.int .u8 x.kind,.int .i64 x.at_,.string (bs x.text),.int .i64 x.num,.int .i64 x.e] 69)) none):=ya (ya (ya HG.o hg1) (aW _ _ _)) (aW _ _ _);clear hown hg1 cK
    by_cases Ld:x.kind=33
    ·have e33:((x.kind:Int) == 33)=true:=by simp [Ld]
     rw [if_pos Ld] at TK;clear Ld;go_wp2_with (at_builtin; refine wpList_append_own _ rfl _ _ 42 rfl w.heap.size 69 i2 (.agg #[.int .u8 0,.int .i64 0,.string ⟨#[]⟩,.int .i64 0,.int .i64 0]) 5 48 Tryz.underlying42 hi2 hx0 hx1 hx2 rfl (by decide) _ _ _ rfl ((hown1.alloc _).alloc _) ⟨w1.heap.size+1,0,none⟩ 1 1 [.int .u8 x.kind,.int .i64 x.at_,.string (bs x.text),.int .i64 x.num,.int .i64 x.e] rfl rfl (U3 _ _ _ _) (by intro u hu; simp at hu; rcases hu with rfl | rfl | rfl | rfl | rfl <;> rfl) (by unfold maxLen; omega) (by omega) (by simp; omega) ?_; intro v' w3 hown' hgrow _; obtain ⟨Gw,cv',rfl⟩:=yi hown'; have K3:=hid (Gj AG.o hgrow (fun b hb=>(hown1.lt b hb).1)); have IY:=hid hown'; have kc:=(((yd.new w1 #[.int .u8 x.kind,.int .i64 x.at_,.string (bs x.text),.int .i64 x.num,.int .i64 x.e] 69).grown (aW _ _ none) (by simp)).grown hgrow (fun e=>by have:=(hown1.lt _ e.symm).2; omega)).cell 0; simp only [bB,bf] at kc; clear hgrow hown')
     go_ret2;have e1:R=(D ++ [x],(sl s).length):=by rw [RR.o,TK.o]
     rw [e1,SL.o];exact ⟨_,rfl,by rw [iA,List.flatMap_append]; simpa [Gd] using IY.o,K3.o⟩
    ·have e33:((x.kind:Int) == 33)=false:=by simp; omega
     rw [if_neg Ld] at TK;have om:=O8.o trivial Ld;rw [SL.o] at om;clear Ld;go_wp2_with (at_builtin; refine wpList_append_own _ rfl _ _ 42 rfl w.heap.size 69 i2 (.agg #[.int .u8 0,.int .i64 0,.string ⟨#[]⟩,.int .i64 0,.int .i64 0]) 5 48 Tryz.underlying42 hi2 hx0 hx1 hx2 rfl (by decide) _ _ _ rfl ((hown1.alloc _).alloc _) ⟨w1.heap.size+1,0,none⟩ 1 1 [.int .u8 x.kind,.int .i64 x.at_,.string (bs x.text),.int .i64 x.num,.int .i64 x.e] rfl rfl (U3 _ _ _ _) (by intro u hu; simp at hu; rcases hu with rfl | rfl | rfl | rfl | rfl <;> rfl) (by unfold maxLen; omega) (by omega) (by simp; omega) ?_; intro v' w3 hown' hgrow _; obtain ⟨Gw,cv',rfl⟩:=yi hown'; have K3:=hid (Gj AG.o hgrow (fun b hb=>(hown1.lt b hb).1)); have IY:=hid hown'; have kc:=(((yd.new w1 #[.int .u8 x.kind,.int .i64 x.at_,.string (bs x.text),.int .i64 x.num,.int .i64 x.e] 69).grown (aW _ _ none) (by simp)).grown hgrow (fun e=>by have:=(hown1.lt _ e.symm).2; omega)).cell 0; simp only [bB,bf] at kc; clear hgrow hown')
     go_roundw
     case rel=>exact ⟨q,D ++ [x],om.2,rfl,by rw [iA,List.flatMap_append]; simpa [Gd] using IY.o,K3.o,by rw [RR.o,TK.o]; simp⟩
     case measure=>simp [intOf]; omega
   ·simp only [Bool.or_true,if_true] at TK;go_wp2
    go_roundw
    case rel=>exact ⟨k+1,D,by omega,by go_num,hown,HG.o,by rw [RR.o,TK.o]⟩
    case measure=>simp [intOf]; omega
  ·simp only [Bool.true_or,if_true] at TK;go_wp2
   go_roundw
   case rel=>exact ⟨k+1,D,by omega,by go_num,hown,HG.o,by rw [RR.o,TK.o]⟩
   case measure=>simp [intOf]; omega
end Go.Proofs.YtnkkepfcpjllmaaGreatDoor
