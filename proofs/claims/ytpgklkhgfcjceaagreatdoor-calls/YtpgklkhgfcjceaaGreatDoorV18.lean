
import Derived.Test.YtpgklkhgfcjceaaGreatDoorV17
set_option maxHeartbeats 16000000
namespace Go.Proofs.YtpgklkhgfcjceaaGreatDoor
open Go.RowKit
theorem LY {o:Lk.Obj} (h:yw o):tK o:=by
 obtain ⟨⟨⟨a,b,c⟩,-,d,e⟩,f,-⟩:=h
 have:=f.1
 exact ⟨by omega,by omega,by omega,by omega,by omega,by omega⟩
theorem JV:∀ (ms:List Ln.Mod) (t f d:Int),(Ln.bS ms t f d).map Ln.Mod.obj=ms.map Ln.Mod.obj:=by
 intro ms
 induction ms with
 | nil=>intro t f d; rfl
 | cons m ms ih=>intro t f d; unfold Ln.bS; rw [List.map_cons,ih,List.map_cons]; rfl
theorem ykU:∀ (ms ms':List Ln.Mod) (b:Int),ms'.map Ln.Mod.obj=ms.map Ln.Mod.obj->Ln.gN ms' b=Ln.gN ms b:=by
 intro ms
 induction ms with
 | nil =>
  intro ms' b h
  cases ms' with
  | nil=>rfl
  | cons x xs=>simp at h
 | cons m ms ih =>
  intro ms' b h
  cases ms' with
  | nil=>simp at h
  | cons x xs =>
   rw [List.map_cons,List.map_cons] at h
   obtain ⟨h1,h2⟩:=List.cons.inj h
   unfold Ln.gN
   rw [h1,ih xs _ h2]
set_option maxRecDepth 100000 in
theorem UY (Wf W0:World) (P:Nat) (bt bf bd:Int) (vm:Value) (bl gl:List Nat) (ms:List Ln.Mod) (st:Ln.gB) (no:Int) (W:World) (h:yU Wf W0 P bt bf bd vm bl gl ms st no W) (hn:∀ m∈ms,yH bl.length m) (hv:∀ m∈ms,yw m.obj)
  (hbt:0<=bt/\bt<=4294967296) (hbf:0<=bf/\bf<=4294967296) (hbd:0<=bd/\bd<=4294967296) :
  Calls Tryz.prog 70 #[aT P] W fun e W'=>e = .returned (.tuple #[])/\yU Wf W0 P bt bf bd vm bl gl (Ln.lay bt bf bd ms) st (Ln.noughts bd ms) W':=by
 obtain ⟨am,cm,rfl⟩:=yh h.row
 have H0:=hid h
 have c0:W.cell? ⟨P,0,none⟩=some (.int .i64 bt):=h.blk.cell 0
 have c1:W.cell? ⟨P,1,none⟩=some (.int .i64 bf):=h.blk.cell 1
 have c2:W.cell? ⟨P,2,none⟩=some (.int .i64 bd):=h.blk.cell 2
 have c3:W.cell? ⟨P,3,none⟩=some (.slice am bl.length cm):=h.blk.cell 3
 have hbl:=h.few
 have LO:=hid h.gy
 have HN:=hid hn
 have HV:=hid hv
 have LL:=hid (LU ms bt bf bd)
 obtain ⟨L1,hL1⟩:∃ L1,L1=Ln.bS ms bt bf bd:=⟨_,rfl⟩
 have Dp:=hid hL1
 rw [<- hL1] at LL
 clear h hn hv hL1
 unfold aT
 go_enter Tryz.func70,Tryz.ntmps70
 go_wp2
 go_quiet (fail)
 have HW1:=hid (H0.o.kept (ye (World.grownBy.refl W none) nq))
 go_wp2
 generalize W.drewN nq=W1 at *
 clear c0 c1 c2 c3 H0
 go_loopw [2,3,4,30] (fun vt vf vd i wr=>∃ (k:Nat) (t f d:Int),k<=bl.length/\i = .int .i64 k/\vt = .int .i64 t/\vf = .int .i64 f/\vd = .int .i64 d/\yU Wf W0 P bt bf bd (.slice am bl.length cm) bl gl (L1.take k ++ ms.drop k) st no wr/\L1.drop k=Ln.bS (ms.drop k) t f d/\Ln.bX ms bd=Ln.bX (ms.drop k) d/\(0<=t/\t<=4294967296+5000 * k)/\(0<=f/\f<=4294967296+5000 * k)/\(0<=d/\d<=4294967296+5000 * k)) (fun _ _ _ i _=>bl.length - (intOf i).toNat)
 case atStart=>exact ⟨0,bt,bf,bd,Nat.zero_le _,rfl,rfl,rfl,rfl,by simpa using HW1.o,by rw [Dp.o]; rfl,rfl,by omega,by omega,by omega⟩
 case round =>
  obtain ⟨k,t,f,d,hk,rfl,rfl,rfl,rfl,hpa,hld,hde,ht,hf,hd⟩:=hrel
  have HP:=hid hpa
  have Ee:=hid hld
  have Kz:=hid hde
  clear hpa hld hde HW1
  by_cases hlt:k < bl.length
  ·have hko:k < ms.length:=by rw [LO.o]; exact hlt
   have hkg:k < gl.length:=by rw [HP.o.iB]; exact hlt
   have wG:k < L1.length:=by rw [LL.o]; exact hko
   obtain ⟨sg,off,hsg,hsc⟩:=HP.o.iW.ptrs (by omega)
   have ck:=hsc k hlt
   have HM:yD wr bl bl[k] (gl[k]'hkg) ms[k]:=by
    have:=HP.o.mods k hlt
    rwa [Hr ms L1 k hko (by rw [LL.o]; omega)] at this
   have MV:=HV.o _ (gW hko)
   have MN:=HN.o _ (gW hko)
   have R1:=DV MV 1 (.inl rfl) t ht.1 (by omega)
   have R2:=DV MV 2 (.inr rfl) f hf.1 (by omega)
   have UP:=hid (fun (w2:World) (hg:wr.grownBy w2 (some bl[k])) (hm:yD w2 bl bl[k] (gl[k]'hkg) (Ln.dw ms[k] t f d))=>show yU Wf W0 P bt bf bd (.slice am bl.length cm) bl gl (L1.take (k+1) ++ ms.drop (k+1)) st no w2/\L1.drop (k+1)=Ln.bS (ms.drop (k+1)) (Ln.bF ms[k] 1 t) (Ln.bF ms[k] 2 f) (Ln.rup d (Ln.aF ms[k].obj 3)+4 * ms[k].obj.data.length)/\Ln.bX ms bd=Ln.bX (ms.drop (k+1)) (Ln.rup d (Ln.aF ms[k].obj 3)+4 * ms[k].obj.data.length) from by
    have e:=Ee.o
    rw [kP hko] at e
    obtain ⟨e1,e2⟩:=Vm wG e
    refine ⟨?_,e2,?_⟩
    ·rw [<- Ml ms L1 k hko wG LL.o,e1]
     exact HP.o.upd hlt (by rw [HP.o.gy]; exact hlt) hg hm (by rw [Hr ms L1 k hko (by rw [LL.o]; omega)]; rfl)
    ·have e3:=Kz.o
     rw [kP hko] at e3
     exact e3)
   have g1:(k:Int) < (bl.length:Int):=by omega
   have RD:=wV d (Ln.aF ms[k].obj 3) hd.1 (by omega) (yY _)
   have BV:Ln.aF ms[k].obj 3=4\/Ln.aF ms[k].obj 3=8\/Ln.aF ms[k].obj 3=16:=yY _
   have hdl:ms[k].obj.data.length<=64:=MV.1.1.2.2
   clear hsc HP Ee Kz
   generalize ms[k]=m at *
   generalize Tc:(gl[k]'hkg)=gk at *
   generalize hbk:bl[k]=bk at *
   have Jd:=hid (Uv bl bk gk bl.length m 1 t wr HM MN MV (.inl rfl) ht.1 (by omega))
   have Si:=hid (fun W2 (h2:yD W2 bl bk gk { m with text:=Ln.aG m 1 t })=>Uv bl bk gk bl.length _ 2 f W2 h2 (MN.oz (by omega) (fun p hp=>by have:=R1.2.2 p hp; omega)) MV (.inr rfl) hf.1 (by omega))
   have cB:=hid (fun W2 (h2:yu W2 gk m.obj)=>Uk gk m.obj 3 W2 h2 MV.2.1 (by omega) (by omega))
   have cU:=hid (fun W2=>LX d (Ln.aF m.obj 3) W2 hd.1 (by omega) (by omega) (by omega))
   have cN:=hid (fun W2 (h2:yu W2 gk m.obj)=>Lh gk m.obj 3 W2 h2 (LY MV) MV.1.2.1)
   subst hsg
   unfold aT at *
   go_wp2_with fail
   refine Jd.o.mono ?_
   rintro e W2 ⟨rfl,g2,m2⟩
   have M2:=hid (show yD W2 bl bk gk { m with text:=Ln.aG m 1 t } from m2)
   have QS:=hid g2
   clear g2 m2 Jd
   go_wp2_with fail
   refine (Si.o _ M2.o).mono ?_
   rintro e W3 ⟨rfl,g3,m3⟩
   have EL:Ln.bF { m with text:=Ln.aG m 1 t } 2 f=Ln.bF m 2 f:=LM (m:=m) (m':={ m with text:=Ln.aG m 1 t }) rfl rfl 2 f
   rw [EL]
   have M3:=hid (show yD W3 bl bk gk { m with text:=Ln.aG m 1 t,far:=Ln.aG m 2 f } by
    have e:Ln.aG { m with text:=Ln.aG m 1 t } 2 f=Ln.aG m 2 f:=Lj (m:=m) (m':={ m with text:=Ln.aG m 1 t }) rfl rfl 2 f
    rw [e] at m3
    exact m3)
   have QT:=hid (QS.o.trans g3)
   clear g3 m3 Si EL QS M2
   have k0:W3.cell? ⟨bk,0,none⟩=some (.pointer (some ⟨gk,0,none⟩)):=by obtain ⟨u1,u2,u3,u4,q0,-⟩:=M3.o; exact q0.cell 0
   have k5:W3.cell? ⟨bk,5,none⟩=some (.int .i64 m.data):=by obtain ⟨u1,u2,u3,u4,q0,-⟩:=M3.o; exact q0.cell 5
   have f5:W3.frozen? ⟨bk,5,none⟩=false:=by obtain ⟨u1,u2,u3,u4,q0,-⟩:=M3.o; exact q0.free 5
   have o3:Hd (yu W3 gk m.obj):=by obtain ⟨u1,u2,u3,u4,q0,q1,-⟩:=M3.o; exact q1
   go_wp2_with fail
   refine (cB.o _ o3.o).mono ?_
   rintro e w' ⟨rfl,hw⟩
   rw [hw]
   clear hw w'
   go_wp2_with fail
   refine (cU.o _).mono ?_
   rintro e w' ⟨rfl,hw⟩
   rw [hw]
   clear hw w'
   generalize K9:Ln.rup d (Ln.aF m.obj 3)=rd at *
   have XO:=hid K9
   clear K9
   have M4:=hid (M3.o.rG rd)
   have Io:=hid (QT.o.trans (yf W3 bk 5 (.int .i64 rd)))
   go_wp2
   clear k0 k5 f5 o3 M3 QT cB cU
   generalize W3.setCell ⟨bk,5,none⟩ (.int .i64 rd)=W4 at *
   have k0:W4.cell? ⟨bk,0,none⟩=some (.pointer (some ⟨gk,0,none⟩)):=by obtain ⟨u1,u2,u3,u4,q0,-⟩:=M4.o; exact q0.cell 0
   have k5:W4.cell? ⟨bk,5,none⟩=some (.int .i64 rd):=by obtain ⟨u1,u2,u3,u4,q0,-⟩:=M4.o; exact q0.cell 5
   have O4:Hd (yu W4.drew gk m.obj):=by obtain ⟨u1,u2,u3,u4,q0,q1,-⟩:=M4.o; exact q1.kept (yi (World.grownBy.refl _ _))
   have es:uV m.obj 3=m.obj.data.length:=rfl
   rw [es] at cN
   have w1:IntKind.i64.wrap (rd+4 * (m.obj.data.length:Int))=rd+4 * m.obj.data.length:=IntWalk.i64_in _ ⟨by omega,by omega⟩
   go_region_held3 (fun w'=>w'.cell? ⟨bk,0,none⟩=some (.pointer (some ⟨gk,0,none⟩))/\w'.cell? ⟨bk,5,none⟩=some (.int .i64 rd))
    (go_keep)
    (first | (go_at_call 87; refine (cN.o _ O4.o).mono ?_; rintro e w' ⟨rfl,hw⟩; rw [hw]; clear hw w'))
   have UQ:=hid (UP.o W4.drew (yi Io.o) (by
    have:=M4.o.kept (yi (World.grownBy.refl W4 none))
    rw [<- XO.o] at this
    exact this))
   clear UP M4 Io cN O4
   go_wp2
   go_roundw
   case rel=>exact ⟨k+1,_,_,_,by omega,by go_num,rfl,rfl,rfl,UQ.o.1,UQ.o.2.1,UQ.o.2.2,by omega,by omega,by omega⟩
   case measure=>simp [intOf]; omega
  ·obtain rfl:k=bl.length:=by omega
   have g3:decide ((bl.length:Int) < (bl.length:Int))=false:=by simp
   have IG:=hid (show yU Wf W0 P bt bf bd (.slice am bl.length cm) bl gl L1 st no wr by
    have:=HP.o
    rwa [List.drop_of_length_le (by rw [LO.o]; exact Nat.le_refl _),List.append_nil,List.take_of_length_le (by rw [LL.o,LO.o]; exact Nat.le_refl _)] at this)
   have DE:=hid (show Ln.bX ms bd=d by rw [Kz.o,List.drop_of_length_le (by rw [LO.o]; exact Nat.le_refl _)]; rfl)
   have c3:wr.cell? ⟨P,3,none⟩=some (.slice am bl.length cm):=IG.o.blk.cell 3
   have Gu:=hid (UZ L1 d)
   obtain ⟨L2,hL2⟩:∃ L2,L2=Ln.dX L1 d:=⟨_,rfl⟩
   have HL2:=hid hL2
   rw [<- hL2] at Gu
   have OV:=hid (show ∀ i (h:i < L1.length),yw L1[i].obj from fun i h=>by
    have e:L1.map Ln.Mod.obj=ms.map Ln.Mod.obj:=by rw [Dp.o]; exact JV ms bt bf bd
    have:L1[i].obj∈ms.map Ln.Mod.obj:=by rw [<- e]; exact List.mem_map_of_mem (gW h)
    obtain ⟨x,hx,e2⟩:=List.mem_map.1 this
    rw [<- e2]
    exact HV.o x hx)
   have FIN:=hid (show Ln.lay bt bf bd ms=L2/\Ln.noughts bd ms=(Ln.gN L1 d - d) / 4 by
    unfold Ln.lay Ln.noughts
    rw [DE.o,<- Dp.o,<- HL2.o]
    refine ⟨rfl,?_⟩
    rw [ykU ms L1 d (by rw [Dp.o]; exact JV ms bt bf bd)])
   clear hL2 HP Ee Kz
   go_wp2
   generalize wr=V1 at *
   clear c3
   go_loopw [7,67] (fun vb i wr=>∃ (k:Nat) (b:Int),k<=bl.length/\i = .int .i64 k/\vb = .int .i64 b/\yU Wf W0 P bt bf bd (.slice am bl.length cm) bl gl (L2.take k ++ L1.drop k) st no wr/\L2.drop k=Ln.dX (L1.drop k) b/\Ln.gN L1 d=Ln.gN (L1.drop k) b/\(d<=b/\b<=4294967296+5000 * bl.length+5000 * k)) (fun _ i _=>bl.length - (intOf i).toNat)
   case atStart=>exact ⟨0,d,Nat.zero_le _,rfl,rfl,by simpa using IG.o,by rw [HL2.o]; rfl,rfl,Int.le_refl _,by omega⟩
   case round =>
    obtain ⟨k,b,hk2,rfl,rfl,hpa,hld,hbe,hb⟩:=hrel
    have HP:=hid hpa
    have Ee:=hid hld
    have Ky:=hid hbe
    clear hpa hld hbe IG
    by_cases hlt:k < bl.length
    ·have wG:k < L1.length:=by rw [LL.o,LO.o]; exact hlt
     have hkg:k < gl.length:=by rw [HP.o.iB]; exact hlt
     have Jr:k < L2.length:=by rw [Gu.o]; exact wG
     obtain ⟨sg,off,hsg,hsc⟩:=HP.o.iW.ptrs (by omega)
     have ck:=hsc k hlt
     have HM:yD wr bl bl[k] (gl[k]'hkg) L1[k]:=by
      have:=HP.o.mods k hlt
      rwa [Hr L1 L2 k wG (by rw [Gu.o]; omega)] at this
     have MV:=OV.o k wG
     have UP:=hid (fun (w2:World) (hg:wr.grownBy w2 (some bl[k])) (hm:yD w2 bl bl[k] (gl[k]'hkg) { L1[k] with bss:=Ln.rup b (Ln.aF L1[k].obj 4) })=>show yU Wf W0 P bt bf bd (.slice am bl.length cm) bl gl (L2.take (k+1) ++ L1.drop (k+1)) st no w2/\L2.drop (k+1)=Ln.dX (L1.drop (k+1)) (Ln.rup b (Ln.aF L1[k].obj 4)+4 * L1[k].obj.bss)/\Ln.gN L1 d=Ln.gN (L1.drop (k+1)) (Ln.rup b (Ln.aF L1[k].obj 4)+4 * L1[k].obj.bss) from by
      have e:=Ee.o
      rw [kP wG] at e
      obtain ⟨e1,e2⟩:=Vm Jr e
      refine ⟨?_,e2,?_⟩
      ·rw [<- Ml L1 L2 k wG Jr Gu.o,e1]
       exact HP.o.upd hlt (by rw [HP.o.gy]; exact hlt) hg hm (by rw [Hr L1 L2 k wG (by rw [Gu.o]; omega)])
      ·have e3:=Ky.o
       rw [kP wG] at e3
       exact e3)
     have g1:(k:Int) < (bl.length:Int):=by omega
     have RD:=wV b (Ln.aF L1[k].obj 4) (by omega) (by omega) (yY _)
     have BV:Ln.aF L1[k].obj 4=4\/Ln.aF L1[k].obj 4=8\/Ln.aF L1[k].obj 4=16:=yY _
     have hdl:=MV.1.2.1
     clear hsc HP Ee Ky
     generalize L1[k]=m at *
     generalize Tc:(gl[k]'hkg)=gk at *
     generalize hbk:bl[k]=bk at *
     have cB:=hid (fun W2 (h2:yu W2 gk m.obj)=>Uk gk m.obj 4 W2 h2 MV.2.1 (by omega) (by omega))
     have cU:=hid (fun W2=>LX b (Ln.aF m.obj 4) W2 (by omega) (by omega) (by omega) (by omega))
     have cN:=hid (fun W2 (h2:yu W2 gk m.obj)=>Lh gk m.obj 4 W2 h2 (LY MV) MV.1.2.1)
     subst hsg
     have M3:=hid HM
     clear HM
     have k0:wr.cell? ⟨bk,0,none⟩=some (.pointer (some ⟨gk,0,none⟩)):=by obtain ⟨u1,u2,u3,u4,q0,-⟩:=M3.o; exact q0.cell 0
     have k6:wr.cell? ⟨bk,6,none⟩=some (.int .i64 m.bss):=by obtain ⟨u1,u2,u3,u4,q0,-⟩:=M3.o; exact q0.cell 6
     have f6:wr.frozen? ⟨bk,6,none⟩=false:=by obtain ⟨u1,u2,u3,u4,q0,-⟩:=M3.o; exact q0.free 6
     have o3:Hd (yu wr gk m.obj):=by obtain ⟨u1,u2,u3,u4,q0,q1,-⟩:=M3.o; exact q1
     unfold aT at *
     go_wp2_with fail
     refine (cB.o _ o3.o).mono ?_
     rintro e w' ⟨rfl,hw⟩
     rw [hw]
     clear hw w'
     go_wp2_with fail
     refine (cU.o _).mono ?_
     rintro e w' ⟨rfl,hw⟩
     rw [hw]
     clear hw w'
     generalize K9:Ln.rup b (Ln.aF m.obj 4)=rd at *
     have M4:=hid (M3.o.uO rd)
     have Io:=hid (yf wr bk 6 (.int .i64 rd))
     clear K9
     go_wp2
     clear k0 k6 f6 o3 M3 cB cU ck
     generalize wr.setCell ⟨bk,6,none⟩ (.int .i64 rd)=W4 at *
     have k0:W4.cell? ⟨bk,0,none⟩=some (.pointer (some ⟨gk,0,none⟩)):=by obtain ⟨u1,u2,u3,u4,q0,-⟩:=M4.o; exact q0.cell 0
     have k6:W4.cell? ⟨bk,6,none⟩=some (.int .i64 rd):=by obtain ⟨u1,u2,u3,u4,q0,-⟩:=M4.o; exact q0.cell 6
     have O4:Hd (yu W4.drew gk m.obj):=by obtain ⟨u1,u2,u3,u4,q0,q1,-⟩:=M4.o; exact q1.kept (yi (World.grownBy.refl _ _))
     have es:uV m.obj 4=m.obj.bss:=rfl
     rw [es] at cN
     have w1:IntKind.i64.wrap (rd+4 * m.obj.bss)=rd+4 * m.obj.bss:=IntWalk.i64_in _ ⟨by omega,by omega⟩
     go_region_held3 (fun w'=>w'.cell? ⟨bk,0,none⟩=some (.pointer (some ⟨gk,0,none⟩))/\w'.cell? ⟨bk,6,none⟩=some (.int .i64 rd))
      (go_keep)
      (first | (go_at_call 87; refine (cN.o _ O4.o).mono ?_; rintro e w' ⟨rfl,hw⟩; rw [hw]; clear hw w'))
     have UQ:=hid (UP.o W4.drew (yi Io.o) (M4.o.kept (yi (World.grownBy.refl W4 none))))
     clear UP M4 Io cN O4
     go_wp2
     go_roundw
     case rel=>exact ⟨k+1,_,by omega,by go_num,rfl,UQ.o.1,UQ.o.2.1,UQ.o.2.2,by omega,by omega⟩
     case measure=>simp [intOf]; omega
    ·obtain rfl:k=bl.length:=by omega
     have g3:decide ((bl.length:Int) < (bl.length:Int))=false:=by simp
     have xQ:=hid (show yU Wf W0 P bt bf bd (.slice am bl.length cm) bl gl L2 st no wr by
      have:=HP.o
      rwa [List.drop_of_length_le (by rw [LL.o,LO.o]; exact Nat.le_refl _),List.append_nil,List.take_of_length_le (by rw [Gu.o,LL.o,LO.o]; exact Nat.le_refl _)] at this)
     have BE:=hid (show Ln.gN L1 d=b by rw [Ky.o,List.drop_of_length_le (by rw [LL.o,LO.o]; exact Nat.le_refl _)]; rfl)
     have w1:IntKind.i64.wrap (b - d)=b - d:=IntWalk.i64_in _ ⟨by omega,by omega⟩
     have c7:wr.cell? ⟨P,7,none⟩=some (.int .i64 no):=xQ.o.blk.cell 7
     have f7:=xQ.o.blk.free 7
     have HF:=hid (xQ.o.nought (no':=(b - d) / 4))
     have ed:Int.tdiv (b - d) 4=(b - d) / 4:=Int.tdiv_eq_ediv_of_nonneg (by omega)
     clear HP Ee Ky xQ
     go_wp2
     go_end0
     rw [FIN.o.1,FIN.o.2,BE.o]
     exact ⟨rfl,HF.o⟩
theorem Tryz.zq:(Tryz.prog.info? 4).map (fun i=>(i.zero,i.size,i.bytes))=some (some (.bool false),1,1):=by kernel_rfl
namespace Ln
def eX (m:Mod):Mod:={ m with short:=[] }
end Ln
theorem Li (m:Ln.Mod) (s o:Int):Ln.address (Ln.eX m) s o=Ln.address m s o:=rfl
theorem ZU {ms ms':List Ln.Mod} (h:ms'.map Ln.eX=ms.map Ln.eX) (s:Ln.gB):Ln.bH ms' s=Ln.bH ms s:=by
 unfold Ln.bH
 cases s.mod with
 | none=>rfl
 | some i =>
  dsimp only
  have e:(ms'[i]?).map Ln.eX=(ms[i]?).map Ln.eX:=by rw [<- List.getElem?_map,<- List.getElem?_map,h]
  cases h1:ms'[i]? with
  | none =>
   cases h2:ms[i]? with
   | none=>rfl
   | some y=>rw [h1,h2] at e; simp at e
  | some x =>
   cases h2:ms[i]? with
   | none=>rw [h1,h2] at e; simp at e
   | some y =>
    rw [h1,h2] at e
    simp only [Option.map_some,Option.some.injEq] at e
    dsimp only
    rw [<- Li x,e,Li]
theorem ZC {ms ms':List Ln.Mod} {m m':Ln.Mod} (h:ms'.map Ln.eX=ms.map Ln.eX) (hm:Ln.eX m'=Ln.eX m) (r:Lk.Rel):Ln.distance ms' m' r=Ln.distance ms m r:=by
 have e1:m'.means=m.means:=show (Ln.eX m').means=(Ln.eX m).means by rw [hm]
 unfold Ln.distance Ln.target
 rw [e1,ZU h,<- Li m',hm,Li]
structure rW (WB:World) (bi:Nat) (g:Nat) (v1 v3 v4:Value) (d b:Int) (sl:List Value) (j:Nat) (vs:Value) (wr:World):Prop where
 gr:WB.grownBy wr (some bi)
 blk:yc wr bi #[aT g,v1,vs,v3,v4,.int .i64 d,.int .i64 b] 130
 row:wr.ownsRow WB.heap.size 4 1 vs j sl
 nil:j=0->vs = .slice none 0 0
section
variable {WB V wr w3:World} {bi g j:Nat} {v1 v3 v4 vs v':Value} {d b:Int} {sl news:List Value}
theorem rW.kept (h:rW WB bi g v1 v3 v4 d b sl j vs wr) (hV:wr.grownBy V none):rW WB bi g v1 v3 v4 d b sl j vs V :=
 ⟨h.gr.trans (hV.but _),h.blk.grown hV (by simp),h.row.kept hV (Decidable.em _),h.nil⟩
theorem rW.step (h:rW WB bi g v1 v3 v4 d b sl j vs V) (hown:w3.ownsRow WB.heap.size 4 1 v' (j+1) (sl ++ news)) (hg:V.grownBy w3 vs.ownBlock):rW WB bi g v1 v3 v4 d b (sl ++ news) (j+1) v' (w3.setCell ⟨bi,2,none⟩ v'):=by
 have b3:=yK h.blk hg (bI.own h.row) (by decide)
 have gs:=yf w3 bi 2 v'
 refine ⟨(h.gr.andThen hg (fun k hk=>.inl (h.row.lt k hk).1)).trans gs,?_,yy hown gs (bI.blk b3) (by decide),fun c=>by omega⟩
 simpa using b3.set 2 v'
theorem rW.mod {m:Ln.Mod} {bl:List Nat} {l:List Bool} {cur:Array Value} (hq:yc WB bi cur 130) (ho:yu WB g m.obj) (q2:WB.ownsRow 0 123 3 v1 m.means.length (m.means.flatMap (xM bl))) (q4:WB.ownsRow 0 3 1 v3 m.text.length (m.text.map (Value.int .i64))) (q5:WB.ownsRow 0 3 1 v4 m.far.length (m.far.map (Value.int .i64))) (q6:m.means=[]->v1 = .slice none 0 0) (h:rW WB bi g v1 v3 v4 m.data m.bss (l.map Value.bool) l.length vs wr):yD wr bl bi g { m with short:=l }:=by
 have R:=bI.blk hq
 exact ⟨_,_,_,_,h.blk,rP ho h.gr R (by decide) (by decide) (by decide) (by decide),yy q2 h.gr R (by decide),FV h.row,yy q4 h.gr R (by decide),yy q5 h.gr R (by decide),q6,fun e=>h.nil (by simp only at e; rw [e]; rfl)⟩
end
theorem yH.mO {n:Nat} {m:Ln.Mod} (h:yH n m) {l:List Bool} (hl:l.length<=65535):yH n { m with short:=l }:=⟨h.text,h.far,h.data,h.bss,h.means,hl,h.aj⟩
set_option maxRecDepth 100000 in
theorem ylD (Wf W0:World) (P:Nat) (bt bf bd:Int) (vm:Value) (bl gl:List Nat) (ms:List Ln.Mod) (st:Ln.gB) (no:Int) (W:World) (h:yU Wf W0 P bt bf bd vm bl gl ms st no W) (hn:∀ m∈ms,yH bl.length m) (hz:∀ m∈ms,m.short=[]) :
  Calls Tryz.prog 71 #[aT P] W fun e W'=>e = .returned (.tuple #[])/\yU Wf W0 P bt bf bd vm bl gl (Ln.shorten ms) st no W':=by
 obtain ⟨i0,hi,hz0,hz1,hz2⟩:=info_parts Tryz.zq
 obtain ⟨am,cm,rfl⟩:=yh h.row
 have H0:=hid h
 have c3:W.cell? ⟨P,3,none⟩=some (.slice am bl.length cm):=h.blk.cell 3
 have hbl:=h.few
 have LO:=hid h.gy
 have HN:=hid hn
 have HZ:=hid hz
 obtain ⟨L1,hL1⟩:∃ L1,L1=Ln.shorten ms:=⟨_,rfl⟩
 have LL:=hid (show L1.length=ms.length by rw [hL1]; simp [Ln.shorten])
 have LA:=hid (show ∀ k (h:k < ms.length) (h':k < L1.length),L1[k]={ ms[k] with short:=ms[k].obj.aj.map (Ln.bn ms ms[k]) } by intro k h h'; subst hL1; simp [Ln.shorten])
 have Dp:=hid hL1
 clear h hn hz hL1
 unfold aT
 go_enter Tryz.func71,Tryz.ntmps71
 go_wp2
 clear c3
 go_loopw [12] (fun i wr=>∃ k:Nat,k<=bl.length/\i = .int .i64 k/\yU Wf W0 P bt bf bd (.slice am bl.length cm) bl gl (L1.take k ++ ms.drop k) st no wr) (fun i _=>bl.length - (intOf i).toNat)
 case atStart=>exact ⟨0,Nat.zero_le _,rfl,by simpa using H0.o⟩
 case round =>
  obtain ⟨k,hk,rfl,hpa⟩:=hrel
  have HP:=hid hpa
  clear hpa H0
  by_cases hlt:k < bl.length
  ·have hko:k < ms.length:=by rw [LO.o]; exact hlt
   have hkg:k < gl.length:=by rw [HP.o.iB]; exact hlt
   have wG:k < L1.length:=by rw [LL.o]; exact hko
   obtain ⟨sg,off,hsg,hsc⟩:=HP.o.iW.ptrs (by omega)
   have ck:=hsc k hlt
   subst hsg
   have uo:(L1.take k ++ ms.drop k)[k]'(by rw [HP.o.gy]; exact hlt)=ms[k]:=Hr ms L1 k hko (by rw [LL.o]; omega) (by rw [HP.o.gy]; exact hlt)
   have HM:yD wr bl bl[k] (gl[k]'hkg) ms[k]:=by
    have:=HP.o.mods k hlt
    rwa [uo] at this
   have MN:=HN.o _ (gW hko)
   have MZ:=HZ.o _ (gW hko)
   obtain ⟨v1,v2,v3,v4,q0,q1,q2,-,q4,q5,q6,q7⟩:=HM
   have e7:=q7 MZ
   subst e7
   obtain ⟨at_,ct,af,cf,ad,cd,aa,ca,fU,cs,ar,cr,hb,-,-,-,-,-,p6⟩:=q1.open
   have k6:=hb.cell 6
   simp only [bC,bG,bE] at k6
   have k0:wr.cell? ⟨bl[k],0,none⟩=some (.pointer (some ⟨gl[k]'hkg,0,none⟩)):=q0.cell 0
   have M0:=hid (show rW wr bl[k] (gl[k]'hkg) v1 v3 v4 ms[k].data ms[k].bss [] 0 (.slice none 0 0) wr from ⟨World.grownBy.refl _ _,q0,World.ownsRow_nil _ _ _ _,fun _=>rfl⟩)
   have PM:=hid (fun (l:List Bool) (vs:Value) (wr2:World) (hm:rW wr bl[k] (gl[k]'hkg) v1 v3 v4 ms[k].data ms[k].bss (l.map Value.bool) l.length vs wr2)=>show yD wr2 bl bl[k] (gl[k]'hkg) { ms[k] with short:=l } from rW.mod (m:=ms[k]) q0 q1 q2 q4 q5 q6 hm)
   have PK:=hid (fun (l:List Bool) (vs:Value) (wr2:World) (hm:rW wr bl[k] (gl[k]'hkg) v1 v3 v4 ms[k].data ms[k].bss (l.map Value.bool) l.length vs wr2)=>show yU Wf W0 P bt bf bd (.slice (some ⟨sg,off,none⟩) bl.length cm) bl gl ((L1.take k ++ ms.drop k).set k { ms[k] with short:=l }) st no wr2 from
    HP.o.upd hlt (by rw [HP.o.gy]; exact hlt) hm.gr (PM.o l vs wr2 hm) (by rw [uo]))
   have US:=hid (show ∀ l:List Bool,((L1.take k ++ ms.drop k).set k { ms[k] with short:=l }).map Ln.eX=ms.map Ln.eX from fun l=>by
    have eL:L1.map Ln.eX=ms.map Ln.eX:=by rw [Dp.o]; unfold Ln.shorten; rw [List.map_map]; rfl
    rw [List.map_set,List.map_append,List.map_take,List.map_drop,eL,List.take_append_drop]
    have:Ln.eX { ms[k] with short:=l }=(ms.map Ln.eX)[k]'(by simpa using hko):=by rw [List.getElem_map]; rfl
    rw [this]
    exact List.set_getElem_self _)
   have NI:=hid (show ∀ l:List Bool,l.length<=65535->∀ x∈(L1.take k ++ ms.drop k).set k { ms[k] with short:=l },yH bl.length x from fun l hl x hx=>by
    rcases List.mem_or_eq_of_mem_set hx with q | rfl
    ·rcases List.mem_append.1 q with q | q
     ·have q2:=List.mem_of_mem_take q
      rw [Dp.o] at q2
      unfold Ln.shorten at q2
      obtain ⟨y,hy,rfl⟩:=List.mem_map.1 q2
      exact (HN.o y hy).mO (by rw [pX]; exact (HN.o y hy).aj.1)
     ·exact HN.o x (List.mem_of_mem_drop q)
    ·exact MN.mO hl)
   have cD:=hid (fun (l:List Bool) (hl:l.length<=65535) (vs:Value) (wr2:World) (hm:rW wr bl[k] (gl[k]'hkg) v1 v3 v4 ms[k].data ms[k].bss (l.map Value.bool) l.length vs wr2) (W3:World) (hg:wr2.grownBy W3 none) (r:Lk.Rel) (hr:r∈ms[k].obj.aj)=>show Calls Tryz.prog 107 #[aT bl[k],fB r] W3 (fun e w'=>e = .returned (.int .i64 (Ln.distance ms ms[k] r))/\W3.grownBy w' none) by
    have d:=Lg bl _ bl[k] (gl[k]'hkg) { ms[k] with short:=l } r W3 (((PK.o l vs wr2 hm).uF (NI.o l hl)).kept hg) ((PM.o l vs wr2 hm).kept hg) (MN.mO hl) (MN.aj.2 r hr).2.1 (MN.aj.2 r hr).2.2
    refine d.mono ?_
    rintro e w' ⟨rfl,q⟩
    exact ⟨congrArg (fun z=>Ending.returned (Value.int .i64 z)) (ZC (US.o l) rfl r),q⟩)
   have PS:=hid (fun (wr2:World) (hg:wr.grownBy wr2 (some bl[k]))=>show Az wr2 ar ms[k].obj.aj from Az.aR (yy p6 hg (bI.blk q0) (by decide)))
   have hrl:=MN.aj.1
   have FIN:=hid (show (L1.take k ++ ms.drop k).set k { ms[k] with short:=ms[k].obj.aj.map (Ln.bn ms ms[k]) }=L1.take (k+1) ++ ms.drop (k+1) by rw [<- Ml ms L1 k hko wG LL.o,LA.o k hko wG])
   have HR:=hid (show ∀ r∈ms[k].obj.aj,r∈ms[k].obj.aj from fun r h=>h)
   have g1:(k:Int) < (bl.length:Int):=by omega
   clear hsc q0 q1 q2 q4 q5 q6 q7 hb p6 HP uo NI US PM MN MZ
   generalize (gl[k]'hkg)=gk at *
   generalize hbb:bl[k]=bk at *
   clear hbb
   generalize hm:ms[k]=m at *
   clear hm
   go_wp2
   generalize wr=WB at *
   clear ck k0 k6
   go_loopw [24] (fun i wr2=>∃ (j:Nat) (vs:Value),j<=m.obj.aj.length/\i = .int .i64 j/\rW WB bk gk v1 v3 v4 m.data m.bss (((m.obj.aj.take j).map (Ln.bn ms m)).map Value.bool) j vs wr2) (fun i _=>m.obj.aj.length - (intOf i).toNat)
   case atStart=>exact ⟨0,_,Nat.zero_le _,rfl,M0.o⟩
   case round =>
    obtain ⟨j,vs,hj,rfl,hme⟩:=hrel
    have HM:=hid hme
    clear hme M0
    obtain ⟨av,cv,rfl⟩:=yh HM.o.row
    have LJ:((m.obj.aj.take j).map (Ln.bn ms m)).length=j:=by rw [pX,List.length_take]; omega
    by_cases hlt2:j < m.obj.aj.length
    ·obtain ⟨sg2,zn,hgs,hcs⟩:=PS.o wr HM.o.gr (by omega)
     subst zn
     obtain ⟨q0,q1,q2,q3,q4⟩:=hcs j hlt2
     clear hcs
     have g2:(j:Int) < (m.obj.aj.length:Int):=by omega
     have TK:=hid (show ((m.obj.aj.take (j+1)).map (Ln.bn ms m)).map Value.bool=(((m.obj.aj.take j).map (Ln.bn ms m)).map Value.bool) ++ [Value.bool (Ln.bn ms m m.obj.aj[j])] by
      rw [List.take_succ_eq_append_getElem hlt2,List.map_append,List.map_append]
      simp)
     have hrm:m.obj.aj[j]∈m.obj.aj:=gW hlt2
     have GA:=hid (aH wr (.cells #[.int .i64 m.obj.aj[j].ah,.int .i64 m.obj.aj[j].off,.int .i64 m.obj.aj[j].kind,.int .i64 m.obj.aj[j].sym,.int .i64 m.obj.aj[j].addend] 102) none)
     have cM:=hid (cD.o ((m.obj.aj.take j).map (Ln.bn ms m)) (by rw [LJ]; omega) _ wr (by rw [LJ]; exact HM.o) _ GA.o m.obj.aj[j] hrm)
     have Iu:=hid (show Ln.distance ms m m.obj.aj[j]=Ln.distance ms m m.obj.aj[j] from rfl)
     generalize m.obj.aj[j]=r at *
     generalize hsl:((m.obj.aj.take j).map (Ln.bn ms m)).map Value.bool=sl at *
     have Gt:=hid (HM.o.kept GA.o)
     have QG:=hid (yc.new wr #[.int .i64 r.ah,.int .i64 r.off,.int .i64 r.kind,.int .i64 r.sym,.int .i64 r.addend] 102)
     clear hsl hrm
     unfold aT fB at cM
     obtain ⟨ds,hds⟩:∃ ds,Ln.distance ms m r=ds:=⟨_,rfl⟩
     rw [hds] at cM
     clear Iu
     have Iu:=hid hds
     clear hds
     go_wp2_with fail
     refine cM.o.mono ?_
     rintro e W6 ⟨rfl,h5⟩
     have tN:=hid (Gt.o.kept h5)
     have B6:=hid (QG.o.grown h5 (by simp))
     clear h5 cM q0 q1 q2 q3 q4 Gt QG GA
     go_wp2
     generalize wr.heap.size=L at *
     have s2:W6.cell? ⟨L,2,none⟩=some (.int .i64 r.kind):=B6.o.cell 2
     have m2:W6.cell? ⟨bk,2,none⟩=some (.slice av j cv):=tN.o.blk.cell 2
     by_cases e1:r.kind=4
     ·have d1:(r.kind == 4)=true:=by simpa using e1
      by_cases e2:-1015808 < ds
      ·have d2:decide (-1015808 < ds)=true:=by simpa using e2
       by_cases e3:ds < 1015808
       ·have d3:decide (ds < 1015808)=true:=by simpa using e3
        have EX:=hid (show Value.bool (Ln.bn ms m r) = .bool true by unfold Ln.bn; rw [Iu.o]; simp [e1,e2,e3])
        clear e1 e2 e3
        have A7:=yi (aH W6 (.cells #[.bool true] 4) none)
        have B7:=hid (B6.o.grown A7 (by simp))
        have jA:=hid (tN.o.kept A7)
        have hA:=hid jA.o.row
        have n2:(W6.alloc (.cells #[.bool true] 4)).drew.cell? ⟨bk,2,none⟩=some (.slice av j cv):=jA.o.blk.cell 2
        have hN:Hd (∀ j u,[Value.bool true][j]?=some u->(W6.alloc (.cells #[.bool true] 4)).drew.cell? ((⟨W6.heap.size,0,none⟩:Addr).add j)=some u):=World.news_of_block (heap_alloc_new W6 (.cells #[.bool true] 4))
        have gQ:Hd (∀ u∈[Value.bool true],u.oneCell'=true):=by intro u hu; simp at hu; subst hu; rfl
        have h63:Hd (j+1<=maxLen):=by show _<=_; unfold maxLen; omega
        have hby:Hd ((j+1) * 1<=140737488355328):=by show _<=_; omega
        have hbs:Hd (WB.heap.size<=(W6.alloc (.cells #[.bool true] 4)).drew.heap.size):=jA.o.gr.size
        have SA:Hd ((W6.alloc (.cells #[.bool true] 4)).drew.cell? ⟨L,2,none⟩=some (.int .i64 r.kind)):=B7.o.cell 2
        have STEP:=hid (fun (v':Value) (w3:World) (hown':w3.ownsRow WB.heap.size 4 1 v' (j+1) (sl ++ [.bool true])) (hg:(W6.alloc (.cells #[.bool true] 4)).drew.grownBy w3 (Value.ownBlock (.slice av j cv)))=>show rW WB bk gk v1 v3 v4 m.data m.bss (sl ++ [.bool true]) (j+1) v' (w3.setCell ⟨bk,2,none⟩ v')/\yc w3 L #[.int .i64 r.ah,.int .i64 r.off,.int .i64 r.kind,.int .i64 r.sym,.int .i64 r.addend] 102/\yc (w3.setCell ⟨bk,2,none⟩ v') L #[.int .i64 r.ah,.int .i64 r.off,.int .i64 r.kind,.int .i64 r.sym,.int .i64 r.addend] 102/\w3.cell? ⟨bk,2,none⟩=some (.slice av j cv)/\w3.frozen? ⟨bk,2,none⟩=false by
         have st:=jA.o.step hown' hg
         have b3:=yK jA.o.blk hg (bI.own jA.o.row) (by decide)
         have l3:=yK B7.o hg (bI.own jA.o.row) (by decide)
         exact ⟨st,l3,yK l3 (yf w3 bk 2 v') (bI.blk b3) (by decide),b3.cell 2,b3.free 2⟩)
        clear A7 B7 jA tN B6
        refine wp_region_held_drew (S:=(fun w'=>w'.cell? ⟨L,2,none⟩=some (.int .i64 r.kind))) (by kernel_rfl) s2 ?_
        intro hS
        refine wpAnyH_take (i:=0) (v:=?_) rfl (by kernel_rfl) (by kernel_rfl) (by kernel_rfl) (fun _ _ _ h=>h) (Or.inl ⟨by kernel_rfl,?_⟩) hS ?_
        rotate_left
        ·intro w' hw'; have x2:=hw'; go_simp; with_reducible rfl
        refine wpAnyH_take (i:=1) (v:=?_) rfl (by kernel_rfl) (by kernel_rfl) (by kernel_rfl) (fun _ _ _ h=>h) (Or.inl ⟨by kernel_rfl,?_⟩) hS ?_
        rotate_left
        ·intro w' hw'; have x2:=hw'; go_simp; with_reducible rfl
        refine wpAnyH_take (i:=2) (v:=?_) rfl (by kernel_rfl) (by kernel_rfl) (by kernel_rfl) (fun _ _ _ h=>h) (Or.inl ⟨by kernel_rfl,?_⟩) hS ?_
        rotate_left
        ·intro w' hw'; have x2:=hw'; go_simp; with_reducible rfl
        refine wpAnyH_take (i:=3) (v:=?_) rfl (by kernel_rfl) (by kernel_rfl) (by kernel_rfl) (fun _ _ _ h=>h) (Or.inl ⟨by kernel_rfl,?_⟩) hS ?_
        rotate_left
        ·intro w' hw'; have x2:=hw'; go_simp; with_reducible rfl
        refine wpAnyH_take (i:=5) (v:=?_) rfl (by kernel_rfl) (by kernel_rfl) (by kernel_rfl) (fun _ _ _ h=>h) (Or.inl ⟨by kernel_rfl,?_⟩) hS ?_
        rotate_left
        ·intro w' hw'; have x2:=hw'; go_simp; with_reducible rfl
        refine wpAnyH_take (i:=6) (v:=?_) rfl (by kernel_rfl) (by kernel_rfl) (by kernel_rfl) (fun _ _ _ h=>h) (Or.inl ⟨by kernel_rfl,?_⟩) hS ?_
        rotate_left
        ·intro w' hw'; have x2:=hw'; go_simp; with_reducible rfl
        refine wpAnyH_take (i:=7) (v:=?_) rfl (by kernel_rfl) (by kernel_rfl) (by kernel_rfl) (fun _ _ _ h=>h) (Or.inl ⟨by kernel_rfl,?_⟩) hS ?_
        rotate_left
        ·intro w' hw'; have x2:=hw'; go_simp; with_reducible rfl
        refine wpAnyH_take (i:=8) (v:=?_) rfl (by kernel_rfl) (by kernel_rfl) (by kernel_rfl) (fun _ _ _ h=>h) (Or.inl ⟨by kernel_rfl,?_⟩) hS ?_
        rotate_left
        ·intro w' hw'; have x2:=hw'; go_simp; with_reducible rfl
        refine wpAnyH_take (i:=9) (v:=?_) rfl (by kernel_rfl) (by kernel_rfl) (by kernel_rfl) (fun _ _ _ h=>h) (Or.inl ⟨by kernel_rfl,?_⟩) hS ?_
        rotate_left
        ·intro w' hw'; have x2:=hw'; go_simp; with_reducible rfl
        refine wpAnyH_take (i:=10) (v:=?_) rfl (by kernel_rfl) (by kernel_rfl) (by kernel_rfl) (fun _ _ _ h=>h) (Or.inl ⟨by kernel_rfl,?_⟩) hS ?_
        rotate_left
        ·intro w' hw'; have x2:=hw'; go_simp; with_reducible rfl
        refine wpAnyH_take (i:=11) (v:=.bool true) rfl (by kernel_rfl) (by kernel_rfl) (by kernel_rfl) (fun _ _ _ h=>h) (Or.inl ⟨by kernel_rfl,fun _ _=>by kernel_rfl⟩) hS ?_
        refine wpAnyH_take (i:=12) (v:=.bool true) rfl (by kernel_rfl) (by kernel_rfl) (by kernel_rfl) (fun _ _ _ h=>h) (Or.inl ⟨by kernel_rfl,fun _ _=>by kernel_rfl⟩) hS ?_
        refine wpAnyH_take (i:=13) (v:=?_) rfl (by kernel_rfl) (by kernel_rfl) (by kernel_rfl) (fun _ _ _ h=>h) (Or.inl ⟨by kernel_rfl,?_⟩) hS ?_
        rotate_left
        ·intro w' hw'; have x2:=hw'; go_simp; with_reducible rfl
        refine wpAnyH_take (i:=14) (v:=?_) rfl (by kernel_rfl) (by kernel_rfl) (by kernel_rfl) (fun _ _ _ h=>h) (Or.inl ⟨by kernel_rfl,?_⟩) hS ?_
        rotate_left
        ·intro w' hw'; have x2:=hw'; go_simp; with_reducible rfl
        refine wpAnyH_take (i:=15) (v:=.bool true) rfl (by kernel_rfl) (by kernel_rfl) (by kernel_rfl) (fun _ _ _ h=>h) (Or.inl ⟨by kernel_rfl,fun _ _=>by kernel_rfl⟩) hS ?_
        refine wpAnyH_ready (rs:=[4,16]) (by kernel_rfl) (by simp) ?_
        refine AllReadyH.cons rfl (fun K hK=>?_) (AllReadyH.cons rfl (fun K hK=>?_) AllReadyH.nil)
        go_simp
        refine hK.out _ _ hS (fun hS2=>?_)
        clear hK K
        refine wpAnyH_ready (rs:=[16]) (by kernel_rfl) (by simp) ?_
        rotate_left
        go_simp
        refine hK.out _ _ SA.o (fun hS2=>?_)
        clear hK K
        refine wpAnyH_ready (rs:=[4]) (by kernel_rfl) (by simp) ?_
        all_goals
         refine AllReadyH.cons rfl (fun K hK=>?_) AllReadyH.nil
         go_simp
         refine hK.out _ _ SA.o (fun iP=>?_)
         clear hK K hS2 iP
         refine wpAnyH_ready (rs:=[17]) (by kernel_rfl) (by simp) ?_
         refine AllReadyH.cons rfl (fun K hK=>?_) AllReadyH.nil
         rw [if_pos (by kernel_rfl)]
         refine yZ _ (.tmp 35) (.tmp 47) 128 rfl WB.heap.size 4 i0 (.bool false) 1 1 Tryz.underlying128 hi hz0 hz1 hz2 rfl (by decide) (.slice av j cv) j sl (by kernel_rfl) hA.o ⟨W6.heap.size,0,none⟩ 1 1 [.bool true] (by kernel_rfl) rfl hN.o gQ.o h63.o hby.o hbs.o ?_
         intro v' w3 hown' hgrow _ _
         obtain ⟨mY,cv',rfl⟩:=yh hown'
         obtain ⟨t1,t2,t3,t4,t5⟩:=STEP.o _ _ hown' hgrow
         have T1:=hid t1
         have T3:Hd ((w3.setCell ⟨bk,2,none⟩ (.slice mY (j+1) cv')).cell? ⟨L,2,none⟩=some (.int .i64 r.kind)):=t3.cell 2
         refine hK.out _ _ (t2.cell 2) (fun iT=>?_)
         clear hK K hown' hgrow t1 t2 t3
         refine wpAnyH_take (i:=18) (v:=?_) rfl (by kernel_rfl) (by kernel_rfl) (by kernel_rfl) (fun _ _ _ h=>h) (Or.inl ⟨by kernel_rfl,?_⟩) iT ?_
         rotate_left
         ·intro w' hw'; have x2:=hw'; go_simp; with_reducible rfl
         refine wpAnyH_take (i:=19) (v:=?_) rfl (by kernel_rfl) (by kernel_rfl) (by kernel_rfl) (fun _ _ _ h=>h) (Or.inl ⟨by kernel_rfl,?_⟩) iT ?_
         rotate_left
         ·intro w' hw'; have x2:=hw'; go_simp; with_reducible rfl
         refine wpAnyH_ready (rs:=[20]) (by kernel_rfl) (by simp) ?_
         refine AllReadyH.cons rfl (fun K hK=>?_) AllReadyH.nil
         go_simp
         refine hK.out _ _ T3.o (fun hS5=>?_)
         clear hK K
         refine wpAnyH_done (by kernel_rfl) ?_ _
         try simp only [qM,oD,nQ,om,fQ,fT,fP]
         clear hA hN gQ h63 hby hbs m2 n2 t4 t5 iT hS5 hS STEP SA T3
         go_wp2
         go_roundw
         case rel=>exact ⟨j+1,_,by omega,by go_num,by rw [TK.o,EX.o]; exact T1.o⟩
         case measure=>simp [intOf]; omega
       ·have d3:decide (ds < 1015808)=false:=by simpa using e3
        have EX:=hid (show Value.bool (Ln.bn ms m r) = .bool false by unfold Ln.bn; rw [Iu.o]; simp [e3])
        clear e1 e2 e3
        have A7:=yi (aH W6 (.cells #[.bool false] 4) none)
        have B7:=hid (B6.o.grown A7 (by simp))
        have jA:=hid (tN.o.kept A7)
        have hA:=hid jA.o.row
        have n2:(W6.alloc (.cells #[.bool false] 4)).drew.cell? ⟨bk,2,none⟩=some (.slice av j cv):=jA.o.blk.cell 2
        have hN:Hd (∀ j u,[Value.bool false][j]?=some u->(W6.alloc (.cells #[.bool false] 4)).drew.cell? ((⟨W6.heap.size,0,none⟩:Addr).add j)=some u):=World.news_of_block (heap_alloc_new W6 (.cells #[.bool false] 4))
        have gQ:Hd (∀ u∈[Value.bool false],u.oneCell'=true):=by intro u hu; simp at hu; subst hu; rfl
        have h63:Hd (j+1<=maxLen):=by show _<=_; unfold maxLen; omega
        have hby:Hd ((j+1) * 1<=140737488355328):=by show _<=_; omega
        have hbs:Hd (WB.heap.size<=(W6.alloc (.cells #[.bool false] 4)).drew.heap.size):=jA.o.gr.size
        have SA:Hd ((W6.alloc (.cells #[.bool false] 4)).drew.cell? ⟨L,2,none⟩=some (.int .i64 r.kind)):=B7.o.cell 2
        have STEP:=hid (fun (v':Value) (w3:World) (hown':w3.ownsRow WB.heap.size 4 1 v' (j+1) (sl ++ [.bool false])) (hg:(W6.alloc (.cells #[.bool false] 4)).drew.grownBy w3 (Value.ownBlock (.slice av j cv)))=>show rW WB bk gk v1 v3 v4 m.data m.bss (sl ++ [.bool false]) (j+1) v' (w3.setCell ⟨bk,2,none⟩ v')/\yc w3 L #[.int .i64 r.ah,.int .i64 r.off,.int .i64 r.kind,.int .i64 r.sym,.int .i64 r.addend] 102/\yc (w3.setCell ⟨bk,2,none⟩ v') L #[.int .i64 r.ah,.int .i64 r.off,.int .i64 r.kind,.int .i64 r.sym,.int .i64 r.addend] 102/\w3.cell? ⟨bk,2,none⟩=some (.slice av j cv)/\w3.frozen? ⟨bk,2,none⟩=false by
         have st:=jA.o.step hown' hg
         have b3:=yK jA.o.blk hg (bI.own jA.o.row) (by decide)
         have l3:=yK B7.o hg (bI.own jA.o.row) (by decide)
         exact ⟨st,l3,yK l3 (yf w3 bk 2 v') (bI.blk b3) (by decide),b3.cell 2,b3.free 2⟩)
        clear A7 B7 jA tN B6
        refine wp_region_held_drew (S:=(fun w'=>w'.cell? ⟨L,2,none⟩=some (.int .i64 r.kind))) (by kernel_rfl) s2 ?_
        intro hS
        refine wpAnyH_take (i:=0) (v:=?_) rfl (by kernel_rfl) (by kernel_rfl) (by kernel_rfl) (fun _ _ _ h=>h) (Or.inl ⟨by kernel_rfl,?_⟩) hS ?_
        rotate_left
        ·intro w' hw'; have x2:=hw'; go_simp; with_reducible rfl
        refine wpAnyH_take (i:=1) (v:=?_) rfl (by kernel_rfl) (by kernel_rfl) (by kernel_rfl) (fun _ _ _ h=>h) (Or.inl ⟨by kernel_rfl,?_⟩) hS ?_
        rotate_left
        ·intro w' hw'; have x2:=hw'; go_simp; with_reducible rfl
        refine wpAnyH_take (i:=2) (v:=?_) rfl (by kernel_rfl) (by kernel_rfl) (by kernel_rfl) (fun _ _ _ h=>h) (Or.inl ⟨by kernel_rfl,?_⟩) hS ?_
        rotate_left
        ·intro w' hw'; have x2:=hw'; go_simp; with_reducible rfl
        refine wpAnyH_take (i:=3) (v:=?_) rfl (by kernel_rfl) (by kernel_rfl) (by kernel_rfl) (fun _ _ _ h=>h) (Or.inl ⟨by kernel_rfl,?_⟩) hS ?_
        rotate_left
        ·intro w' hw'; have x2:=hw'; go_simp; with_reducible rfl
        refine wpAnyH_take (i:=5) (v:=?_) rfl (by kernel_rfl) (by kernel_rfl) (by kernel_rfl) (fun _ _ _ h=>h) (Or.inl ⟨by kernel_rfl,?_⟩) hS ?_
        rotate_left
        ·intro w' hw'; have x2:=hw'; go_simp; with_reducible rfl
        refine wpAnyH_take (i:=6) (v:=?_) rfl (by kernel_rfl) (by kernel_rfl) (by kernel_rfl) (fun _ _ _ h=>h) (Or.inl ⟨by kernel_rfl,?_⟩) hS ?_
        rotate_left
        ·intro w' hw'; have x2:=hw'; go_simp; with_reducible rfl
        refine wpAnyH_take (i:=7) (v:=?_) rfl (by kernel_rfl) (by kernel_rfl) (by kernel_rfl) (fun _ _ _ h=>h) (Or.inl ⟨by kernel_rfl,?_⟩) hS ?_
        rotate_left
        ·intro w' hw'; have x2:=hw'; go_simp; with_reducible rfl
        refine wpAnyH_take (i:=8) (v:=?_) rfl (by kernel_rfl) (by kernel_rfl) (by kernel_rfl) (fun _ _ _ h=>h) (Or.inl ⟨by kernel_rfl,?_⟩) hS ?_
        rotate_left
        ·intro w' hw'; have x2:=hw'; go_simp; with_reducible rfl
        refine wpAnyH_take (i:=9) (v:=?_) rfl (by kernel_rfl) (by kernel_rfl) (by kernel_rfl) (fun _ _ _ h=>h) (Or.inl ⟨by kernel_rfl,?_⟩) hS ?_
        rotate_left
        ·intro w' hw'; have x2:=hw'; go_simp; with_reducible rfl
        refine wpAnyH_take (i:=10) (v:=?_) rfl (by kernel_rfl) (by kernel_rfl) (by kernel_rfl) (fun _ _ _ h=>h) (Or.inl ⟨by kernel_rfl,?_⟩) hS ?_
        rotate_left
        ·intro w' hw'; have x2:=hw'; go_simp; with_reducible rfl
        refine wpAnyH_take (i:=11) (v:=.bool true) rfl (by kernel_rfl) (by kernel_rfl) (by kernel_rfl) (fun _ _ _ h=>h) (Or.inl ⟨by kernel_rfl,fun _ _=>by kernel_rfl⟩) hS ?_
        refine wpAnyH_take (i:=12) (v:=.bool true) rfl (by kernel_rfl) (by kernel_rfl) (by kernel_rfl) (fun _ _ _ h=>h) (Or.inl ⟨by kernel_rfl,fun _ _=>by kernel_rfl⟩) hS ?_
        refine wpAnyH_take (i:=13) (v:=?_) rfl (by kernel_rfl) (by kernel_rfl) (by kernel_rfl) (fun _ _ _ h=>h) (Or.inl ⟨by kernel_rfl,?_⟩) hS ?_
        rotate_left
        ·intro w' hw'; have x2:=hw'; go_simp; with_reducible rfl
        refine wpAnyH_take (i:=14) (v:=?_) rfl (by kernel_rfl) (by kernel_rfl) (by kernel_rfl) (fun _ _ _ h=>h) (Or.inl ⟨by kernel_rfl,?_⟩) hS ?_
        rotate_left
        ·intro w' hw'; have x2:=hw'; go_simp; with_reducible rfl
        refine wpAnyH_take (i:=15) (v:=.bool false) rfl (by kernel_rfl) (by kernel_rfl) (by kernel_rfl) (fun _ _ _ h=>h) (Or.inl ⟨by kernel_rfl,fun _ _=>by kernel_rfl⟩) hS ?_
        refine wpAnyH_ready (rs:=[4,16]) (by kernel_rfl) (by simp) ?_
        refine AllReadyH.cons rfl (fun K hK=>?_) (AllReadyH.cons rfl (fun K hK=>?_) AllReadyH.nil)
        go_simp
        refine hK.out _ _ hS (fun hS2=>?_)
        clear hK K
        refine wpAnyH_ready (rs:=[16]) (by kernel_rfl) (by simp) ?_
        rotate_left
        go_simp
        refine hK.out _ _ SA.o (fun hS2=>?_)
        clear hK K
        refine wpAnyH_ready (rs:=[4]) (by kernel_rfl) (by simp) ?_
        all_goals
         refine AllReadyH.cons rfl (fun K hK=>?_) AllReadyH.nil
         go_simp
         refine hK.out _ _ SA.o (fun iP=>?_)
         clear hK K hS2 iP
         refine wpAnyH_ready (rs:=[17]) (by kernel_rfl) (by simp) ?_
         refine AllReadyH.cons rfl (fun K hK=>?_) AllReadyH.nil
         rw [if_pos (by kernel_rfl)]
         refine yZ _ (.tmp 35) (.tmp 47) 128 rfl WB.heap.size 4 i0 (.bool false) 1 1 Tryz.underlying128 hi hz0 hz1 hz2 rfl (by decide) (.slice av j cv) j sl (by kernel_rfl) hA.o ⟨W6.heap.size,0,none⟩ 1 1 [.bool false] (by kernel_rfl) rfl hN.o gQ.o h63.o hby.o hbs.o ?_
         intro v' w3 hown' hgrow _ _
         obtain ⟨mY,cv',rfl⟩:=yh hown'
         obtain ⟨t1,t2,t3,t4,t5⟩:=STEP.o _ _ hown' hgrow
         have T1:=hid t1
         have T3:Hd ((w3.setCell ⟨bk,2,none⟩ (.slice mY (j+1) cv')).cell? ⟨L,2,none⟩=some (.int .i64 r.kind)):=t3.cell 2
         refine hK.out _ _ (t2.cell 2) (fun iT=>?_)
         clear hK K hown' hgrow t1 t2 t3
         refine wpAnyH_take (i:=18) (v:=?_) rfl (by kernel_rfl) (by kernel_rfl) (by kernel_rfl) (fun _ _ _ h=>h) (Or.inl ⟨by kernel_rfl,?_⟩) iT ?_
         rotate_left
         ·intro w' hw'; have x2:=hw'; go_simp; with_reducible rfl
         refine wpAnyH_take (i:=19) (v:=?_) rfl (by kernel_rfl) (by kernel_rfl) (by kernel_rfl) (fun _ _ _ h=>h) (Or.inl ⟨by kernel_rfl,?_⟩) iT ?_
         rotate_left
         ·intro w' hw'; have x2:=hw'; go_simp; with_reducible rfl
         refine wpAnyH_ready (rs:=[20]) (by kernel_rfl) (by simp) ?_
         refine AllReadyH.cons rfl (fun K hK=>?_) AllReadyH.nil
         go_simp
         refine hK.out _ _ T3.o (fun hS5=>?_)
         clear hK K
         refine wpAnyH_done (by kernel_rfl) ?_ _
         try simp only [qM,oD,nQ,om,fQ,fT,fP]
         clear hA hN gQ h63 hby hbs m2 n2 t4 t5 iT hS5 hS STEP SA T3
         go_wp2
         go_roundw
         case rel=>exact ⟨j+1,_,by omega,by go_num,by rw [TK.o,EX.o]; exact T1.o⟩
         case measure=>simp [intOf]; omega
      ·have d2:decide (-1015808 < ds)=false:=by simpa using e2
       have EX:=hid (show Value.bool (Ln.bn ms m r) = .bool false by unfold Ln.bn; rw [Iu.o]; simp [e2])
       clear e1 e2
       have A7:=yi (aH W6 (.cells #[.bool false] 4) none)
       have B7:=hid (B6.o.grown A7 (by simp))
       have jA:=hid (tN.o.kept A7)
       have hA:=hid jA.o.row
       have n2:(W6.alloc (.cells #[.bool false] 4)).drew.cell? ⟨bk,2,none⟩=some (.slice av j cv):=jA.o.blk.cell 2
       have hN:Hd (∀ j u,[Value.bool false][j]?=some u->(W6.alloc (.cells #[.bool false] 4)).drew.cell? ((⟨W6.heap.size,0,none⟩:Addr).add j)=some u):=World.news_of_block (heap_alloc_new W6 (.cells #[.bool false] 4))
       have gQ:Hd (∀ u∈[Value.bool false],u.oneCell'=true):=by intro u hu; simp at hu; subst hu; rfl
       have h63:Hd (j+1<=maxLen):=by show _<=_; unfold maxLen; omega
       have hby:Hd ((j+1) * 1<=140737488355328):=by show _<=_; omega
       have hbs:Hd (WB.heap.size<=(W6.alloc (.cells #[.bool false] 4)).drew.heap.size):=jA.o.gr.size
       have SA:Hd ((W6.alloc (.cells #[.bool false] 4)).drew.cell? ⟨L,2,none⟩=some (.int .i64 r.kind)):=B7.o.cell 2
       have STEP:=hid (fun (v':Value) (w3:World) (hown':w3.ownsRow WB.heap.size 4 1 v' (j+1) (sl ++ [.bool false])) (hg:(W6.alloc (.cells #[.bool false] 4)).drew.grownBy w3 (Value.ownBlock (.slice av j cv)))=>show rW WB bk gk v1 v3 v4 m.data m.bss (sl ++ [.bool false]) (j+1) v' (w3.setCell ⟨bk,2,none⟩ v')/\yc w3 L #[.int .i64 r.ah,.int .i64 r.off,.int .i64 r.kind,.int .i64 r.sym,.int .i64 r.addend] 102/\yc (w3.setCell ⟨bk,2,none⟩ v') L #[.int .i64 r.ah,.int .i64 r.off,.int .i64 r.kind,.int .i64 r.sym,.int .i64 r.addend] 102/\w3.cell? ⟨bk,2,none⟩=some (.slice av j cv)/\w3.frozen? ⟨bk,2,none⟩=false by
        have st:=jA.o.step hown' hg
        have b3:=yK jA.o.blk hg (bI.own jA.o.row) (by decide)
        have l3:=yK B7.o hg (bI.own jA.o.row) (by decide)
        exact ⟨st,l3,yK l3 (yf w3 bk 2 v') (bI.blk b3) (by decide),b3.cell 2,b3.free 2⟩)
       clear A7 B7 jA tN B6
       refine wp_region_held_drew (S:=(fun w'=>w'.cell? ⟨L,2,none⟩=some (.int .i64 r.kind))) (by kernel_rfl) s2 ?_
       intro hS
       refine wpAnyH_take (i:=0) (v:=?_) rfl (by kernel_rfl) (by kernel_rfl) (by kernel_rfl) (fun _ _ _ h=>h) (Or.inl ⟨by kernel_rfl,?_⟩) hS ?_
       rotate_left
       ·intro w' hw'; have x2:=hw'; go_simp; with_reducible rfl
       refine wpAnyH_take (i:=1) (v:=?_) rfl (by kernel_rfl) (by kernel_rfl) (by kernel_rfl) (fun _ _ _ h=>h) (Or.inl ⟨by kernel_rfl,?_⟩) hS ?_
       rotate_left
       ·intro w' hw'; have x2:=hw'; go_simp; with_reducible rfl
       refine wpAnyH_take (i:=2) (v:=?_) rfl (by kernel_rfl) (by kernel_rfl) (by kernel_rfl) (fun _ _ _ h=>h) (Or.inl ⟨by kernel_rfl,?_⟩) hS ?_
       rotate_left
       ·intro w' hw'; have x2:=hw'; go_simp; with_reducible rfl
       refine wpAnyH_take (i:=3) (v:=?_) rfl (by kernel_rfl) (by kernel_rfl) (by kernel_rfl) (fun _ _ _ h=>h) (Or.inl ⟨by kernel_rfl,?_⟩) hS ?_
       rotate_left
       ·intro w' hw'; have x2:=hw'; go_simp; with_reducible rfl
       refine wpAnyH_take (i:=5) (v:=?_) rfl (by kernel_rfl) (by kernel_rfl) (by kernel_rfl) (fun _ _ _ h=>h) (Or.inl ⟨by kernel_rfl,?_⟩) hS ?_
       rotate_left
       ·intro w' hw'; have x2:=hw'; go_simp; with_reducible rfl
       refine wpAnyH_take (i:=6) (v:=?_) rfl (by kernel_rfl) (by kernel_rfl) (by kernel_rfl) (fun _ _ _ h=>h) (Or.inl ⟨by kernel_rfl,?_⟩) hS ?_
       rotate_left
       ·intro w' hw'; have x2:=hw'; go_simp; with_reducible rfl
       refine wpAnyH_take (i:=7) (v:=?_) rfl (by kernel_rfl) (by kernel_rfl) (by kernel_rfl) (fun _ _ _ h=>h) (Or.inl ⟨by kernel_rfl,?_⟩) hS ?_
       rotate_left
       ·intro w' hw'; have x2:=hw'; go_simp; with_reducible rfl
       refine wpAnyH_take (i:=8) (v:=?_) rfl (by kernel_rfl) (by kernel_rfl) (by kernel_rfl) (fun _ _ _ h=>h) (Or.inl ⟨by kernel_rfl,?_⟩) hS ?_
       rotate_left
       ·intro w' hw'; have x2:=hw'; go_simp; with_reducible rfl
       refine wpAnyH_take (i:=9) (v:=?_) rfl (by kernel_rfl) (by kernel_rfl) (by kernel_rfl) (fun _ _ _ h=>h) (Or.inl ⟨by kernel_rfl,?_⟩) hS ?_
       rotate_left
       ·intro w' hw'; have x2:=hw'; go_simp; with_reducible rfl
       refine wpAnyH_take (i:=10) (v:=?_) rfl (by kernel_rfl) (by kernel_rfl) (by kernel_rfl) (fun _ _ _ h=>h) (Or.inl ⟨by kernel_rfl,?_⟩) hS ?_
       rotate_left
       ·intro w' hw'; have x2:=hw'; go_simp; with_reducible rfl
       refine wpAnyH_take (i:=11) (v:=.bool false) rfl (by kernel_rfl) (by kernel_rfl) (by kernel_rfl) (fun _ _ _ h=>h) (Or.inl ⟨by kernel_rfl,fun _ _=>by kernel_rfl⟩) hS ?_
       refine wpAnyH_take (i:=12) (v:=.bool false) rfl (by kernel_rfl) (by kernel_rfl) (by kernel_rfl) (fun _ _ _ h=>h) (Or.inl ⟨by kernel_rfl,fun _ _=>by kernel_rfl⟩) hS ?_
       refine wpAnyH_take (i:=13) (v:=undef) rfl (by kernel_rfl) (by kernel_rfl) (by kernel_rfl) (fun _ _ _ h=>h) (Or.inr ⟨by kernel_rfl,rfl⟩) hS ?_
       refine wpAnyH_take (i:=14) (v:=undef) rfl (by kernel_rfl) (by kernel_rfl) (by kernel_rfl) (fun _ _ _ h=>h) (Or.inr ⟨by kernel_rfl,rfl⟩) hS ?_
       refine wpAnyH_take (i:=15) (v:=.bool false) rfl (by kernel_rfl) (by kernel_rfl) (by kernel_rfl) (fun _ _ _ h=>h) (Or.inl ⟨by kernel_rfl,fun _ _=>by kernel_rfl⟩) hS ?_
       refine wpAnyH_ready (rs:=[4,16]) (by kernel_rfl) (by simp) ?_
       refine AllReadyH.cons rfl (fun K hK=>?_) (AllReadyH.cons rfl (fun K hK=>?_) AllReadyH.nil)
       go_simp
       refine hK.out _ _ hS (fun hS2=>?_)
       clear hK K
       refine wpAnyH_ready (rs:=[16]) (by kernel_rfl) (by simp) ?_
       rotate_left
       go_simp
       refine hK.out _ _ SA.o (fun hS2=>?_)
       clear hK K
       refine wpAnyH_ready (rs:=[4]) (by kernel_rfl) (by simp) ?_
       all_goals
        refine AllReadyH.cons rfl (fun K hK=>?_) AllReadyH.nil
        go_simp
        refine hK.out _ _ SA.o (fun iP=>?_)
        clear hK K hS2 iP
        refine wpAnyH_ready (rs:=[17]) (by kernel_rfl) (by simp) ?_
        refine AllReadyH.cons rfl (fun K hK=>?_) AllReadyH.nil
        rw [if_pos (by kernel_rfl)]
        refine yZ _ (.tmp 35) (.tmp 47) 128 rfl WB.heap.size 4 i0 (.bool false) 1 1 Tryz.underlying128 hi hz0 hz1 hz2 rfl (by decide) (.slice av j cv) j sl (by kernel_rfl) hA.o ⟨W6.heap.size,0,none⟩ 1 1 [.bool false] (by kernel_rfl) rfl hN.o gQ.o h63.o hby.o hbs.o ?_
        intro v' w3 hown' hgrow _ _
        obtain ⟨mY,cv',rfl⟩:=yh hown'
        obtain ⟨t1,t2,t3,t4,t5⟩:=STEP.o _ _ hown' hgrow
        have T1:=hid t1
        have T3:Hd ((w3.setCell ⟨bk,2,none⟩ (.slice mY (j+1) cv')).cell? ⟨L,2,none⟩=some (.int .i64 r.kind)):=t3.cell 2
        refine hK.out _ _ (t2.cell 2) (fun iT=>?_)
        clear hK K hown' hgrow t1 t2 t3
        refine wpAnyH_take (i:=18) (v:=?_) rfl (by kernel_rfl) (by kernel_rfl) (by kernel_rfl) (fun _ _ _ h=>h) (Or.inl ⟨by kernel_rfl,?_⟩) iT ?_
        rotate_left
        ·intro w' hw'; have x2:=hw'; go_simp; with_reducible rfl
        refine wpAnyH_take (i:=19) (v:=?_) rfl (by kernel_rfl) (by kernel_rfl) (by kernel_rfl) (fun _ _ _ h=>h) (Or.inl ⟨by kernel_rfl,?_⟩) iT ?_
        rotate_left
        ·intro w' hw'; have x2:=hw'; go_simp; with_reducible rfl
        refine wpAnyH_ready (rs:=[20]) (by kernel_rfl) (by simp) ?_
        refine AllReadyH.cons rfl (fun K hK=>?_) AllReadyH.nil
        go_simp
        refine hK.out _ _ T3.o (fun hS5=>?_)
        clear hK K
        refine wpAnyH_done (by kernel_rfl) ?_ _
        try simp only [qM,oD,nQ,om,fQ,fT,fP]
        clear hA hN gQ h63 hby hbs m2 n2 t4 t5 iT hS5 hS STEP SA T3
        go_wp2
        go_roundw
        case rel=>exact ⟨j+1,_,by omega,by go_num,by rw [TK.o,EX.o]; exact T1.o⟩
        case measure=>simp [intOf]; omega
     ·have d1:(r.kind == 4)=false:=by simpa using e1
      have EX:=hid (show Value.bool (Ln.bn ms m r) = .bool false by unfold Ln.bn; simp [e1])
      clear e1
      have A7:=yi (aH W6 (.cells #[.bool false] 4) none)
      have B7:=hid (B6.o.grown A7 (by simp))
      have jA:=hid (tN.o.kept A7)
      have hA:=hid jA.o.row
      have n2:(W6.alloc (.cells #[.bool false] 4)).drew.cell? ⟨bk,2,none⟩=some (.slice av j cv):=jA.o.blk.cell 2
      have hN:Hd (∀ j u,[Value.bool false][j]?=some u->(W6.alloc (.cells #[.bool false] 4)).drew.cell? ((⟨W6.heap.size,0,none⟩:Addr).add j)=some u):=World.news_of_block (heap_alloc_new W6 (.cells #[.bool false] 4))
      have gQ:Hd (∀ u∈[Value.bool false],u.oneCell'=true):=by intro u hu; simp at hu; subst hu; rfl
      have h63:Hd (j+1<=maxLen):=by show _<=_; unfold maxLen; omega
      have hby:Hd ((j+1) * 1<=140737488355328):=by show _<=_; omega
      have hbs:Hd (WB.heap.size<=(W6.alloc (.cells #[.bool false] 4)).drew.heap.size):=jA.o.gr.size
      have SA:Hd ((W6.alloc (.cells #[.bool false] 4)).drew.cell? ⟨L,2,none⟩=some (.int .i64 r.kind)):=B7.o.cell 2
      have STEP:=hid (fun (v':Value) (w3:World) (hown':w3.ownsRow WB.heap.size 4 1 v' (j+1) (sl ++ [.bool false])) (hg:(W6.alloc (.cells #[.bool false] 4)).drew.grownBy w3 (Value.ownBlock (.slice av j cv)))=>show rW WB bk gk v1 v3 v4 m.data m.bss (sl ++ [.bool false]) (j+1) v' (w3.setCell ⟨bk,2,none⟩ v')/\yc w3 L #[.int .i64 r.ah,.int .i64 r.off,.int .i64 r.kind,.int .i64 r.sym,.int .i64 r.addend] 102/\yc (w3.setCell ⟨bk,2,none⟩ v') L #[.int .i64 r.ah,.int .i64 r.off,.int .i64 r.kind,.int .i64 r.sym,.int .i64 r.addend] 102/\w3.cell? ⟨bk,2,none⟩=some (.slice av j cv)/\w3.frozen? ⟨bk,2,none⟩=false by
       have st:=jA.o.step hown' hg
       have b3:=yK jA.o.blk hg (bI.own jA.o.row) (by decide)
       have l3:=yK B7.o hg (bI.own jA.o.row) (by decide)
       exact ⟨st,l3,yK l3 (yf w3 bk 2 v') (bI.blk b3) (by decide),b3.cell 2,b3.free 2⟩)
      clear A7 B7 jA tN B6
      refine wp_region_held_drew (S:=(fun w'=>w'.cell? ⟨L,2,none⟩=some (.int .i64 r.kind))) (by kernel_rfl) s2 ?_
      intro hS
      refine wpAnyH_take (i:=0) (v:=?_) rfl (by kernel_rfl) (by kernel_rfl) (by kernel_rfl) (fun _ _ _ h=>h) (Or.inl ⟨by kernel_rfl,?_⟩) hS ?_
      rotate_left
      ·intro w' hw'; have x2:=hw'; go_simp; with_reducible rfl
      refine wpAnyH_take (i:=1) (v:=?_) rfl (by kernel_rfl) (by kernel_rfl) (by kernel_rfl) (fun _ _ _ h=>h) (Or.inl ⟨by kernel_rfl,?_⟩) hS ?_
      rotate_left
      ·intro w' hw'; have x2:=hw'; go_simp; with_reducible rfl
      refine wpAnyH_take (i:=2) (v:=?_) rfl (by kernel_rfl) (by kernel_rfl) (by kernel_rfl) (fun _ _ _ h=>h) (Or.inl ⟨by kernel_rfl,?_⟩) hS ?_
      rotate_left
      ·intro w' hw'; have x2:=hw'; go_simp; with_reducible rfl
      refine wpAnyH_take (i:=3) (v:=?_) rfl (by kernel_rfl) (by kernel_rfl) (by kernel_rfl) (fun _ _ _ h=>h) (Or.inl ⟨by kernel_rfl,?_⟩) hS ?_
      rotate_left
      ·intro w' hw'; have x2:=hw'; go_simp; with_reducible rfl
      refine wpAnyH_take (i:=5) (v:=?_) rfl (by kernel_rfl) (by kernel_rfl) (by kernel_rfl) (fun _ _ _ h=>h) (Or.inl ⟨by kernel_rfl,?_⟩) hS ?_
      rotate_left
      ·intro w' hw'; have x2:=hw'; go_simp; with_reducible rfl
      refine wpAnyH_take (i:=6) (v:=?_) rfl (by kernel_rfl) (by kernel_rfl) (by kernel_rfl) (fun _ _ _ h=>h) (Or.inl ⟨by kernel_rfl,?_⟩) hS ?_
      rotate_left
      ·intro w' hw'; have x2:=hw'; go_simp; with_reducible rfl
      refine wpAnyH_take (i:=7) (v:=?_) rfl (by kernel_rfl) (by kernel_rfl) (by kernel_rfl) (fun _ _ _ h=>h) (Or.inl ⟨by kernel_rfl,?_⟩) hS ?_
      rotate_left
      ·intro w' hw'; have x2:=hw'; go_simp; with_reducible rfl
      refine wpAnyH_take (i:=8) (v:=?_) rfl (by kernel_rfl) (by kernel_rfl) (by kernel_rfl) (fun _ _ _ h=>h) (Or.inl ⟨by kernel_rfl,?_⟩) hS ?_
      rotate_left
      ·intro w' hw'; have x2:=hw'; go_simp; with_reducible rfl
      refine wpAnyH_take (i:=9) (v:=undef) rfl (by kernel_rfl) (by kernel_rfl) (by kernel_rfl) (fun _ _ _ h=>h) (Or.inr ⟨by kernel_rfl,rfl⟩) hS ?_
      refine wpAnyH_take (i:=10) (v:=undef) rfl (by kernel_rfl) (by kernel_rfl) (by kernel_rfl) (fun _ _ _ h=>h) (Or.inr ⟨by kernel_rfl,rfl⟩) hS ?_
      refine wpAnyH_take (i:=11) (v:=.bool false) rfl (by kernel_rfl) (by kernel_rfl) (by kernel_rfl) (fun _ _ _ h=>h) (Or.inl ⟨by kernel_rfl,fun _ _=>by kernel_rfl⟩) hS ?_
      refine wpAnyH_take (i:=12) (v:=.bool false) rfl (by kernel_rfl) (by kernel_rfl) (by kernel_rfl) (fun _ _ _ h=>h) (Or.inl ⟨by kernel_rfl,fun _ _=>by kernel_rfl⟩) hS ?_
      refine wpAnyH_take (i:=13) (v:=undef) rfl (by kernel_rfl) (by kernel_rfl) (by kernel_rfl) (fun _ _ _ h=>h) (Or.inr ⟨by kernel_rfl,rfl⟩) hS ?_
      refine wpAnyH_take (i:=14) (v:=undef) rfl (by kernel_rfl) (by kernel_rfl) (by kernel_rfl) (fun _ _ _ h=>h) (Or.inr ⟨by kernel_rfl,rfl⟩) hS ?_
      refine wpAnyH_take (i:=15) (v:=.bool false) rfl (by kernel_rfl) (by kernel_rfl) (by kernel_rfl) (fun _ _ _ h=>h) (Or.inl ⟨by kernel_rfl,fun _ _=>by kernel_rfl⟩) hS ?_
      refine wpAnyH_ready (rs:=[4,16]) (by kernel_rfl) (by simp) ?_
      refine AllReadyH.cons rfl (fun K hK=>?_) (AllReadyH.cons rfl (fun K hK=>?_) AllReadyH.nil)
      go_simp
      refine hK.out _ _ hS (fun hS2=>?_)
      clear hK K
      refine wpAnyH_ready (rs:=[16]) (by kernel_rfl) (by simp) ?_
      rotate_left
      go_simp
      refine hK.out _ _ SA.o (fun hS2=>?_)
      clear hK K
      refine wpAnyH_ready (rs:=[4]) (by kernel_rfl) (by simp) ?_
      all_goals
       refine AllReadyH.cons rfl (fun K hK=>?_) AllReadyH.nil
       go_simp
       refine hK.out _ _ SA.o (fun iP=>?_)
       clear hK K hS2 iP
       refine wpAnyH_ready (rs:=[17]) (by kernel_rfl) (by simp) ?_
       refine AllReadyH.cons rfl (fun K hK=>?_) AllReadyH.nil
       rw [if_pos (by kernel_rfl)]
       refine yZ _ (.tmp 35) (.tmp 47) 128 rfl WB.heap.size 4 i0 (.bool false) 1 1 Tryz.underlying128 hi hz0 hz1 hz2 rfl (by decide) (.slice av j cv) j sl (by kernel_rfl) hA.o ⟨W6.heap.size,0,none⟩ 1 1 [.bool false] (by kernel_rfl) rfl hN.o gQ.o h63.o hby.o hbs.o ?_
       intro v' w3 hown' hgrow _ _
       obtain ⟨mY,cv',rfl⟩:=yh hown'
       obtain ⟨t1,t2,t3,t4,t5⟩:=STEP.o _ _ hown' hgrow
       have T1:=hid t1
       have T3:Hd ((w3.setCell ⟨bk,2,none⟩ (.slice mY (j+1) cv')).cell? ⟨L,2,none⟩=some (.int .i64 r.kind)):=t3.cell 2
       refine hK.out _ _ (t2.cell 2) (fun iT=>?_)
       clear hK K hown' hgrow t1 t2 t3
       refine wpAnyH_take (i:=18) (v:=?_) rfl (by kernel_rfl) (by kernel_rfl) (by kernel_rfl) (fun _ _ _ h=>h) (Or.inl ⟨by kernel_rfl,?_⟩) iT ?_
       rotate_left
       ·intro w' hw'; have x2:=hw'; go_simp; with_reducible rfl
       refine wpAnyH_take (i:=19) (v:=?_) rfl (by kernel_rfl) (by kernel_rfl) (by kernel_rfl) (fun _ _ _ h=>h) (Or.inl ⟨by kernel_rfl,?_⟩) iT ?_
       rotate_left
       ·intro w' hw'; have x2:=hw'; go_simp; with_reducible rfl
       refine wpAnyH_ready (rs:=[20]) (by kernel_rfl) (by simp) ?_
       refine AllReadyH.cons rfl (fun K hK=>?_) AllReadyH.nil
       go_simp
       refine hK.out _ _ T3.o (fun hS5=>?_)
       clear hK K
       refine wpAnyH_done (by kernel_rfl) ?_ _
       try simp only [qM,oD,nQ,om,fQ,fT,fP]
       clear hA hN gQ h63 hby hbs m2 n2 t4 t5 iT hS5 hS STEP SA T3
       go_wp2
       go_roundw
       case rel=>exact ⟨j+1,_,by omega,by go_num,by rw [TK.o,EX.o]; exact T1.o⟩
       case measure=>simp [intOf]; omega
    ·obtain rfl:j=m.obj.aj.length:=by omega
     have g3:decide ((m.obj.aj.length:Int) < (m.obj.aj.length:Int))=false:=by simp
     have PA:=hid (PK.o ((m.obj.aj.take m.obj.aj.length).map (Ln.bn ms m)) _ wr (by rw [LJ]; exact HM.o))
     rw [List.take_length,FIN.o] at PA
     clear LJ
     go_wp2
     go_roundw
     case rel=>exact ⟨k+1,by omega,by go_num,PA.o⟩
     case measure=>simp [intOf]; omega
  ·obtain rfl:k=bl.length:=by omega
   have g3:decide ((bl.length:Int) < (bl.length:Int))=false:=by simp
   have IG:=hid (show yU Wf W0 P bt bf bd (.slice am bl.length cm) bl gl L1 st no wr by
    have:=HP.o
    rwa [List.drop_of_length_le (by rw [LO.o]; exact Nat.le_refl _),List.append_nil,List.take_of_length_le (by rw [LL.o,LO.o]; exact Nat.le_refl _)] at this)
   clear HP
   go_wp2
   go_end0
   rw [<- Dp.o]
   exact ⟨rfl,IG.o⟩
end Go.Proofs.YtpgklkhgfcjceaaGreatDoor
