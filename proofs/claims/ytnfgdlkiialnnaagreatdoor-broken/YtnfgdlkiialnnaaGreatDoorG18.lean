/- Linking: all is laid. -/
/- Linking: which calls are short, as lists. -/
import Derived.Test.YtnfgdlkiialnnaaGreatDoorG17
namespace Go.Proofs.YtnfgdlkiialnnaaGreatDoor
open Go.RowKit

theorem valid_small {o:Lk.Obj} (h:Valid o):Small o:=by
 obtain ⟨⟨⟨a,b,c⟩,-,d,e⟩,f,-⟩:=h
 have:=f.1
 exact ⟨by omega,by omega,by omega,by omega,by omega,by omega⟩

theorem layMods_obj:∀ (ms:List Ln.Mod) (t f d:Int),(Ln.layMods ms t f d).map Ln.Mod.obj=ms.map Ln.Mod.obj:=by
 intro ms
 induction ms with
 | nil=>intro t f d; rfl
 | cons m ms ih=>intro t f d; unfold Ln.layMods; rw [List.map_cons,ih,List.map_cons]; rfl
theorem bssEnd_same:∀ (ms ms':List Ln.Mod) (b:Int),ms'.map Ln.Mod.obj=ms.map Ln.Mod.obj→Ln.bssEnd ms' b=Ln.bssEnd ms b:=by
 intro ms
 induction ms with
 | nil =>
  intro ms' b h
  cases ms' with
  | nil=>rfl
  | cons x xs=>simp at h
 | cons m ms ih =>
  intro ms' b h
  cases ms' with
  | nil=>simp at h
  | cons x xs =>
   rw [List.map_cons,List.map_cons] at h
   obtain ⟨h1,h2⟩:=List.cons.inj h
   unfold Ln.bssEnd
   rw [h1,ih xs _ h2]

set_option maxRecDepth 100000 in
set_option maxHeartbeats 8000000 in
theorem layAll_any (Wf W0:World) (P:Nat) (bt bf bd:Int) (vm:Value) (bl gl:List Nat) (ms:List Ln.Mod) (st:Ln.Spot) (no:Int) (W:World) (h:ProgF Wf W0 P bt bf bd vm bl gl ms st no W) (hn:∀ m∈ms,MNice bl.length m) (hv:∀ m∈ms,Valid m.obj)
  (hbt:0≤bt∧bt≤4294967296) (hbf:0≤bf∧bf≤4294967296) (hbd:0≤bd∧bd≤4294967296) :
  Calls Tryz.prog 65 #[ptrV P] W fun e W'=>e = .returned (.tuple #[])∧ProgF Wf W0 P bt bf bd vm bl gl (Ln.lay bt bf bd ms) st (Ln.noughts bd ms) W':=by
 obtain ⟨am,cm,rfl⟩:=own_form h.row
 have H0:=hid h
 have c0:W.cell? ⟨P,0,none⟩=some (.int .i64 bt):=h.blk.cell 0
 have c1:W.cell? ⟨P,1,none⟩=some (.int .i64 bf):=h.blk.cell 1
 have c2:W.cell? ⟨P,2,none⟩=some (.int .i64 bd):=h.blk.cell 2
 have c3:W.cell? ⟨P,3,none⟩=some (.slice am bl.length cm):=h.blk.cell 3
 have hbl:=h.few
 have LO:=hid h.lenO
 have HN:=hid hn
 have HV:=hid hv
 have LL:=hid (layMods_len ms bt bf bd)
 obtain ⟨L1,hL1⟩:∃ L1,L1=Ln.layMods ms bt bf bd:=⟨_,rfl⟩
 have HL1:=hid hL1
 rw [← hL1] at LL
 clear h hn hv hL1
 unfold ptrV
 go_enter Tryz.func65,Tryz.ntmps65
 go_wp2
 go_quiet (fail)
 have HW1:=hid (H0.out.kept (grown_drewN (World.grownBy.refl W none) nq))
 go_wp2
 generalize W.drewN nq=W1 at *
 clear c0 c1 c2 c3 H0
 go_loopw [2,3,4,30] (fun vt vf vd i wr=>∃ (k:Nat) (t f d:Int),k≤bl.length∧i = .int .i64 k∧vt = .int .i64 t∧vf = .int .i64 f∧vd = .int .i64 d∧ProgF Wf W0 P bt bf bd (.slice am bl.length cm) bl gl (L1.take k ++ ms.drop k) st no wr∧L1.drop k=Ln.layMods (ms.drop k) t f d∧Ln.dataEnd ms bd=Ln.dataEnd (ms.drop k) d∧(0≤t∧t≤4294967296+5000 * k)∧(0≤f∧f≤4294967296+5000 * k)∧(0≤d∧d≤4294967296+5000 * k)) (fun _ _ _ i _=>bl.length - (intOf i).toNat)
 case atStart=>exact ⟨0,bt,bf,bd,Nat.zero_le _,rfl,rfl,rfl,rfl,by simpa using HW1.out,by rw [HL1.out]; rfl,rfl,by omega,by omega,by omega⟩
 case round =>
  obtain ⟨k,t,f,d,hk,rfl,rfl,rfl,rfl,hpa,hld,hde,ht,hf,hd⟩:=hrel
  have HP:=hid hpa
  have HLD:=hid hld
  have HDE:=hid hde
  clear hpa hld hde HW1
  by_cases hlt:k < bl.length
  ·have hko:k < ms.length:=by rw [LO.out]; exact hlt
   have hkg:k < gl.length:=by rw [HP.out.lenG]; exact hlt
   have hkL:k < L1.length:=by rw [LL.out]; exact hko
   obtain ⟨sg,off,hsg,hsc⟩:=HP.out.modsIn.ptrs (by omega)
   have ck:=hsc k hlt
   have HM:ModAt wr bl bl[k] (gl[k]'hkg) ms[k]:=by
    have:=HP.out.mods k hlt
    rwa [step_at ms L1 k hko (by rw [LL.out]; omega)] at this
   have MV:=HV.out _ (List.getElem_mem hko)
   have MN:=HN.out _ (List.getElem_mem hko)
   have R1:=lay_range MV 1 (.inl rfl) t ht.1 (by omega)
   have R2:=lay_range MV 2 (.inr rfl) f hf.1 (by omega)
   have UP:=hid (fun (w2:World) (hg:wr.grownBy w2 (some bl[k])) (hm:ModAt w2 bl bl[k] (gl[k]'hkg) (Ln.layOne ms[k] t f d))=>show ProgF Wf W0 P bt bf bd (.slice am bl.length cm) bl gl (L1.take (k+1) ++ ms.drop (k+1)) st no w2∧L1.drop (k+1)=Ln.layMods (ms.drop (k+1)) (Ln.layEnd ms[k] 1 t) (Ln.layEnd ms[k] 2 f) (Ln.rup d (Ln.border ms[k].obj 3)+4 * ms[k].obj.data.length)∧Ln.dataEnd ms bd=Ln.dataEnd (ms.drop (k+1)) (Ln.rup d (Ln.border ms[k].obj 3)+4 * ms[k].obj.data.length) from by
    have e:=HLD.out
    rw [List.drop_eq_getElem_cons hko] at e
    obtain ⟨e1,e2⟩:=drop_head hkL e
    refine ⟨?_,e2,?_⟩
    ·rw [← step_list ms L1 k hko hkL LL.out,e1]
     exact HP.out.upd hlt (by rw [HP.out.lenO]; exact hlt) hg hm (by rw [step_at ms L1 k hko (by rw [LL.out]; omega)]; rfl)
    ·have e3:=HDE.out
     rw [List.drop_eq_getElem_cons hko] at e3
     exact e3)
   have g1:(k:Int) < (bl.length:Int):=by omega
   have RD:=rup_range d (Ln.border ms[k].obj 3) hd.1 (by omega) (borderI_vals _)
   have BV:Ln.border ms[k].obj 3=4∨Ln.border ms[k].obj 3=8∨Ln.border ms[k].obj 3=16:=borderI_vals _
   have hdl:ms[k].obj.data.length≤64:=MV.1.1.2.2
   clear hsc HP HLD HDE
   generalize ms[k]=m at *
   generalize hgk:(gl[k]'hkg)=gk at *
   generalize hbk:bl[k]=bk at *
   have cL1:=hid (layCode_any bl bk gk bl.length m 1 t wr HM MN MV (.inl rfl) ht.1 (by omega))
   have cL2:=hid (fun W2 (h2:ModAt W2 bl bk gk { m with text:=Ln.layPlaces m 1 t })=>layCode_any bl bk gk bl.length _ 2 f W2 h2 (MN.setText (by omega) (fun p hp=>by have:=R1.2.2 p hp; omega)) MV (.inr rfl) hf.1 (by omega))
   have cB:=hid (fun W2 (h2:ObjAt W2 gk m.obj)=>border_any gk m.obj 3 W2 h2 MV.2.1 (by omega) (by omega))
   have cU:=hid (fun W2=>roundUp_any d (Ln.border m.obj 3) W2 hd.1 (by omega) (by omega) (by omega))
   have cN:=hid (fun W2 (h2:ObjAt W2 gk m.obj)=>lengthOf_any gk m.obj 3 W2 h2 (valid_small MV) MV.1.2.1)
   subst hsg
   unfold ptrV at *
   go_wp2_with fail
   refine cL1.out.mono ?_
   rintro e W2 ⟨rfl,g2,m2⟩
   have M2:=hid (show ModAt W2 bl bk gk { m with text:=Ln.layPlaces m 1 t } from m2)
   have GG2:=hid g2
   clear g2 m2 cL1
   go_wp2_with fail
   refine (cL2.out _ M2.out).mono ?_
   rintro e W3 ⟨rfl,g3,m3⟩
   have EL:Ln.layEnd { m with text:=Ln.layPlaces m 1 t } 2 f=Ln.layEnd m 2 f:=layEnd_same (m:=m) (m':={ m with text:=Ln.layPlaces m 1 t }) rfl rfl 2 f
   rw [EL]
   have M3:=hid (show ModAt W3 bl bk gk { m with text:=Ln.layPlaces m 1 t,far:=Ln.layPlaces m 2 f } by
    have e:Ln.layPlaces { m with text:=Ln.layPlaces m 1 t } 2 f=Ln.layPlaces m 2 f:=layPlaces_same (m:=m) (m':={ m with text:=Ln.layPlaces m 1 t }) rfl rfl 2 f
    rw [e] at m3
    exact m3)
   have GG3:=hid (GG2.out.trans g3)
   clear g3 m3 cL2 EL GG2 M2
   have k0:W3.cell? ⟨bk,0,none⟩=some (.pointer (some ⟨gk,0,none⟩)):=by obtain ⟨u1,u2,u3,u4,q0,-⟩:=M3.out; exact q0.cell 0
   have k5:W3.cell? ⟨bk,5,none⟩=some (.int .i64 m.data):=by obtain ⟨u1,u2,u3,u4,q0,-⟩:=M3.out; exact q0.cell 5
   have f5:W3.frozen? ⟨bk,5,none⟩=false:=by obtain ⟨u1,u2,u3,u4,q0,-⟩:=M3.out; exact q0.free 5
   have o3:Hid (ObjAt W3 gk m.obj):=by obtain ⟨u1,u2,u3,u4,q0,q1,-⟩:=M3.out; exact q1
   go_wp2_with fail
   refine (cB.out _ o3.out).mono ?_
   rintro e w' ⟨rfl,hw⟩
   rw [hw]
   clear hw w'
   go_wp2_with fail
   refine (cU.out _).mono ?_
   rintro e w' ⟨rfl,hw⟩
   rw [hw]
   clear hw w'
   generalize hru:Ln.rup d (Ln.border m.obj 3)=rd at *
   have HRU:=hid hru
   clear hru
   have M4:=hid (M3.out.setData rd)
   have GG4:=hid (GG3.out.trans (grown_set W3 bk 5 (.int .i64 rd)))
   go_wp2
   clear k0 k5 f5 o3 M3 GG3 cB cU
   generalize W3.setCell ⟨bk,5,none⟩ (.int .i64 rd)=W4 at *
   have k0:W4.cell? ⟨bk,0,none⟩=some (.pointer (some ⟨gk,0,none⟩)):=by obtain ⟨u1,u2,u3,u4,q0,-⟩:=M4.out; exact q0.cell 0
   have k5:W4.cell? ⟨bk,5,none⟩=some (.int .i64 rd):=by obtain ⟨u1,u2,u3,u4,q0,-⟩:=M4.out; exact q0.cell 5
   have O4:Hid (ObjAt W4.drew gk m.obj):=by obtain ⟨u1,u2,u3,u4,q0,q1,-⟩:=M4.out; exact q1.kept (grown_drew (World.grownBy.refl _ _))
   have es:seclen m.obj 3=m.obj.data.length:=rfl
   rw [es] at cN
   have w1:IntKind.i64.wrap (rd+4 * (m.obj.data.length:Int))=rd+4 * m.obj.data.length:=IntWalk.i64_in _ ⟨by omega,by omega⟩
   go_region_held3 (fun w'=>w'.cell? ⟨bk,0,none⟩=some (.pointer (some ⟨gk,0,none⟩))∧w'.cell? ⟨bk,5,none⟩=some (.int .i64 rd))
    (go_keep)
    (first | (go_at_call 96; refine (cN.out _ O4.out).mono ?_; rintro e w' ⟨rfl,hw⟩; rw [hw]; clear hw w'))
   have UQ:=hid (UP.out W4.drew (grown_drew GG4.out) (by
    have:=M4.out.kept (grown_drew (World.grownBy.refl W4 none))
    rw [← HRU.out] at this
    exact this))
   clear UP M4 GG4 cN O4
   go_wp2
   go_roundw
   case rel=>exact ⟨k+1,_,_,_,by omega,by go_num,rfl,rfl,rfl,UQ.out.1,UQ.out.2.1,UQ.out.2.2,by omega,by omega,by omega⟩
   case measure=>simp [intOf]; omega
  ·obtain rfl:k=bl.length:=by omega
   have g3:decide ((bl.length:Int) < (bl.length:Int))=false:=by simp
   have HP1:=hid (show ProgF Wf W0 P bt bf bd (.slice am bl.length cm) bl gl L1 st no wr by
    have:=HP.out
    rwa [List.drop_of_length_le (by rw [LO.out]; exact Nat.le_refl _),List.append_nil,List.take_of_length_le (by rw [LL.out,LO.out]; exact Nat.le_refl _)] at this)
   have DE:=hid (show Ln.dataEnd ms bd=d by rw [HDE.out,List.drop_of_length_le (by rw [LO.out]; exact Nat.le_refl _)]; rfl)
   have c3:wr.cell? ⟨P,3,none⟩=some (.slice am bl.length cm):=HP1.out.blk.cell 3
   have L2L:=hid (layBss_len L1 d)
   obtain ⟨L2,hL2⟩:∃ L2,L2=Ln.layBss L1 d:=⟨_,rfl⟩
   have HL2:=hid hL2
   rw [← hL2] at L2L
   have OV:=hid (show ∀ i (h:i < L1.length),Valid L1[i].obj from fun i h=>by
    have e:L1.map Ln.Mod.obj=ms.map Ln.Mod.obj:=by rw [HL1.out]; exact layMods_obj ms bt bf bd
    have:L1[i].obj∈ms.map Ln.Mod.obj:=by rw [← e]; exact List.mem_map_of_mem (List.getElem_mem h)
    obtain ⟨x,hx,e2⟩:=List.mem_map.1 this
    rw [← e2]
    exact HV.out x hx)
   have FIN:=hid (show Ln.lay bt bf bd ms=L2∧Ln.noughts bd ms=(Ln.bssEnd L1 d - d) / 4 by
    unfold Ln.lay Ln.noughts
    rw [DE.out,← HL1.out,← HL2.out]
    refine ⟨rfl,?_⟩
    rw [bssEnd_same ms L1 d (by rw [HL1.out]; exact layMods_obj ms bt bf bd)])
   clear hL2 HP HLD HDE
   go_wp2
   generalize wr=V1 at *
   clear c3
   go_loopw [7,67] (fun vb i wr=>∃ (k:Nat) (b:Int),k≤bl.length∧i = .int .i64 k∧vb = .int .i64 b∧ProgF Wf W0 P bt bf bd (.slice am bl.length cm) bl gl (L2.take k ++ L1.drop k) st no wr∧L2.drop k=Ln.layBss (L1.drop k) b∧Ln.bssEnd L1 d=Ln.bssEnd (L1.drop k) b∧(d≤b∧b≤4294967296+5000 * bl.length+5000 * k)) (fun _ i _=>bl.length - (intOf i).toNat)
   case atStart=>exact ⟨0,d,Nat.zero_le _,rfl,rfl,by simpa using HP1.out,by rw [HL2.out]; rfl,rfl,Int.le_refl _,by omega⟩
   case round =>
    obtain ⟨k,b,hk2,rfl,rfl,hpa,hld,hbe,hb⟩:=hrel
    have HP:=hid hpa
    have HLD:=hid hld
    have HBE:=hid hbe
    clear hpa hld hbe HP1
    by_cases hlt:k < bl.length
    ·have hkL:k < L1.length:=by rw [LL.out,LO.out]; exact hlt
     have hkg:k < gl.length:=by rw [HP.out.lenG]; exact hlt
     have hk2L:k < L2.length:=by rw [L2L.out]; exact hkL
     obtain ⟨sg,off,hsg,hsc⟩:=HP.out.modsIn.ptrs (by omega)
     have ck:=hsc k hlt
     have HM:ModAt wr bl bl[k] (gl[k]'hkg) L1[k]:=by
      have:=HP.out.mods k hlt
      rwa [step_at L1 L2 k hkL (by rw [L2L.out]; omega)] at this
     have MV:=OV.out k hkL
     have UP:=hid (fun (w2:World) (hg:wr.grownBy w2 (some bl[k])) (hm:ModAt w2 bl bl[k] (gl[k]'hkg) { L1[k] with bss:=Ln.rup b (Ln.border L1[k].obj 4) })=>show ProgF Wf W0 P bt bf bd (.slice am bl.length cm) bl gl (L2.take (k+1) ++ L1.drop (k+1)) st no w2∧L2.drop (k+1)=Ln.layBss (L1.drop (k+1)) (Ln.rup b (Ln.border L1[k].obj 4)+4 * L1[k].obj.bss)∧Ln.bssEnd L1 d=Ln.bssEnd (L1.drop (k+1)) (Ln.rup b (Ln.border L1[k].obj 4)+4 * L1[k].obj.bss) from by
      have e:=HLD.out
      rw [List.drop_eq_getElem_cons hkL] at e
      obtain ⟨e1,e2⟩:=drop_head hk2L e
      refine ⟨?_,e2,?_⟩
      ·rw [← step_list L1 L2 k hkL hk2L L2L.out,e1]
       exact HP.out.upd hlt (by rw [HP.out.lenO]; exact hlt) hg hm (by rw [step_at L1 L2 k hkL (by rw [L2L.out]; omega)])
      ·have e3:=HBE.out
       rw [List.drop_eq_getElem_cons hkL] at e3
       exact e3)
     have g1:(k:Int) < (bl.length:Int):=by omega
     have RD:=rup_range b (Ln.border L1[k].obj 4) (by omega) (by omega) (borderI_vals _)
     have BV:Ln.border L1[k].obj 4=4∨Ln.border L1[k].obj 4=8∨Ln.border L1[k].obj 4=16:=borderI_vals _
     have hdl:=MV.1.2.1
     clear hsc HP HLD HBE
     generalize L1[k]=m at *
     generalize hgk:(gl[k]'hkg)=gk at *
     generalize hbk:bl[k]=bk at *
     have cB:=hid (fun W2 (h2:ObjAt W2 gk m.obj)=>border_any gk m.obj 4 W2 h2 MV.2.1 (by omega) (by omega))
     have cU:=hid (fun W2=>roundUp_any b (Ln.border m.obj 4) W2 (by omega) (by omega) (by omega) (by omega))
     have cN:=hid (fun W2 (h2:ObjAt W2 gk m.obj)=>lengthOf_any gk m.obj 4 W2 h2 (valid_small MV) MV.1.2.1)
     subst hsg
     have M3:=hid HM
     clear HM
     have k0:wr.cell? ⟨bk,0,none⟩=some (.pointer (some ⟨gk,0,none⟩)):=by obtain ⟨u1,u2,u3,u4,q0,-⟩:=M3.out; exact q0.cell 0
     have k6:wr.cell? ⟨bk,6,none⟩=some (.int .i64 m.bss):=by obtain ⟨u1,u2,u3,u4,q0,-⟩:=M3.out; exact q0.cell 6
     have f6:wr.frozen? ⟨bk,6,none⟩=false:=by obtain ⟨u1,u2,u3,u4,q0,-⟩:=M3.out; exact q0.free 6
     have o3:Hid (ObjAt wr gk m.obj):=by obtain ⟨u1,u2,u3,u4,q0,q1,-⟩:=M3.out; exact q1
     unfold ptrV at *
     go_wp2_with fail
     refine (cB.out _ o3.out).mono ?_
     rintro e w' ⟨rfl,hw⟩
     rw [hw]
     clear hw w'
     go_wp2_with fail
     refine (cU.out _).mono ?_
     rintro e w' ⟨rfl,hw⟩
     rw [hw]
     clear hw w'
     generalize hru:Ln.rup b (Ln.border m.obj 4)=rd at *
     have M4:=hid (M3.out.setBss rd)
     have GG4:=hid (grown_set wr bk 6 (.int .i64 rd))
     clear hru
     go_wp2
     clear k0 k6 f6 o3 M3 cB cU ck
     generalize wr.setCell ⟨bk,6,none⟩ (.int .i64 rd)=W4 at *
     have k0:W4.cell? ⟨bk,0,none⟩=some (.pointer (some ⟨gk,0,none⟩)):=by obtain ⟨u1,u2,u3,u4,q0,-⟩:=M4.out; exact q0.cell 0
     have k6:W4.cell? ⟨bk,6,none⟩=some (.int .i64 rd):=by obtain ⟨u1,u2,u3,u4,q0,-⟩:=M4.out; exact q0.cell 6
     have O4:Hid (ObjAt W4.drew gk m.obj):=by obtain ⟨u1,u2,u3,u4,q0,q1,-⟩:=M4.out; exact q1.kept (grown_drew (World.grownBy.refl _ _))
     have es:seclen m.obj 4=m.obj.bss:=rfl
     rw [es] at cN
     have w1:IntKind.i64.wrap (rd+4 * m.obj.bss)=rd+4 * m.obj.bss:=IntWalk.i64_in _ ⟨by omega,by omega⟩
     go_region_held3 (fun w'=>w'.cell? ⟨bk,0,none⟩=some (.pointer (some ⟨gk,0,none⟩))∧w'.cell? ⟨bk,6,none⟩=some (.int .i64 rd))
      (go_keep)
      (first | (go_at_call 96; refine (cN.out _ O4.out).mono ?_; rintro e w' ⟨rfl,hw⟩; rw [hw]; clear hw w'))
     have UQ:=hid (UP.out W4.drew (grown_drew GG4.out) (M4.out.kept (grown_drew (World.grownBy.refl W4 none))))
     clear UP M4 GG4 cN O4
     go_wp2
     go_roundw
     case rel=>exact ⟨k+1,_,by omega,by go_num,rfl,UQ.out.1,UQ.out.2.1,UQ.out.2.2,by omega,by omega⟩
     case measure=>simp [intOf]; omega
    ·obtain rfl:k=bl.length:=by omega
     have g3:decide ((bl.length:Int) < (bl.length:Int))=false:=by simp
     have HP2:=hid (show ProgF Wf W0 P bt bf bd (.slice am bl.length cm) bl gl L2 st no wr by
      have:=HP.out
      rwa [List.drop_of_length_le (by rw [LL.out,LO.out]; exact Nat.le_refl _),List.append_nil,List.take_of_length_le (by rw [L2L.out,LL.out,LO.out]; exact Nat.le_refl _)] at this)
     have BE:=hid (show Ln.bssEnd L1 d=b by rw [HBE.out,List.drop_of_length_le (by rw [LL.out,LO.out]; exact Nat.le_refl _)]; rfl)
     have w1:IntKind.i64.wrap (b - d)=b - d:=IntWalk.i64_in _ ⟨by omega,by omega⟩
     have c7:wr.cell? ⟨P,7,none⟩=some (.int .i64 no):=HP2.out.blk.cell 7
     have f7:=HP2.out.blk.free 7
     have HF:=hid (HP2.out.nought (no':=(b - d) / 4))
     have ed:Int.tdiv (b - d) 4=(b - d) / 4:=Int.tdiv_eq_ediv_of_nonneg (by omega)
     clear HP HLD HBE HP2
     go_wp2
     go_end0
     rw [FIN.out.1,FIN.out.2,BE.out]
     exact ⟨rfl,HF.out⟩

end Go.Proofs.YtnfgdlkiialnnaaGreatDoor

namespace Go.Proofs.YtnfgdlkiialnnaaGreatDoor
open Go.RowKit

theorem Tryz.infoBool:(Tryz.prog.info? 4).map (fun i=>(i.zero,i.size,i.bytes))=some (some (.bool false),1,1):=by kernel_rfl

namespace Ln
def unshort (m:Mod):Mod:={ m with short:=[] }
end Ln
theorem address_unshort (m:Ln.Mod) (s o:Int):Ln.address (Ln.unshort m) s o=Ln.address m s o:=rfl
theorem spotAddr_same {ms ms':List Ln.Mod} (h:ms'.map Ln.unshort=ms.map Ln.unshort) (s:Ln.Spot):Ln.spotAddr ms' s=Ln.spotAddr ms s:=by
 unfold Ln.spotAddr
 cases s.mod with
 | none=>rfl
 | some i =>
  dsimp only
  have e:(ms'[i]?).map Ln.unshort=(ms[i]?).map Ln.unshort:=by rw [← List.getElem?_map,← List.getElem?_map,h]
  cases h1:ms'[i]? with
  | none =>
   cases h2:ms[i]? with
   | none=>rfl
   | some y=>rw [h1,h2] at e; simp at e
  | some x =>
   cases h2:ms[i]? with
   | none=>rw [h1,h2] at e; simp at e
   | some y =>
    rw [h1,h2] at e
    simp only [Option.map_some,Option.some.injEq] at e
    dsimp only
    rw [← address_unshort x,e,address_unshort]
theorem distance_same {ms ms':List Ln.Mod} {m m':Ln.Mod} (h:ms'.map Ln.unshort=ms.map Ln.unshort) (hm:Ln.unshort m'=Ln.unshort m) (r:Lk.Rel):Ln.distance ms' m' r=Ln.distance ms m r:=by
 have e1:m'.means=m.means:=show (Ln.unshort m').means=(Ln.unshort m).means by rw [hm]
 unfold Ln.distance Ln.target
 rw [e1,spotAddr_same h,← address_unshort m',hm,address_unshort]

/-- a module, of which calls it is being told whether they are short -/
structure ShortAt (WB:World) (bi:Nat) (g:Nat) (v1 v3 v4:Value) (d b:Int) (sl:List Value) (j:Nat) (vs:Value) (wr:World):Prop where
 gr:WB.grownBy wr (some bi)
 blk:BlkAt wr bi #[ptrV g,v1,vs,v3,v4,.int .i64 d,.int .i64 b] 122
 row:wr.ownsRow WB.heap.size 4 1 vs j sl
 nil:j=0→vs = .slice none 0 0
section
variable {WB V wr w3:World} {bi g j:Nat} {v1 v3 v4 vs v':Value} {d b:Int} {sl news:List Value}
theorem ShortAt.kept (h:ShortAt WB bi g v1 v3 v4 d b sl j vs wr) (hV:wr.grownBy V none):ShortAt WB bi g v1 v3 v4 d b sl j vs V :=
 ⟨h.gr.trans (hV.but _),h.blk.grown hV (by simp),h.row.kept hV (Decidable.em _),h.nil⟩
theorem ShortAt.step (h:ShortAt WB bi g v1 v3 v4 d b sl j vs V) (hown:w3.ownsRow WB.heap.size 4 1 v' (j+1) (sl ++ news)) (hg:V.grownBy w3 vs.ownBlock):ShortAt WB bi g v1 v3 v4 d b (sl ++ news) (j+1) v' (w3.setCell ⟨bi,2,none⟩ v'):=by
 have b3:=blk_ty h.blk hg (RowT.own h.row) (by decide)
 have gs:=grown_set w3 bi 2 v'
 refine ⟨(h.gr.andThen hg (fun k hk=>.inl (h.row.lt k hk).1)).trans gs,?_,own_ty hown gs (RowT.blk b3) (by decide),fun c=>by omega⟩
 simpa using b3.set 2 v'
theorem ShortAt.mod {m:Ln.Mod} {bl:List Nat} {l:List Bool} {cur:Array Value} (hq:BlkAt WB bi cur 122) (ho:ObjAt WB g m.obj) (q2:WB.ownsRow 0 115 3 v1 m.means.length (m.means.flatMap (spotL bl))) (q4:WB.ownsRow 0 3 1 v3 m.text.length (m.text.map (Value.int .i64))) (q5:WB.ownsRow 0 3 1 v4 m.far.length (m.far.map (Value.int .i64))) (q6:m.means=[]→v1 = .slice none 0 0) (h:ShortAt WB bi g v1 v3 v4 m.data m.bss (l.map Value.bool) l.length vs wr):ModAt wr bl bi g { m with short:=l }:=by
 have R:=RowT.blk hq
 exact ⟨_,_,_,_,h.blk,obj_ty ho h.gr R (by decide) (by decide) (by decide) (by decide),own_ty q2 h.gr R (by decide),own_nought h.row,own_ty q4 h.gr R (by decide),own_ty q5 h.gr R (by decide),q6,fun e=>h.nil (by simp only at e; rw [e]; rfl)⟩
end
theorem MNice.setShort {n:Nat} {m:Ln.Mod} (h:MNice n m) {l:List Bool} (hl:l.length≤65535):MNice n { m with short:=l }:=⟨h.text,h.far,h.data,h.bss,h.means,hl,h.rels⟩

end Go.Proofs.YtnfgdlkiialnnaaGreatDoor
