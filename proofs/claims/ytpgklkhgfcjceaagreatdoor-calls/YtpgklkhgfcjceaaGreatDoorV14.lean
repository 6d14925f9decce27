
import Derived.Test.YtpgklkhgfcjceaaGreatDoorV13
import Derived.Deep.CutRange
set_option maxHeartbeats 16000000
namespace Go.Proofs.YtpgklkhgfcjceaaGreatDoor
open Go.RowKit
set_option maxRecDepth 100000 in
theorem LX (a b:Int) (w:World) (h0:0<=a) (h1:a<=1125899906842624) (h2:1<=b) (h3:b<=16) :
  Calls Tryz.prog 105 #[.int .i64 a,.int .i64 b] w fun e w'=>e = .returned (.int .i64 (Ln.rup a b))/\w'=w:=by
 go_enter Tryz.func105,Tryz.ntmps105
 go_wp2
 go_ret
 exact ⟨rfl,rfl⟩
set_option maxRecDepth 100000 in
theorem UA (ao:Option Addr) (cap:Nat) (ps:List Int) (off:Int) (w:World) (h:yz w ao ps) (hl:ps.length<=65536) (h0:0<=off) (h1:off<=1125899906842624) :
  Calls Tryz.prog 169 #[.slice ao ps.length cap,.int .i64 off] w fun e w'=>e = .returned (.int .i64 (Ln.placeOf ps off))/\w'=w:=by
 obtain ⟨k,hk⟩:∃ k:Nat,Int.tdiv off 4=(k:Int):=⟨(Int.tdiv off 4).toNat,by rw [Int.tdiv_eq_ediv_of_nonneg h0]; omega⟩
 have hkb:(k:Int)<=1125899906842624:=by rw [<- hk,Int.tdiv_eq_ediv_of_nonneg h0]; omega
 have R:=hid (show Ln.placeOf ps off=ps.getD k 0 by unfold Ln.placeOf; rw [hk,if_neg (by omega)]; rfl)
 have d1:decide ((k:Int) < 0)=false:=by simp
 by_cases hlt:k < ps.length
 ·obtain ⟨sg,o2,rfl,hc⟩:=h (by omega)
  have ck:=hc k hlt
  have d2:decide ((ps.length:Int)<=(k:Int))=false:=by simp; omega
  have E:=hid (show Ln.placeOf ps off=ps[k] by rw [R.o,jY,jF hlt]; rfl)
  generalize ps[k]=x at *
  clear hc
  go_enter Tryz.func169,Tryz.ntmps169
  go_wp2
  go_ret
  exact ⟨by rw [E.o]; rfl,rfl⟩
 ·have d2:decide ((ps.length:Int)<=(k:Int))=true:=by simp; omega
  have E:=hid (show Ln.placeOf ps off=0 by rw [R.o,jY,List.getElem?_eq_none (by omega)]; rfl)
  clear h
  go_enter Tryz.func169,Tryz.ntmps169
  go_wp2
  go_ret
  exact ⟨by rw [E.o]; rfl,rfl⟩
set_option maxRecDepth 100000 in
theorem Ut (bl:List Nat) (b g:Nat) (m:Ln.Mod) (i:Int) (w:World) (h:yD w bl b g m) (h0:0<=i) (h1:i<=65535) (hl:m.short.length<=65535) :
  Calls Tryz.prog 172 #[aT b,.int .i64 i] w fun e w'=>e = .returned (.bool (Ln.bY m.short i))/\w'=w:=by
 obtain ⟨v1,v2,v3,v4,q0,q1,q2,q3,q4,q5,q6,q7⟩:=h
 obtain ⟨fU,cs,rfl⟩:=yh q3
 have k2:w.cell? ⟨b,2,none⟩=some (.slice fU m.short.length cs):=q0.cell 2
 unfold aT
 obtain ⟨k,rfl⟩:∃ k:Nat,i=(k:Int):=⟨i.toNat,by omega⟩
 have R:=hid (show Ln.bY m.short k=m.short.getD k false by unfold Ln.bY; simp)
 have d1:decide ((0:Int)<=(k:Int))=true:=by simp
 by_cases hlt:k < m.short.length
 ·obtain ⟨sg,rfl,-,-,-,hc⟩:=F4 q3 (by omega)
  have ck:=hc k hlt
  rw [List.getElem?_map,jF hlt] at ck
  have E:=hid (show Ln.bY m.short k=m.short[k] by rw [R.o,jY,jF hlt]; rfl)
  dsimp only [Option.map] at ck
  generalize m.short[k]=x at *
  have d2:decide ((k:Int) < (m.short.length:Int))=true:=by simp; omega
  clear hc q0 q1 q2 q3 q4 q5 q6 q7
  go_enter Tryz.func172,Tryz.ntmps172
  go_wp2
  go_ret
  exact ⟨by rw [E.o]; rfl,rfl⟩
 ·have d2:decide ((k:Int) < (m.short.length:Int))=false:=by simp; omega
  have E:=hid (show Ln.bY m.short k=false by rw [R.o,jY,List.getElem?_eq_none (by omega)]; rfl)
  clear q0 q1 q2 q3 q4 q5 q6 q7
  go_enter Tryz.func172,Tryz.ntmps172
  go_wp2
  go_ret
  exact ⟨by rw [E.o]; rfl,rfl⟩
theorem ykk (ah off:Int) (rs:List Lk.Rel) (k:Nat) (h:k < rs.length):Ln.aM ah off k (rs.drop k)=if rs[k].ah=ah/\rs[k].off<=off/\off < rs[k].off+4 * mU rs[k] then ((k:Int),rs[k]) else Ln.aM ah off (k+1) (rs.drop (k+1)):=by
 rw [kP h]
 rfl
theorem Pb {w V:World} (h:w.grownBy V none) (r:Nat) (hr:w.heap.size<=r) (a b c d e:Value):w.grownBy (((((V.setCell ⟨r,0,none⟩ a).setCell ⟨r,1,none⟩ b).setCell ⟨r,2,none⟩ c).setCell ⟨r,3,none⟩ d).setCell ⟨r,4,none⟩ e) none :=
 yN (yN (yx h r hr a b c) (yf _ r 3 d) (by intro k q; simp at q; omega)) (yf _ r 4 e) (by intro k q; simp at q; omega)
def VZ (r:Lk.Rel):Prop:=qz r/\-1125899906842624<=r.off/\r.off<=1125899906842624
set_option maxRecDepth 100000 in
theorem UD (bl:List Nat) (b g:Nat) (m:Ln.Mod) (ah off:Int) (w:World) (h:yD w bl b g m) (hr:∀ r∈m.obj.aj,VZ r) (hl:m.obj.aj.length<=65535) :
  Calls Tryz.prog 170 #[aT b,.int .i64 ah,.int .i64 off] w fun e w'=>e = .returned (.tuple #[.int .i64 (Ln.aM ah off 0 m.obj.aj).1,fB (Ln.aM ah off 0 m.obj.aj).2])/\w.grownBy w' none:=by
 have A0:=aH w (.cells #[.int .i64 0,.int .i64 0,.int .i64 0,.int .i64 0,.int .i64 0] 102) none
 have BR:=hid (yc.new w #[.int .i64 0,.int .i64 0,.int .i64 0,.int .i64 0,.int .i64 0] 102)
 have G0:=hid A0
 obtain ⟨v1,v2,v3,v4,q0,q1,-⟩:=h.kept A0
 obtain ⟨at_,ct,af,cf,ad,cd,aa,ca,fU,cs,ar,cr,hb,-,-,-,-,-,p6⟩:=q1.open
 have k6:=hb.cell 6
 simp only [bC,bG,bE] at k6
 have k0:=q0.cell 0
 simp only [bC,bE,aT] at k0
 have S:=hid (Az.aR p6)
 have cS:=hid (fun r W (h:VZ r)=>Ki r W h.1.six)
 unfold fB at cS
 clear q0 q1 hb p6 A0 h
 have HR:=hid hr
 have FD:=hid (show Ln.aM ah off 0 m.obj.aj=Ln.aM ah off 0 (m.obj.aj.drop 0) from rfl)
 generalize hN:Ln.aM ah off 0 m.obj.aj=N at *
 have HN:=hid hN
 clear hN hr
 generalize m.obj.aj=rs at *
 unfold aT
 go_enter Tryz.func170,Tryz.ntmps170
 go_wp2
 generalize w.alloc (.cells #[.int .i64 0,.int .i64 0,.int .i64 0,.int .i64 0,.int .i64 0] 102)=W1 at *
 clear k0 k6
 go_loopw [18] (fun i wr=>∃ k:Nat,k<=rs.length/\i = .int .i64 k/\N=Ln.aM ah off k (rs.drop k)/\W1.grownBy wr none) (fun i _=>rs.length - (intOf i).toNat)
 case atStart=>exact ⟨0,Nat.zero_le _,rfl,FD.o,World.grownBy.refl _ _⟩
 case round =>
  obtain ⟨k,hk,rfl,SX,hgr⟩:=hrel
  have HF:=hid SX
  have HG:=hid hgr
  clear SX hgr FD
  by_cases hlt:k < rs.length
  ·obtain ⟨sg,hsg,hgs,hcs⟩:=S.o.grown HG.o (by omega)
   subst hsg
   obtain ⟨q0,q1,q2,q3,q4⟩:=hcs k hlt
   clear hcs
   have g1:(k:Int) < (rs.length:Int):=by omega
   have TM:=HR.o _ (gW hlt)
   have FI:=hid (HF.o.trans (ykk ah off rs k hlt))
   have cY:=hid (fun W=>cS.o rs[k] W TM)
   have hof:=TM.2
   have hsp:=Al TM.1
   generalize mU rs[k]=sp at *
   generalize rs[k]=r at *
   clear TM
   have A2:=aH wr (.cells #[.int .i64 r.ah,.int .i64 r.off,.int .i64 r.kind,.int .i64 r.sym,.int .i64 r.addend] 102) none
   have G2:=hid (ya HG.o A2)
   have BL:=hid (yc.new wr #[.int .i64 r.ah,.int .i64 r.off,.int .i64 r.kind,.int .i64 r.sym,.int .i64 r.addend] 102)
   have tL:=hid (BR.o.grown G2.o (by simp))
   clear A2
   go_upto_region 4 with fail
   clear q0 q1 q2 q3 q4
   generalize wr.alloc (.cells #[.int .i64 r.ah,.int .i64 r.off,.int .i64 r.kind,.int .i64 r.sym,.int .i64 r.addend] 102)=W2 at *
   have Rj:w.heap.size≠wr.heap.size:=by have:=BR.o.lt; have:=HG.o.size; omega
   generalize wr.heap.size=L at *
   have c0:W2.cell? ⟨L,0,none⟩=some (.int .i64 r.ah):=BL.o.cell 0
   have c1:W2.cell? ⟨L,1,none⟩=some (.int .i64 r.off):=BL.o.cell 1
   have c2:W2.cell? ⟨L,2,none⟩=some (.int .i64 r.kind):=BL.o.cell 2
   have c3:W2.cell? ⟨L,3,none⟩=some (.int .i64 r.sym):=BL.o.cell 3
   have c4:W2.cell? ⟨L,4,none⟩=some (.int .i64 r.addend):=BL.o.cell 4
   have BD:=hid (fun W (hq:W2.drew.grownBy W none)=>show yc W L #[.int .i64 r.ah,.int .i64 r.off,.int .i64 r.kind,.int .i64 r.sym,.int .i64 r.addend] 102 from (vM BL.o).grown hq (by simp))
   by_cases e1:r.ah=ah
   ·have d1:(r.ah == ah)=true:=by simpa using e1
    by_cases e2:r.off<=off
    ·have d2:decide (r.off<=off)=true:=by simpa using e2
     have Gp:=hid (And.intro e1 e2)
     have w1:IntKind.i64.wrap (4 * sp)=4 * sp:=IntWalk.i64_in _ ⟨by omega,by omega⟩
     have w2:IntKind.i64.wrap (r.off+4 * sp)=r.off+4 * sp:=IntWalk.i64_in _ ⟨by omega,by omega⟩
     clear e1 e2
     go_region_held3 (fun w'=>w'.cell? ⟨L,0,none⟩=some (.int .i64 r.ah)/\w'.cell? ⟨L,1,none⟩=some (.int .i64 r.off)/\w'.cell? ⟨L,2,none⟩=some (.int .i64 r.kind)/\w'.cell? ⟨L,3,none⟩=some (.int .i64 r.sym)/\w'.cell? ⟨L,4,none⟩=some (.int .i64 r.addend))
      (go_keep)
      (first | (go_at_call 209; refine (cY.o _).mono ?_; rintro e w' ⟨rfl,hq⟩; have bq:=BD.o _ hq; have s0:=bq.cell 0; have s1:=bq.cell 1; have s2:=bq.cell 2; have s3:=bq.cell 3; have s4:=bq.cell 4; simp only [bC,bG,bE] at s0 s1 s2 s3 s4))
     have GQ:=hid (ya (yi G2.o) hq)
     have BQ:=hid ((vM tL.o).grown hq (by simp))
     have LQ:=hid bq
     clear hq bq c0 c1 c2 c3 c4
     by_cases e3:off < r.off+4 * sp
     ·have d3:decide (off < r.off+4 * sp)=true:=by simpa using e3
      have E:=hid (show N=((k:Int),r) by rw [FI.o,if_pos ⟨Gp.o.1,Gp.o.2,e3⟩])
      have z0:w'.cell? ⟨w.heap.size,0,none⟩=some (.int .i64 0):=BQ.o.cell 0
      have z1:w'.cell? ⟨w.heap.size,1,none⟩=some (.int .i64 0):=BQ.o.cell 1
      have z2:w'.cell? ⟨w.heap.size,2,none⟩=some (.int .i64 0):=BQ.o.cell 2
      have z3:w'.cell? ⟨w.heap.size,3,none⟩=some (.int .i64 0):=BQ.o.cell 3
      have z4:w'.cell? ⟨w.heap.size,4,none⟩=some (.int .i64 0):=BQ.o.cell 4
      have f0:=BQ.o.free 0
      have f1:=BQ.o.free 1
      have f2:=BQ.o.free 2
      have f3:=BQ.o.free 3
      have f4:=BQ.o.free 4
      go_wp2
      go_region_held3 (fun w'=>w'.cell? ⟨L,0,none⟩=some (.int .i64 r.ah)/\w'.cell? ⟨L,1,none⟩=some (.int .i64 r.off)/\w'.cell? ⟨L,2,none⟩=some (.int .i64 r.kind)/\w'.cell? ⟨L,3,none⟩=some (.int .i64 r.sym)/\w'.cell? ⟨L,4,none⟩=some (.int .i64 r.addend))
       (go_keep)
       (fail)
      go_wp2
      have F:=vM (((((BQ.o.set 0 (.int .i64 r.ah)).set 1 (.int .i64 r.off)).set 2 (.int .i64 r.kind)).set 3 (.int .i64 r.sym)).set 4 (.int .i64 r.addend))
      have h0:=F.cell 0
      have h1:=F.cell 1
      have h2:=F.cell 2
      have h3:=F.cell 3
      have h4:=F.cell 4
      simp only [fQ,fT,fP,bC,bG,bE] at h0 h1 h2 h3 h4
      refine bodyPost_ret (v:=.tuple #[.int .i64 k,fB r]) ?_ rfl ⟨by rw [E.o],yi (Pb (ya G0.o GQ.o) _ (Nat.le_refl _) _ _ _ _ _)⟩
      clear F z0 z1 z2 z3 z4 f0 f1 f2 f3 f4 s0 s1 s2 s3 s4
      generalize World.drew _=WF at *
      simp [results,Tryz.results170,go_sem,fB,h0,h1,h2,h3,h4]
     ·have d3:decide (off < r.off+4 * sp)=false:=by simpa using e3
      have E:=hid (show N=Ln.aM ah off (k+1) (rs.drop (k+1)) by rw [FI.o,if_neg (fun c=>e3 c.2.2)])
      go_wp2
      go_roundw
      case rel=>exact ⟨k+1,by omega,by go_num,E.o,GQ.o⟩
      case measure=>simp [intOf]; omega
    ·have d2:decide (r.off<=off)=false:=by simpa using e2
     have E:=hid (show N=Ln.aM ah off (k+1) (rs.drop (k+1)) by rw [FI.o,if_neg (fun c=>e2 c.2.1)])
     clear e2 e1
     go_quiet (fail)
     go_wp2
     go_roundw
     case rel=>exact ⟨k+1,by omega,by go_num,E.o,ye G2.o _⟩
     case measure=>simp [intOf]; omega
   ·have d1:(r.ah == ah)=false:=by simpa using e1
    have E:=hid (show N=Ln.aM ah off (k+1) (rs.drop (k+1)) by rw [FI.o,if_neg (fun c=>e1 c.1)])
    clear e1
    go_quiet (fail)
    go_wp2
    go_roundw
    case rel=>exact ⟨k+1,by omega,by go_num,E.o,ye G2.o _⟩
    case measure=>simp [intOf]; omega
  ·obtain rfl:k=rs.length:=by omega
   have g3:decide ((rs.length:Int) < (rs.length:Int))=false:=by simp
   have E:=hid (show N=(0,⟨0,0,0,0,0⟩) by rw [HF.o,List.drop_length]; rfl)
   have rU:=hid (BR.o.grown HG.o (by simp))
   have G3:=hid (ya G0.o HG.o)
   have z0:wr.cell? ⟨w.heap.size,0,none⟩=some (.int .i64 0):=rU.o.cell 0
   have z1:wr.cell? ⟨w.heap.size,1,none⟩=some (.int .i64 0):=rU.o.cell 1
   have z2:wr.cell? ⟨w.heap.size,2,none⟩=some (.int .i64 0):=rU.o.cell 2
   have z3:wr.cell? ⟨w.heap.size,3,none⟩=some (.int .i64 0):=rU.o.cell 3
   have z4:wr.cell? ⟨w.heap.size,4,none⟩=some (.int .i64 0):=rU.o.cell 4
   have f0:=rU.o.free 0
   have f1:=rU.o.free 1
   have f2:=rU.o.free 2
   have f3:=rU.o.free 3
   have f4:=rU.o.free 4
   go_wp2
   have F:=((((rU.o.set 0 (.int .i64 0)).set 1 (.int .i64 0)).set 2 (.int .i64 0)).set 3 (.int .i64 0)).set 4 (.int .i64 0)
   have h0:=F.cell 0
   have h1:=F.cell 1
   have h2:=F.cell 2
   have h3:=F.cell 3
   have h4:=F.cell 4
   simp only [fQ,fT,fP,bC,bG,bE] at h0 h1 h2 h3 h4
   refine bodyPost_ret (v:=.tuple #[.int .i64 0,fB ⟨0,0,0,0,0⟩]) ?_ rfl ⟨by rw [E.o],Pb G3.o _ (Nat.le_refl _) _ _ _ _ _⟩
   clear F z0 z1 z2 z3 z4 f0 f1 f2 f3 f4
   generalize World.setCell _ _ _=WF at *
   simp [results,Tryz.results170,go_sem,fB,h0,h1,h2,h3,h4]
structure yH (n:Nat) (m:Ln.Mod):Prop where
 text:m.text.length<=65536/\∀ p∈m.text,0<=p/\p<=1125899906842624
 far:m.far.length<=65536/\∀ p∈m.far,0<=p/\p<=1125899906842624
 data:0<=m.data/\m.data<=1125899906842624
 bss:0<=m.bss/\m.bss<=1125899906842624
 means:m.means.length<=65535/\∀ s∈m.means,(0<=s.off/\s.off<=1125899906842624)/\∀ i,s.mod=some i->i < n
 short:m.short.length<=65535
 aj:m.obj.aj.length<=65535/\∀ r∈m.obj.aj,qz r/\0<=r.off/\r.off<=1125899906842624
theorem Uh (ps:List Int) (off:Int) (h:∀ p∈ps,0<=p/\p<=1125899906842624):0<=Ln.placeOf ps off/\Ln.placeOf ps off<=1125899906842624:=by
 unfold Ln.placeOf
 split
 ·omega
 ·rw [jY]
  cases e:ps[(off.tdiv 4).toNat]? with
  | none=>simp
  | some p=>exact h p (List.mem_of_getElem? e)
theorem T9 {n:Nat} {m:Ln.Mod} (h:yH n m) (ah off:Int) (h0:0<=off) (h1:off<=1125899906842624):0<=Ln.address m ah off/\Ln.address m ah off<=2251799813685248:=by
 have a:=Uh m.text off h.text.2
 have b:=Uh m.far off h.far.2
 have c:=h.data
 have d:=h.bss
 unfold Ln.address
 repeat' split
 all_goals omega
set_option maxRecDepth 100000 in
theorem yet (bl:List Nat) (b g n:Nat) (m:Ln.Mod) (ah off:Int) (w:World) (h:yD w bl b g m) (hm:yH n m) (h0:0<=off) (h1:off<=1125899906842624) :
  Calls Tryz.prog 108 #[aT b,.int .i64 ah,.int .i64 off] w fun e w'=>e = .returned (.int .i64 (Ln.address m ah off))/\w'=w:=by
 obtain ⟨v1,v2,v3,v4,q0,-,-,-,q4,q5,-⟩:=h
 obtain ⟨at_,ct,rfl⟩:=yh q4
 obtain ⟨af,cf,rfl⟩:=yh q5
 have k3:w.cell? ⟨b,3,none⟩=some (.slice at_ m.text.length ct):=q0.cell 3
 have k4:w.cell? ⟨b,4,none⟩=some (.slice af m.far.length cf):=q0.cell 4
 have k5:w.cell? ⟨b,5,none⟩=some (.int .i64 m.data):=q0.cell 5
 have k6:w.cell? ⟨b,6,none⟩=some (.int .i64 m.bss):=q0.cell 6
 have cT:=hid (UA at_ ct m.text off w (yz.aR q4) hm.text.1 h0 h1)
 have cF:=hid (UA af cf m.far off w (yz.aR q5) hm.far.1 h0 h1)
 have hd:=hm.data
 have hb:=hm.bss
 clear q0 q4 q5 hm
 have R:=hid (show Ln.address m ah off=if ah=1 then Ln.placeOf m.text off else if ah=2 then Ln.placeOf m.far off else if ah=3 then m.data+off else if ah=4 then m.bss+off else 0 from rfl)
 generalize Ln.placeOf m.text off=pt at *
 generalize Ln.placeOf m.far off=pf at *
 generalize m.data=d at *
 generalize m.bss=z at *
 unfold aT
 by_cases e1:ah=1
 ·subst e1
  have E:=hid (show Ln.address m 1 off=pt by rw [R.o]; rfl)
  clear R
  go_enter Tryz.func108,Tryz.ntmps108
  go_wp2_with fail
  refine cT.o.mono ?_
  rintro e w2 ⟨rfl,rfl⟩
  go_wp2
  go_ret
  exact ⟨by rw [E.o]; rfl,rfl⟩
 by_cases e2:ah=2
 ·subst e2
  have E:=hid (show Ln.address m 2 off=pf by rw [R.o]; rfl)
  clear R
  go_enter Tryz.func108,Tryz.ntmps108
  go_wp2_with fail
  refine cF.o.mono ?_
  rintro e w2 ⟨rfl,rfl⟩
  go_wp2
  go_ret
  exact ⟨by rw [E.o]; rfl,rfl⟩
 by_cases e3:ah=3
 ·subst e3
  have E:=hid (show Ln.address m 3 off=d+off by rw [R.o]; rfl)
  have w1:IntKind.i64.wrap (d+off)=d+off:=IntWalk.i64_in _ ⟨by omega,by omega⟩
  clear R
  go_enter Tryz.func108,Tryz.ntmps108
  go_wp2
  go_ret
  exact ⟨by rw [E.o]; rfl,rfl⟩
 by_cases e4:ah=4
 ·subst e4
  have E:=hid (show Ln.address m 4 off=z+off by rw [R.o]; rfl)
  have w1:IntKind.i64.wrap (z+off)=z+off:=IntWalk.i64_in _ ⟨by omega,by omega⟩
  clear R
  go_enter Tryz.func108,Tryz.ntmps108
  go_wp2
  go_ret
  exact ⟨by rw [E.o]; rfl,rfl⟩
 have E:=hid (show Ln.address m ah off=0 by rw [R.o,if_neg e1,if_neg e2,if_neg e3,if_neg e4])
 have d1:(ah == 1)=false:=by simpa using e1
 have d2:(ah == 2)=false:=by simpa using e2
 have d3:(ah == 3)=false:=by simpa using e3
 have d4:(ah == 4)=false:=by simpa using e4
 clear R e1 e2 e3 e4
 go_enter Tryz.func108,Tryz.ntmps108
 go_wp2
 go_ret
 exact ⟨by rw [E.o]; rfl,rfl⟩
structure Bl (W:World) (bl:List Nat) (ms:List Ln.Mod):Prop where
 len:ms.length=bl.length
 at_:∀ i (h:i < bl.length),∃ g,yD W bl bl[i] g (ms[i]'(by rw [len]; exact h))
 nice:∀ m∈ms,yH bl.length m
theorem Bl.kept {W W':World} {bl:List Nat} {ms:List Ln.Mod} (h:Bl W bl ms) (hg:W.grownBy W' none):Bl W' bl ms :=
 ⟨h.len,fun i hi=>(h.at_ i hi).imp fun _ q=>q.kept hg,h.nice⟩
theorem ProgAt.uF {W0 W:World} {P:Nat} {bt bf bd:Int} {vm:Value} {bl gl:List Nat} {ms:List Ln.Mod} {st:Ln.gB} {no:Int} (h:ProgAt W0 P bt bf bd vm bl gl ms st no W) (hn:∀ m∈ms,yH bl.length m):Bl W bl ms :=
 ⟨h.gy,fun i hi=>⟨_,h.mods i hi⟩,hn⟩
def MJ (n:Nat) (s:Ln.gB):Prop:=(0<=s.off/\s.off<=1125899906842624)/\∀ i,s.mod=some i->i < n
theorem Z4 {n:Nat} {ms:List Ln.Mod} (hn:∀ m∈ms,yH n m) (s:Ln.gB) (hs:MJ n s):0<=Ln.bH ms s/\Ln.bH ms s<=2251799813685248:=by
 unfold Ln.bH
 cases s.mod with
 | none=>simp
 | some i =>
  dsimp only
  cases e:ms[i]? with
  | none=>simp
  | some m=>exact T9 (hn m (List.mem_of_getElem? e)) _ _ hs.1.1 hs.1.2
theorem ykD {n:Nat} {ms:List Ln.Mod} (hn:∀ m∈ms,yH n m) (m:Ln.Mod) (hm:yH n m) (r:Lk.Rel):0<=Ln.target ms m r/\Ln.target ms m r<=2251799813685248:=by
 unfold Ln.target
 split
 ·omega
 ·rename_i h
  have hlt:r.sym.toNat < m.means.length:=by omega
  rw [jY,jF hlt]
  exact Z4 hn _ (hm.means.2 _ (gW hlt))
set_option maxRecDepth 100000 in
theorem TH (bl:List Nat) (ms:List Ln.Mod) (s:Ln.gB) (w:World) (h:Bl w bl ms) (hs:MJ bl.length s) :
  Calls Tryz.prog 73 #[nI bl s] w fun e w'=>e = .returned (.int .i64 (Ln.bH ms s))/\w.grownBy w' none:=by
 obtain ⟨sm,ss,so⟩:=s
 have A0:=hid (aH w (.cells #[.pointer (lZ bl sm),.int .i64 ss,.int .i64 so] 123) none)
 cases sm with
 | none =>
  unfold nI
  dsimp only at *
  have P0:lZ bl none=none:=rfl
  rw [P0] at A0 ⊢
  go_enter Tryz.func73,Tryz.ntmps73
  go_wp2
  go_ret
  exact ⟨rfl,A0.o⟩
 | some i =>
  have hi:i < bl.length:=hs.2 i rfl
  have him:i < ms.length:=by rw [h.len]; exact hi
  obtain ⟨g,hm⟩:=h.at_ i hi
  have P0:=J9 hi
  have E:=hid (show Ln.bH ms ⟨some i,ss,so⟩=Ln.address ms[i] ss so by unfold Ln.bH; dsimp only; rw [jF him])
  unfold nI
  dsimp only at *
  rw [P0] at A0 ⊢
  have cA:=hid (yet bl bl[i] g bl.length ms[i] ss so _ (hm.kept A0.o) (h.nice _ (gW him)) hs.1.1 hs.1.2)
  unfold aT at cA
  clear hm h P0
  go_enter Tryz.func73,Tryz.ntmps73
  go_wp2_with fail
  refine cA.o.mono ?_
  rintro e w2 ⟨rfl,rfl⟩
  go_wp2
  go_ret
  exact ⟨by rw [E.o]; rfl,A0.o⟩
set_option maxRecDepth 100000 in
theorem Uu (bl:List Nat) (ms:List Ln.Mod) (b g:Nat) (m:Ln.Mod) (r:Lk.Rel) (w:World) (h:Bl w bl ms) (hm:yD w bl b g m) (hn:yH bl.length m) :
  Calls Tryz.prog 168 #[aT b,fB r] w fun e w'=>e = .returned (.int .i64 (Ln.target ms m r))/\w.grownBy w' none:=by
 obtain ⟨rs,ro,rk,ry,ra⟩:=r
 have A0:=hid (aH w (.cells #[.int .i64 rs,.int .i64 ro,.int .i64 rk,.int .i64 ry,.int .i64 ra] 102) none)
 have R:=hid (show Ln.target ms m ⟨rs,ro,rk,ry,ra⟩=if ry < 0\/(m.means.length:Int)<=ry then 0 else Ln.bH ms (m.means.getD ry.toNat Ln.none_) from rfl)
 obtain ⟨v1,v2,v3,v4,q0,-,q2,-⟩:=hm
 obtain ⟨am,cm,rfl⟩:=yh q2
 have k1:w.cell? ⟨b,1,none⟩=some (.slice am m.means.length cm):=q0.cell 1
 have hbl:=q0.lt
 have hbn:b≠w.heap.size:=by omega
 have hl:=hn.means.1
 unfold aT fB
 dsimp only
 by_cases e1:ry < 0
 ·have d1:decide (ry < 0)=true:=by simpa using e1
  have E:=hid (show Ln.target ms m ⟨rs,ro,rk,ry,ra⟩=0 by rw [R.o,if_pos (.inl e1)])
  clear R q0 q2 e1
  go_enter Tryz.func168,Tryz.ntmps168
  go_wp2
  go_quiet (fail)
  go_wp2
  go_ret
  exact ⟨by rw [E.o]; rfl,ye A0.o _⟩
 have d1:decide (ry < 0)=false:=by simpa using e1
 obtain ⟨y,rfl⟩:∃ y:Nat,ry=(y:Int):=⟨ry.toNat,by omega⟩
 by_cases e2:m.means.length<=y
 ·have d2:decide ((m.means.length:Int)<=(y:Int))=true:=by simpa using e2
  have E:=hid (show Ln.target ms m ⟨rs,ro,rk,y,ra⟩=0 by rw [R.o,if_pos (.inr (by omega))])
  clear R q0 q2
  go_enter Tryz.func168,Tryz.ntmps168
  go_wp2
  go_quiet (fail)
  go_wp2
  go_ret
  exact ⟨by rw [E.o]; rfl,ye A0.o _⟩
 have d2:decide ((m.means.length:Int)<=(y:Int))=false:=by simp; omega
 have hlt:y < m.means.length:=by omega
 have E:=hid (show Ln.target ms m ⟨rs,ro,rk,y,ra⟩=Ln.bH ms m.means[y] by rw [R.o,if_neg (by omega),Int.toNat_natCast,jY,jF hlt]; rfl)
 obtain ⟨sg,rfl⟩:∃ sg,am=some ⟨sg,0,none⟩:=by
  rcases q2.2 with ⟨h1,h2⟩ | ⟨g,cap',cur,hv,_⟩
  ·simp at h1; omega
  ·simp only [Value.slice.injEq] at hv
   exact ⟨g,hv.1⟩
 have q:=fun j (hj:j < 3)=>(q2.cellAt (y * 3+j) (by omega)).trans (Hu (xM bl) 3 (fun _=>rfl) m.means y j hlt hj)
 have c0:w.cell? ⟨sg,y * 3,none⟩=some (.pointer (lZ bl m.means[y].mod)):=q 0 (by omega)
 have c1:w.cell? ⟨sg,y * 3+1,none⟩=some (.int .i64 m.means[y].ah):=q 1 (by omega)
 have c2:w.cell? ⟨sg,y * 3+2,none⟩=some (.int .i64 m.means[y].off):=q 2 (by omega)
 have hsn:sg≠w.heap.size:=by have:sg < w.heap.size:=World.block_lt_of_cell? w _ c0; omega
 have cA:=hid (fun W (hg:w.grownBy W none)=>TH bl ms m.means[y] W (h.kept hg) (hn.means.2 _ (gW hlt)))
 unfold nI at cA
 clear R q q0 q2 h hn
 generalize m.means[y]=s at *
 obtain ⟨sm,ss,so⟩:=s
 dsimp only at *
 generalize lZ bl sm=pm at *
 go_enter Tryz.func168,Tryz.ntmps168
 go_wp2
 go_quiet (fail)
 have A1:=hid (ye A0.o nq)
 have l3:((w.alloc (.cells #[.int .i64 rs,.int .i64 ro,.int .i64 rk,.int .i64 y,.int .i64 ra] 102)).drewN nq).cell? ⟨w.heap.size,3,none⟩=some (.int .i64 y):=((yc.new w #[.int .i64 rs,.int .i64 ro,.int .i64 rk,.int .i64 y,.int .i64 ra] 102).drewN nq).cell 3
 go_wp2
 generalize (w.alloc (.cells #[.int .i64 rs,.int .i64 ro,.int .i64 rk,.int .i64 y,.int .i64 ra] 102)).drewN nq=W1 at *
 generalize w.heap.size=L at *
 have x0:=yd c0 A1.o
 have x1:=yd c1 A1.o
 have x2:=yd c2 A1.o
 have x3:=yd k1 A1.o
 have KD:=hid (fun W (hq:W1.drew.grownBy W none)=>And.intro (yd (yd k1 (yi A1.o)) hq) (And.intro (yd (show W1.drew.cell? ⟨L,3,none⟩=some (.int .i64 y) from l3) hq) (And.intro (yd (yd c0 (yi A1.o)) hq) (And.intro (yd (yd c1 (yi A1.o)) hq) (yd (yd c2 (yi A1.o)) hq)))))
 clear c0 c1 c2 k1
 go_region_held3 (fun w'=>w'.cell? ⟨b,1,none⟩=some (.slice (some ⟨sg,0,none⟩) m.means.length cm)/\w'.cell? ⟨L,3,none⟩=some (.int .i64 y)/\w'.cell? ⟨sg,y * 3,none⟩=some (.pointer pm)/\w'.cell? ⟨sg,y * 3+1,none⟩=some (.int .i64 ss)/\w'.cell? ⟨sg,y * 3+2,none⟩=some (.int .i64 so))
  (go_keep)
  (first | (go_at_call 73; refine (cA.o _ (yi A1.o)).mono ?_; rintro e w' ⟨rfl,hq⟩; obtain ⟨s0,s1,s2,s3,s4⟩:=KD.o _ hq))
 go_wp2
 go_ret
 exact ⟨by rw [E.o]; rfl,ya (yi A1.o) hq⟩
set_option maxRecDepth 100000 in
theorem Lg (bl:List Nat) (ms:List Ln.Mod) (b g:Nat) (m:Ln.Mod) (r:Lk.Rel) (w:World) (h:Bl w bl ms) (hm:yD w bl b g m) (hn:yH bl.length m) (h0:0<=r.off) (h1:r.off<=1125899906842624) :
  Calls Tryz.prog 107 #[aT b,fB r] w fun e w'=>e = .returned (.int .i64 (Ln.distance ms m r))/\w.grownBy w' none:=by
 have tr:=ykD h.nice m hn r
 have ar:=T9 hn r.ah r.off h0 h1
 have cT:=hid (fun W (hg:w.grownBy W none)=>Uu bl ms b g m r W (h.kept hg) (hm.kept hg) hn)
 have cA:=hid (fun W (hg:w.grownBy W none)=>yet bl b g bl.length m r.ah r.off W (hm.kept hg) hn h0 h1)
 have R:=hid (show Ln.distance ms m r=Ln.target ms m r - Ln.address m r.ah r.off from rfl)
 generalize Ln.target ms m r=t at *
 generalize Ln.address m r.ah r.off=a at *
 have w1:IntKind.i64.wrap (t - a)=t - a:=IntWalk.i64_in _ ⟨by omega,by omega⟩
 have hbl:b < w.heap.size:=by obtain ⟨v1,v2,v3,v4,q0,-⟩:=hm; exact q0.lt
 clear h hm hn h0 h1
 unfold aT fB at *
 obtain ⟨rs,ro,rk,ry,ra⟩:=r
 dsimp only at *
 have A0:=hid (aH w (.cells #[.int .i64 rs,.int .i64 ro,.int .i64 rk,.int .i64 ry,.int .i64 ra] 102) none)
 have B0:=hid (yc.new w #[.int .i64 rs,.int .i64 ro,.int .i64 rk,.int .i64 ry,.int .i64 ra] 102)
 go_enter Tryz.func107,Tryz.ntmps107
 go_wp2
 generalize w.alloc (.cells #[.int .i64 rs,.int .i64 ro,.int .i64 rk,.int .i64 ry,.int .i64 ra] 102)=W1 at *
 generalize w.heap.size=L at *
 have c0:W1.cell? ⟨L,0,none⟩=some (.int .i64 rs):=B0.o.cell 0
 have c1:W1.cell? ⟨L,1,none⟩=some (.int .i64 ro):=B0.o.cell 1
 have c2:W1.cell? ⟨L,2,none⟩=some (.int .i64 rk):=B0.o.cell 2
 have c3:W1.cell? ⟨L,3,none⟩=some (.int .i64 ry):=B0.o.cell 3
 have c4:W1.cell? ⟨L,4,none⟩=some (.int .i64 ra):=B0.o.cell 4
 have BD:=hid (fun W (hq:W1.drew.grownBy W none)=>show yc W L #[.int .i64 rs,.int .i64 ro,.int .i64 rk,.int .i64 ry,.int .i64 ra] 102 from (vM B0.o).grown hq (by simp))
 go_region_held3 (fun w'=>w'.cell? ⟨L,0,none⟩=some (.int .i64 rs)/\w'.cell? ⟨L,1,none⟩=some (.int .i64 ro)/\w'.cell? ⟨L,2,none⟩=some (.int .i64 rk)/\w'.cell? ⟨L,3,none⟩=some (.int .i64 ry)/\w'.cell? ⟨L,4,none⟩=some (.int .i64 ra))
  (go_keep)
  (first | (go_at_call 168; refine (cT.o _ (yi A0.o)).mono ?_; rintro e w' ⟨rfl,hq⟩; have bq:=BD.o _ hq; have s0:=bq.cell 0; have s1:=bq.cell 1; have s2:=bq.cell 2; have s3:=bq.cell 3; have s4:=bq.cell 4; simp only [bC,bG,bE] at s0 s1 s2 s3 s4) | (go_at_call 108; refine (cA.o _ (ya (yi A0.o) hq)).mono ?_; rintro e w2 ⟨rfl,rfl⟩))
 go_wp2
 go_ret
 exact ⟨by rw [R.o]; rfl,ya (yi A0.o) hq⟩
theorem Lx (ah off:Int):∀ (rs:List Lk.Rel) (k:Nat),Ln.aM ah off k rs=(0,⟨0,0,0,0,0⟩)\/∃ i,∃ h:i < rs.length,Ln.aM ah off k rs=(((k+i:Nat):Int),rs[i]):=by
 intro rs
 induction rs with
 | nil=>intro k; exact .inl rfl
 | cons r rs ih =>
  intro k
  unfold Ln.aM
  split
  ·exact .inr ⟨0,by simp,rfl⟩
  ·rcases ih (k+1) with e | ⟨i,hi,e⟩
   ·exact .inl e
   ·exact .inr ⟨i+1,by simpa using hi,by rw [e]; simp; omega⟩
set_option maxRecDepth 100000 in
theorem yoB (bl:List Nat) (b g n:Nat) (m:Ln.Mod) (ah off at_:Int) (w:World) (hm:yD w bl b g m) (hn:yH n m) (h0:0<=at_) (h1:at_<=1125899906842624) :
  Calls Tryz.prog 167 #[aT b,.int .i64 ah,.int .i64 off,.int .i64 at_] w fun e w'=>e = .returned (.bool (Ln.stays m ah off at_))/\w.grownBy w' none:=by
 have cR:=hid (UD bl b g m ah off w hm (fun r hr=>⟨(hn.aj.2 r hr).1,by have:=(hn.aj.2 r hr).2; omega,(hn.aj.2 r hr).2.2⟩) hn.aj.1)
 have R:=hid (show Ln.stays m ah off at_=if (Ln.aM ah off 0 m.obj.aj).2.kind=6 then !decide (Ln.rup at_ ((Ln.aM ah off 0 m.obj.aj).2.addend+4)=at_) else if (Ln.aM ah off 0 m.obj.aj).2.kind=4 then decide (off=(Ln.aM ah off 0 m.obj.aj).2.off) || !Ln.bY m.short (Ln.aM ah off 0 m.obj.aj).1 else true from rfl)
 have AD:=hid (show (Ln.aM ah off 0 m.obj.aj).2.kind=6->(Ln.aM ah off 0 m.obj.aj).2.addend=4\/(Ln.aM ah off 0 m.obj.aj).2.addend=12 by
  rcases Lx ah off m.obj.aj 0 with e | ⟨i,hi,e⟩
  ·rw [e]; intro c; simp at c
  ·rw [e]; intro c; exact (hn.aj.2 _ (gW hi)).1.six c)
 have IX:0<=(Ln.aM ah off 0 m.obj.aj).1/\(Ln.aM ah off 0 m.obj.aj).1<=65535:=by
  rcases Lx ah off m.obj.aj 0 with e | ⟨i,hi,e⟩
  ·rw [e]; simp
  ·rw [e]; have:=hn.aj.1; simp; omega
 have cS:=hid (fun W (hg:w.grownBy W none)=>Ut bl b g m (Ln.aM ah off 0 m.obj.aj).1 W (hm.kept hg) IX.1 IX.2 hn.short)
 generalize Ln.aM ah off 0 m.obj.aj=p at *
 obtain ⟨i,rs,ro,rk,ry,ra⟩:=p
 dsimp only at *
 clear hm hn
 unfold aT fB at *
 go_enter Tryz.func167,Tryz.ntmps167
 go_wp2_with fail
 refine cR.o.mono ?_
 rintro e W2 ⟨rfl,h2⟩
 have G2:=hid h2
 dsimp only
 have A2:=hid (ya h2 (aH W2 (.cells #[.int .i64 rs,.int .i64 ro,.int .i64 rk,.int .i64 ry,.int .i64 ra] 102) none))
 have cS2:=hid (cS.o _ A2.o)
 have cU:=hid (fun b hb1 hb2=>LX at_ b (W2.alloc (.cells #[.int .i64 rs,.int .i64 ro,.int .i64 rk,.int .i64 ry,.int .i64 ra] 102)) h0 h1 hb1 hb2)
 clear h2 cR cS
 by_cases e6:rk=6
 ·subst e6
  have E:=hid (show Ln.stays m ah off at_ = !decide (Ln.rup at_ (ra+4)=at_) by rw [R.o,if_pos rfl])
  rcases AD.o rfl with rfl | rfl
  ·have cV:=hid (cU.o 8 (by omega) (by omega))
   go_wp2_with fail
   refine cV.o.mono ?_
   rintro e w2 ⟨rfl,rfl⟩
   go_wp2
   go_ret
   exact ⟨by rw [E.o]; exact congrArg (fun b=>Ending.returned (Value.bool b)) (by simp [bne,BEq.beq]),A2.o⟩
  ·have cV:=hid (cU.o 16 (by omega) (by omega))
   go_wp2_with fail
   refine cV.o.mono ?_
   rintro e w2 ⟨rfl,rfl⟩
   go_wp2
   go_ret
   exact ⟨by rw [E.o]; exact congrArg (fun b=>Ending.returned (Value.bool b)) (by simp [bne,BEq.beq]),A2.o⟩
 ·have d6:(rk == 6)=false:=by simpa using e6
  by_cases e4:rk=4
  ·subst e4
   have E:=hid (show Ln.stays m ah off at_=(decide (off=ro) || !Ln.bY m.short i) by rw [R.o,if_neg (by simp),if_pos rfl])
   clear e6
   by_cases eo:off=ro
   ·subst eo
    have d1:(off == off)=true:=by simp
    go_wp2
    go_ret
    exact ⟨by rw [E.o]; exact congrArg (fun b=>Ending.returned (Value.bool b)) (by simp),A2.o⟩
   ·have d1:(off == ro)=false:=by simpa using eo
    have EO:=hid eo
    clear eo
    go_wp2_with fail
    refine cS2.o.mono ?_
    rintro e w2 ⟨rfl,rfl⟩
    go_wp2
    go_ret
    exact ⟨by rw [E.o]; exact congrArg (fun b=>Ending.returned (Value.bool b)) (by simp [EO.o]),A2.o⟩
  ·have d4:(rk == 4)=false:=by simpa using e4
   have E:=hid (show Ln.stays m ah off at_=true by rw [R.o,if_neg e6,if_neg e4])
   clear e4 e6
   go_wp2
   go_ret
   exact ⟨by rw [E.o]; rfl,A2.o⟩
theorem ypL (n v:Int) (st:Mc.St):(Mc.set n v st).read=st.read:=by unfold Mc.set; split <;> rfl
theorem ynZ (W0:World) (b g:Nat) (ai:Option Addr) (ci:Nat) (ins:List Int) (st:Mc.St) (vd vo:Value) (W:World) (h:yv W0 b g (.slice ai ins.length ci) st vd vo W) (hin:yz W0 ai ins) (hl:ins.length<=16) :
  Calls Tryz.prog 184 #[.pointer (some ⟨b,0,none⟩)] W fun e W'=>e = .returned (.tuple #[])/\kN W0 b g (.slice ai ins.length ci) (if ins.length<=st.read then { st with dG:=6 } else { Mc.set 10 (ins.getD st.read 0) st with read:=st.read+1 }) W':=by
 have H:=hid h
 have c1:=h.c.2.1
 have AY:=h.c.2.2.2.2.2.2.2.2.2
 by_cases hle:ins.length<=st.read
 ·rw [if_pos hle]
  have d:decide ((ins.length:Int)<=(st.read:Int))=true:=by simp; omega
  clear h
  go_enter Tryz.func184,Tryz.ntmps184
  go_wp2
  go_quiet (fail)
  have H1:=hid (H.o.grown (ye (World.grownBy.refl _ none) nq))
  clear c1 AY
  generalize W.drewN nq=V at *
  have c:=H1.o.c.2.2.2.2.2.1
  have f:=H1.o.free 37
  go_wp2
  (try simp only [Exit.inBlock,Exit.then]); refine bodyPost_ret (results_none rfl _ _ _) rfl ?_
  exact ⟨rfl,_,_,H1.o.kC 6⟩
 ·rw [if_neg hle]
  have d:decide ((ins.length:Int)<=(st.read:Int))=false:=by simp; omega
  obtain ⟨sg,off,rfl,hcells⟩:=hin.kept (fun a v e=>yd e h.gr) (by omega)
  have ck:=hcells st.read (by omega)
  have GE:=hid (show ins.getD st.read 0=ins[st.read]'(by omega) by rw [jY,jF (by omega)]; rfl)
  rw [GE.o]
  generalize ins[st.read]'(by omega)=v at *
  have CK:=hid ck
  have cS:=hid (fun W hW=>xJ W0 b g (.slice (some ⟨sg,off,none⟩) ins.length ci) st vd vo 10 v W hW (by decide) (by decide))
  have hz:(st.read:Int) < (ins.length:Int):=by omega
  clear h hcells ck GE hin
  go_enter Tryz.func184,Tryz.ntmps184
  go_wp2
  go_quiet (fail)
  go_wp2
  have H1:=hid (H.o.grown (ye (World.grownBy.refl _ none) nq))
  have ck:(W.drewN nq).cell? ⟨sg,off+st.read,none⟩=some (.int .i64 v):=CK.o
  clear c1 AY H CK
  generalize W.drewN nq=V at *
  have c1:=H1.o.c.2.1
  have AY:=H1.o.c.2.2.2.2.2.2.2.2.2
  have H2:Hd (yv W0 b g (.slice (some ⟨sg,off,none⟩) ins.length ci) st vd vo V.drew):=H1.o.grown (ye (World.grownBy.refl _ none) 1)
  go_region_with (go_at_call 119; refine (cS.o _ H2.o).mono ?_; rintro e w' ⟨rfl,h3⟩)
  all_goals
   have H3:=hid h3
   clear h3 c1 AY ck H2 H1
   have AY:=H3.o.c.2.2.2.2.2.2.2.2.2
   rw [ypL] at AY
   have f41:=H3.o.free 41
   go_wp2
   go_end0
   refine ⟨rfl,vd,vo,?_⟩
   exact H3.o.CU (st.read+1) (by omega)
theorem ynX (W0:World) (b g:Nat) (ai:Option Addr) (ci:Nat) (ins:List Int) (st:Mc.St) (vd vo:Value) (W:World) (h:yv W0 b g (.slice ai ins.length ci) st vd vo W) (hin:yz W0 ai ins) (hl:ins.length<=16) :
  Calls Tryz.prog 127 #[.pointer (some ⟨b,0,none⟩)] W fun e W'=>e = .returned (.tuple #[])/\kN W0 b g (.slice ai ins.length ci) (Mc.call ins st) W':=by
 have H:=hid h
 have La:=hid (fun W hW=>yj W0 b g (.slice ai ins.length ci) st vd vo 17 W hW (by decide) (by decide))
 have YS:=hid (fun W hW=>yj W0 b g (.slice ai ins.length ci) st vd vo 10 W hW (by decide) (by decide))
 have rE:Hd (∀ W,yv W0 b g (.slice ai ins.length ci) { st with dG:=1 } vd vo W->Calls Tryz.prog 118 #[.pointer (some ⟨b,0,none⟩),.int .i64 10] W fun e W'=>e = .returned (.int .i64 (Mc.reg st 10))/\W'=W) :=
  fun W hW=>yj W0 b g (.slice ai ins.length ci) { st with dG:=1 } vd vo 10 W hW (by decide) (by decide)
 have rr:=ym h.ok 10
 have sG:=hid (fun W=>O7 (Mc.reg st 10) W rr.1 rr.2)
 have pR:=hid (fun x W hW=>yot W0 b g (.slice ai ins.length ci) st vd vo x W hW)
 have rD:=hid (fun W hW=>ynZ W0 b g ai ci ins st vd vo W hW hin hl)
 obtain ⟨X,hX⟩:∃ X,X=Mc.call ins st:=⟨_,rfl⟩
 rw [<- hX]
 unfold Mc.call at hX
 have RX:=hid hX
 clear h hX hin rr
 generalize Mc.reg st 17=q at *
 generalize Mc.reg st 10=x at *
 by_cases q0:q=0
 ·subst q0
  rw [if_pos rfl] at RX
  have c37:=H.o.c.2.2.2.2.2.1
  have f37:=H.o.free 37
  go_enter Tryz.func127,Tryz.ntmps127
  go_wp2_with fail
  refine (La.o _ H.o).mono ?_
  rintro e V ⟨rfl,hV⟩
  subst hV
  have H1:=hid (H.o.kC 1)
  go_wp2_with fail
  refine (rE.o _ H1.o).mono ?_
  rintro e V2 ⟨rfl,hV⟩
  subst hV
  go_wp2_with fail
  refine (sG.o _).mono ?_
  rintro e V3 ⟨rfl,hV⟩
  have H2:=hid H1.o
  rw [<- hV] at H2
  clear hV H1 c37 f37 H
  have KT:=H2.o.c.2.2.2.2.2.2.1
  have f38:=H2.o.free 38
  go_wp2
  go_end0
  rw [RX.o]
  exact ⟨rfl,_,_,H2.o.CQ _⟩
 rw [if_neg q0] at RX
 have d0:(q == 0)=false:=by simpa using q0
 by_cases q1:q=1
 ·subst q1
  rw [if_pos rfl] at RX
  go_enter Tryz.func127,Tryz.ntmps127
  go_wp2_with fail
  refine (La.o _ H.o).mono ?_
  rintro e V ⟨rfl,hV⟩
  subst hV
  go_wp2_with fail
  refine (YS.o _ H.o).mono ?_
  rintro e V2 ⟨rfl,hV⟩
  subst hV
  go_wp2_with fail
  refine (sG.o _).mono ?_
  rintro e V3 ⟨rfl,hV⟩
  subst hV
  go_wp2_with fail
  refine (pR.o _ _ H.o).mono ?_
  rintro e V4 ⟨rfl,h4⟩
  have H4:=hid h4
  clear h4
  go_wp2
  go_end0
  rw [RX.o]
  exact ⟨rfl,H4.o⟩
 rw [if_neg q1] at RX
 have d1:(q == 1)=false:=by simpa using q1
 by_cases q2:q=2
 ·subst q2
  rw [if_pos rfl] at RX
  go_enter Tryz.func127,Tryz.ntmps127
  go_wp2_with fail
  refine (La.o _ H.o).mono ?_
  rintro e V ⟨rfl,hV⟩
  subst hV
  go_wp2_with fail
  refine (rD.o _ H.o).mono ?_
  rintro e V4 ⟨rfl,h4⟩
  have H4:=hid h4
  clear h4
  go_wp2
  go_end0
  rw [RX.o]
  exact ⟨rfl,H4.o⟩
 rw [if_neg q2] at RX
 have d2:(q == 2)=false:=by simpa using q2
 have c37:=H.o.c.2.2.2.2.2.1
 have f37:=H.o.free 37
 clear q0 q1 q2
 go_enter Tryz.func127,Tryz.ntmps127
 go_wp2_with fail
 refine (La.o _ H.o).mono ?_
 rintro e V ⟨rfl,hV⟩
 subst hV
 go_wp2
 go_end0
 rw [RX.o]
 exact ⟨rfl,_,_,H.o.kC 6⟩
theorem ymi (n:Int) (h0:-9223372036854775808<=n) (h1:n<=9223372036854775807):bits .andNot .i64 n 1=n - n % 2:=by
 have e1:(~~~ (BitVec.ofInt 64 1)).toNat=(2 ^ 63 - 1) <<< 1:=by decide
 have key:(BitVec.ofInt 64 n &&& ~~~ (BitVec.ofInt 64 1)).toNat=(n % ((2 ^ 64:Nat):Int)).toNat / 2 * 2:=by
  rw [BitVec.toNat_and,e1,BitVec.toNat_ofInt,FY,Nat.and_two_pow_sub_one_eq_mod,Nat.shiftRight_eq_div_pow,Nat.shiftLeft_eq]
  omega
 show IntKind.i64.wrap ((BitVec.ofInt 64 n &&& ~~~ (BitVec.ofInt 64 1)).toNat:Nat)=_
 rw [key,IntKind.wrap_i64]
 omega
structure mR (W0:World) (b g:Nat) (ai:Option Addr) (ci:Nat) (ins:List Int) (st:Mc.St) (vd vo:Value) (m:Im.dK) (rd au aC n:Int) (W:World):Prop where
 h:yv W0 b g (.slice ai ins.length ci) st vd vo W
 img:lJ W0 g m
 FE:Im.jo m
 inp:yz W0 ai ins
 few:ins.length<=16
 hrd:0<=rd/\rd < 32
 Yw:0<=au/\au < 32
 Yx:0<=aC/\aC < 32
 hn:-2147483648<=n/\n<=2147483647
theorem je (W:World) (a b c d e:Value):(W.alloc (.cells #[a,b,c,d,e] 143)).cell? ⟨W.heap.size,0,none⟩=some a/\(W.alloc (.cells #[a,b,c,d,e] 143)).cell? ⟨W.heap.size,1,none⟩=some b/\(W.alloc (.cells #[a,b,c,d,e] 143)).cell? ⟨W.heap.size,2,none⟩=some c /\
  (W.alloc (.cells #[a,b,c,d,e] 143)).cell? ⟨W.heap.size,3,none⟩=some d/\(W.alloc (.cells #[a,b,c,d,e] 143)).cell? ⟨W.heap.size,4,none⟩=some e:=by
 have B:=yc.new W #[a,b,c,d,e] 143
 exact ⟨B.cell 0,B.cell 1,B.cell 2,B.cell 3,B.cell 4⟩
set_option maxRecDepth 100000 in
theorem yqw (W0:World) (b g:Nat) (ai:Option Addr) (ci:Nat) (ins:List Int) (st:Mc.St) (vd vo:Value) (m:Im.dK) (op rd au aC n:Int) (W:World) (hpre:mR W0 b g ai ci ins st vd vo m rd au aC n W) (hop:op=0) :
  Calls Tryz.prog 83 #[.pointer (some ⟨b,0,none⟩),aX op rd au aC n] W fun e W'=>e = .returned (.tuple #[])/\kN W0 b g (.slice ai ins.length ci) (Mc.doIt m ins op rd au aC n st) W':=by
 obtain ⟨h,hI,hT,hin,hl,d0,s1,s2,hn⟩:=hpre
 have HA:=hid (h.grown (aH W (.cells #[.int .i64 op,.int .i64 rd,.int .i64 au,.int .i64 aC,.int .i64 n] 143) none))
 have NE:=hid (show W.heap.size≠b from fun e=>by have:=h.blk.lt; omega)
 have IC:=hid (je W (.int .i64 op) (.int .i64 rd) (.int .i64 au) (.int .i64 aC) (.int .i64 n))
 have r1:=hid (fun W hW=>yj W0 b g (.slice ai ins.length ci) st vd vo au W hW s1.1 s1.2)
 have r2:=hid (fun W hW=>yj W0 b g (.slice ai ins.length ci) st vd vo aC W hW s2.1 s2.2)
 have q1:=ym h.ok au
 have q2:=ym h.ok aC
 have hp:=h.ok.pc
 obtain ⟨X,hX⟩:∃ X,X=Mc.doIt m ins op rd au aC n st:=⟨_,rfl⟩
 rw [<- hX]
 have RX:=hid hX
 clear hX
 unfold aX
 subst hop
 replace RX:=hid (show X={ st with dG:=3 } from RX.o)
 clear h hI hT hin
 go_enter Tryz.func83,Tryz.ntmps83
 go_wp2_with fail
 generalize W.alloc (.cells #[.int .i64 0,.int .i64 rd,.int .i64 au,.int .i64 aC,.int .i64 n] 143)=V at *
 generalize W.heap.size=ib at *
 obtain ⟨i0,i1,i2,i3,i4⟩:=IC.o
 refine (r1.o _ HA.o).mono ?_
 rintro e V1 ⟨rfl,hV⟩
 subst hV
 go_wp2_with fail
 refine (r2.o _ HA.o).mono ?_
 rintro e V1 ⟨rfl,hV⟩
 subst hV
 have c37:=HA.o.c.2.2.2.2.2.1
 have f37:=HA.o.free 37
 go_wp2
 go_end0
 rw [RX.o]
 exact ⟨rfl,_,_,HA.o.kC 3⟩
set_option maxRecDepth 100000 in
theorem yrJ (W0:World) (b g:Nat) (ai:Option Addr) (ci:Nat) (ins:List Int) (st:Mc.St) (vd vo:Value) (m:Im.dK) (op rd au aC n:Int) (W:World) (hpre:mR W0 b g ai ci ins st vd vo m rd au aC n W) (hop:op=1) :
  Calls Tryz.prog 83 #[.pointer (some ⟨b,0,none⟩),aX op rd au aC n] W fun e W'=>e = .returned (.tuple #[])/\kN W0 b g (.slice ai ins.length ci) (Mc.doIt m ins op rd au aC n st) W':=by
 obtain ⟨h,hI,hT,hin,hl,d0,s1,s2,hn⟩:=hpre
 have HA:=hid (h.grown (aH W (.cells #[.int .i64 op,.int .i64 rd,.int .i64 au,.int .i64 aC,.int .i64 n] 143) none))
 have NE:=hid (show W.heap.size≠b from fun e=>by have:=h.blk.lt; omega)
 have IC:=hid (je W (.int .i64 op) (.int .i64 rd) (.int .i64 au) (.int .i64 aC) (.int .i64 n))
 have r1:=hid (fun W hW=>yj W0 b g (.slice ai ins.length ci) st vd vo au W hW s1.1 s1.2)
 have r2:=hid (fun W hW=>yj W0 b g (.slice ai ins.length ci) st vd vo aC W hW s2.1 s2.2)
 have q1:=ym h.ok au
 have q2:=ym h.ok aC
 have hp:=h.ok.pc
 obtain ⟨X,hX⟩:∃ X,X=Mc.doIt m ins op rd au aC n st:=⟨_,rfl⟩
 rw [<- hX]
 have RX:=hid hX
 clear hX
 unfold aX
 subst hop
 replace RX:=hid (show X=Mc.set rd (n * 4096) st from RX.o)
 have x:IntKind.i64.wrap (n * 4096)=n * 4096:=IntWalk.i64_in _ ⟨by omega,by omega⟩
 have cS:=hid (fun W hW=>xJ W0 b g (.slice ai ins.length ci) st vd vo rd (n * 4096) W hW d0.1 d0.2)
 clear h hI hT hin
 go_enter Tryz.func83,Tryz.ntmps83
 go_wp2_with fail
 generalize W.alloc (.cells #[.int .i64 1,.int .i64 rd,.int .i64 au,.int .i64 aC,.int .i64 n] 143)=V at *
 generalize W.heap.size=ib at *
 obtain ⟨i0,i1,i2,i3,i4⟩:=IC.o
 refine (r1.o _ HA.o).mono ?_
 rintro e V1 ⟨rfl,hV⟩
 subst hV
 go_wp2_with fail
 refine (r2.o _ HA.o).mono ?_
 rintro e V1 ⟨rfl,hV⟩
 subst hV
 go_wp2_with fail
 refine (cS.o _ HA.o).mono ?_
 rintro e V2 ⟨rfl,h2⟩
 have H2:=hid h2
 clear h2
 go_wp2
 go_end0
 rw [RX.o]
 exact ⟨rfl,_,_,H2.o⟩
set_option maxRecDepth 100000 in
theorem qU (W0:World) (b g:Nat) (ai:Option Addr) (ci:Nat) (ins:List Int) (st:Mc.St) (vd vo:Value) (m:Im.dK) (op rd au aC n:Int) (W:World) (hpre:mR W0 b g ai ci ins st vd vo m rd au aC n W) (hop:op=4) :
  Calls Tryz.prog 83 #[.pointer (some ⟨b,0,none⟩),aX op rd au aC n] W fun e W'=>e = .returned (.tuple #[])/\kN W0 b g (.slice ai ins.length ci) (Mc.doIt m ins op rd au aC n st) W':=by
 obtain ⟨h,hI,hT,hin,hl,d0,s1,s2,hn⟩:=hpre
 have HA:=hid (h.grown (aH W (.cells #[.int .i64 op,.int .i64 rd,.int .i64 au,.int .i64 aC,.int .i64 n] 143) none))
 have NE:=hid (show W.heap.size≠b from fun e=>by have:=h.blk.lt; omega)
 have IC:=hid (je W (.int .i64 op) (.int .i64 rd) (.int .i64 au) (.int .i64 aC) (.int .i64 n))
 have r1:=hid (fun W hW=>yj W0 b g (.slice ai ins.length ci) st vd vo au W hW s1.1 s1.2)
 have r2:=hid (fun W hW=>yj W0 b g (.slice ai ins.length ci) st vd vo aC W hW s2.1 s2.2)
 have q1:=ym h.ok au
 have q2:=ym h.ok aC
 have hp:=h.ok.pc
 obtain ⟨X,hX⟩:∃ X,X=Mc.doIt m ins op rd au aC n st:=⟨_,rfl⟩
 rw [<- hX]
 have RX:=hid hX
 clear hX
 unfold aX
 subst hop
 replace RX:=hid (show X=Mc.jump rd ((Mc.reg st au+n) - (Mc.reg st au+n) % 2) st from RX.o)
 generalize Mc.reg st au=a at *
 have x:IntKind.i64.wrap (a+n)=a+n:=IntWalk.i64_in _ ⟨by omega,by omega⟩
 have y:bits .andNot .i64 (a+n) 1=(a+n) - (a+n) % 2:=ymi _ (by omega) (by omega)
 have cJ:=hid (fun W hW=>Vq W0 b g (.slice ai ins.length ci) st vd vo rd ((a+n) - (a+n) % 2) W hW d0.1 d0.2)
 clear h hI hT hin
 go_enter Tryz.func83,Tryz.ntmps83
 go_wp2_with fail
 generalize W.alloc (.cells #[.int .i64 4,.int .i64 rd,.int .i64 au,.int .i64 aC,.int .i64 n] 143)=V at *
 generalize W.heap.size=ib at *
 obtain ⟨i0,i1,i2,i3,i4⟩:=IC.o
 refine (r1.o _ HA.o).mono ?_
 rintro e V1 ⟨rfl,hV⟩
 subst hV
 go_wp2_with fail
 refine (r2.o _ HA.o).mono ?_
 rintro e V1 ⟨rfl,hV⟩
 subst hV
 go_wp2_with fail
 refine (cJ.o _ HA.o).mono ?_
 rintro e V2 ⟨rfl,h2⟩
 have H2:=hid h2
 clear h2
 go_wp2
 go_end0
 rw [RX.o]
 exact ⟨rfl,_,_,H2.o⟩
set_option maxRecDepth 100000 in
theorem ysf (W0:World) (b g:Nat) (ai:Option Addr) (ci:Nat) (ins:List Int) (st:Mc.St) (vd vo:Value) (m:Im.dK) (op rd au aC n:Int) (W:World) (hpre:mR W0 b g ai ci ins st vd vo m rd au aC n W) (hop:op=12) :
  Calls Tryz.prog 83 #[.pointer (some ⟨b,0,none⟩),aX op rd au aC n] W fun e W'=>e = .returned (.tuple #[])/\kN W0 b g (.slice ai ins.length ci) (Mc.doIt m ins op rd au aC n st) W':=by
 obtain ⟨h,hI,hT,hin,hl,d0,s1,s2,hn⟩:=hpre
 have HA:=hid (h.grown (aH W (.cells #[.int .i64 op,.int .i64 rd,.int .i64 au,.int .i64 aC,.int .i64 n] 143) none))
 have NE:=hid (show W.heap.size≠b from fun e=>by have:=h.blk.lt; omega)
 have IC:=hid (je W (.int .i64 op) (.int .i64 rd) (.int .i64 au) (.int .i64 aC) (.int .i64 n))
 have r1:=hid (fun W hW=>yj W0 b g (.slice ai ins.length ci) st vd vo au W hW s1.1 s1.2)
 have r2:=hid (fun W hW=>yj W0 b g (.slice ai ins.length ci) st vd vo aC W hW s2.1 s2.2)
 have q1:=ym h.ok au
 have q2:=ym h.ok aC
 have hp:=h.ok.pc
 obtain ⟨X,hX⟩:∃ X,X=Mc.doIt m ins op rd au aC n st:=⟨_,rfl⟩
 rw [<- hX]
 have RX:=hid hX
 clear hX
 unfold aX
 subst hop
 replace RX:=hid (show X=Mc.store m (Mc.wd (Mc.reg st au+n)) (Mc.reg st aC) st from RX.o)
 generalize Mc.reg st au=a at *
 generalize Mc.reg st aC=bb at *
 have x:IntKind.i64.wrap (a+n)=a+n:=IntWalk.i64_in _ ⟨by omega,by omega⟩
 have cW:=hid (fun W=>Au (a+n) W)
 have wr:=Mc.gH (a+n)
 have cT:=hid (fun W hW=>ymL W0 b g (.slice ai ins.length ci) st vd vo m (Mc.wd (a+n)) bb W hW hI hT wr.1 wr.2 q2)
 clear h hI hT hin
 go_enter Tryz.func83,Tryz.ntmps83
 go_wp2_with fail
 generalize W.alloc (.cells #[.int .i64 12,.int .i64 rd,.int .i64 au,.int .i64 aC,.int .i64 n] 143)=V at *
 generalize W.heap.size=ib at *
 obtain ⟨i0,i1,i2,i3,i4⟩:=IC.o
 refine (r1.o _ HA.o).mono ?_
 rintro e V1 ⟨rfl,hV⟩
 subst hV
 go_wp2_with fail
 refine (r2.o _ HA.o).mono ?_
 rintro e V1 ⟨rfl,hV⟩
 subst hV
 go_wp2_with fail
 refine (cW.o _).mono ?_
 rintro e V2 ⟨rfl,hV⟩
 subst hV
 go_wp2_with fail
 refine (cT.o _ HA.o).mono ?_
 rintro e V2 ⟨rfl,h2⟩
 have H2:=hid h2
 clear h2
 go_wp2
 go_end0
 rw [RX.o]
 exact ⟨rfl,H2.o⟩
set_option maxRecDepth 100000 in
theorem yoQ (W0:World) (b g:Nat) (ai:Option Addr) (ci:Nat) (ins:List Int) (st:Mc.St) (vd vo:Value) (m:Im.dK) (op rd au aC n:Int) (W:World) (hpre:mR W0 b g ai ci ins st vd vo m rd au aC n W) (hop:op=25) :
  Calls Tryz.prog 83 #[.pointer (some ⟨b,0,none⟩),aX op rd au aC n] W fun e W'=>e = .returned (.tuple #[])/\kN W0 b g (.slice ai ins.length ci) (Mc.doIt m ins op rd au aC n st) W':=by
 obtain ⟨h,hI,hT,hin,hl,d0,s1,s2,hn⟩:=hpre
 have HA:=hid (h.grown (aH W (.cells #[.int .i64 op,.int .i64 rd,.int .i64 au,.int .i64 aC,.int .i64 n] 143) none))
 have NE:=hid (show W.heap.size≠b from fun e=>by have:=h.blk.lt; omega)
 have IC:=hid (je W (.int .i64 op) (.int .i64 rd) (.int .i64 au) (.int .i64 aC) (.int .i64 n))
 have r1:=hid (fun W hW=>yj W0 b g (.slice ai ins.length ci) st vd vo au W hW s1.1 s1.2)
 have r2:=hid (fun W hW=>yj W0 b g (.slice ai ins.length ci) st vd vo aC W hW s2.1 s2.2)
 have q1:=ym h.ok au
 have q2:=ym h.ok aC
 have hp:=h.ok.pc
 obtain ⟨X,hX⟩:∃ X,X=Mc.doIt m ins op rd au aC n st:=⟨_,rfl⟩
 rw [<- hX]
 have RX:=hid hX
 clear hX
 unfold aX
 subst hop
 replace RX:=hid (show X=Mc.call ins st from RX.o)
 have cC:=hid (fun W hW=>ynX W0 b g ai ci ins st vd vo W hW hin hl)
 clear h hI hT hin
 go_enter Tryz.func83,Tryz.ntmps83
 go_wp2_with fail
 generalize W.alloc (.cells #[.int .i64 25,.int .i64 rd,.int .i64 au,.int .i64 aC,.int .i64 n] 143)=V at *
 generalize W.heap.size=ib at *
 obtain ⟨i0,i1,i2,i3,i4⟩:=IC.o
 refine (r1.o _ HA.o).mono ?_
 rintro e V1 ⟨rfl,hV⟩
 subst hV
 go_wp2_with fail
 refine (r2.o _ HA.o).mono ?_
 rintro e V1 ⟨rfl,hV⟩
 subst hV
 go_wp2_with fail
 refine (cC.o _ HA.o).mono ?_
 rintro e V2 ⟨rfl,h2⟩
 have H2:=hid h2
 clear h2
 go_wp2
 go_end0
 rw [RX.o]
 exact ⟨rfl,H2.o⟩
end Go.Proofs.YtpgklkhgfcjceaaGreatDoor

namespace Go.Proofs.YtpgklkhgfcjceaaGreatDoor
namespace As
def iN (st:St):St :=
 if st.op.text=[46,116,101,120,116] then { st with ah:=1 }
 else if st.op.text=[46,102,97,114] then { st with ah:=2 }
 else if st.op.text=[46,100,97,116,97] then { st with ah:=3 }
 else if st.op.text=[46,98,115,115] then { st with ah:=4 }
 else st
def binding (s:List UInt8) (st:St):St:=bind s (if st.op.text=[46,103,108,111,98,108] then 1 else 2) st
def word (s:List UInt8) (st:St):St :=
 if st.tok.kind == 1 then
  let t:=target s st
  dS 1 t.1.1 t.1.2 [0] t.2
 else
  let n:=number s (-2147483648) 4294967295 st
  lay [n.1 % 4294967296] n.2
def space (s:List UInt8) (st:St):St :=
 let n:=number s 0 4800 st
 if n.1 % 4=0 then lay (List.replicate (n.1 / 4).toNat 0) n.2 else refuse 8 n.2.op.pos n.2
def lU (ah:Nat):Bool:=ah == 1 || ah == 2
def dF (k:Int) (st:St):St :=
 if (st.obj.align[st.ah - 1]?).getD 0 < k then { st with obj:={ st.obj with align:=st.obj.align.set (st.ah - 1) k } } else st
def dH (aF:Nat) (st:St):St :=
 if lU st.ah then
  if 4 < aF then dS 6 0 ((aF:Int) - 4) (List.replicate (aF / 4 - 1) 19) st else st
 else lay (List.replicate (((aF:Int) - 4 * bK st.obj st.ah % aF) % aF / 4).toNat 0) st
def align (s:List UInt8) (st:St):St :=
 let n:=number s 2 4 st
 if failed n.2 then n.2 else dF n.1 (dH (2 ^ n.1.toNat) n.2)
end As
end Go.Proofs.YtpgklkhgfcjceaaGreatDoor

namespace Go.Proofs.YtpgklkhgfcjceaaGreatDoor
open Go.RowKit
theorem Pw (s:List UInt8) (lo hi:Int) (st:As.St) (h0:lo<=0) (h1:0<=hi):lo<=(As.number s lo hi st).1/\(As.number s lo hi st).1<=hi:=by
 have key:∀ neg pos st,lo<=(As.bB s neg pos lo hi st).1/\(As.bB s neg pos lo hi st).1<=hi:=by
  intro neg pos st
  unfold As.bB
  generalize (if neg then -(st.tok.n:Int) else (st.tok.n:Int))=x
  split
  ·by_cases h:x < lo\/hi < x
   ·rw [if_pos h]; exact ⟨h0,h1⟩
   ·rw [if_neg h]; simp only; omega
  ·exact ⟨h0,h1⟩
 unfold As.number
 split
 ·exact key _ _ _
 ·exact key _ _ _
theorem VD (s:List UInt8) (st:As.St) (h:uU st.tok):uU (As.name s st).1:=by
 unfold As.name
 split
 ·exact h
 ·exact G8
set_option maxRecDepth 100000 in
theorem Ka (B:Nat) (s:ByteArray) (b g:Nat) (st:As.St) (W:World) (h:yl B s b g st W) :
  Calls Tryz.prog 193 #[.pointer (some ⟨b,0,none⟩)] W fun en W'=>en = .returned (.int .i64 (As.symbol (sl s) st).1)/\Does B s b g W (As.symbol (sl s) st).2 W':=by
 have HW:=hid h
 have cN:=hid (VB B s b g st W h)
 have HT:=hid (VD (sl s) st h.ok.tok)
 clear h
 have RS:=hid (show As.symbol (sl s) st=((As.aS (As.name (sl s) st).1 (As.name (sl s) st).2).1.1,(As.aS (As.name (sl s) st).1 (As.name (sl s) st).2).2) from rfl)
 generalize As.symbol (sl s) st=X at *
 generalize As.name (sl s) st=R at *
 obtain ⟨t,st1⟩:=R
 simp only at HT RS cN
 go_enter Tryz.func193,Tryz.ntmps193
 go_wp2_with fail
 refine cN.o.mono ?_
 rintro e V ⟨rfl,h1⟩
 have D1:=hid (h1.does HW.o)
 clear h1 cN
 unfold fM
 go_wp2_with fail
 refine (OM B s b g st1 t _ (D1.o.alloc _).1 HT.o).mono ?_
 rintro e V2 ⟨rfl,h2⟩
 have D2:=hid ((D1.o.alloc _).after h2)
 clear h2 D1
 unfold MH
 go_wp2
 go_ret
 rw [RS.o]
 exact ⟨rfl,D2.o⟩
set_option maxRecDepth 100000 in
theorem LB (B:Nat) (s:ByteArray) (b g:Nat) (st:As.St) (W:World) (h:yl B s b g st W) :
  Calls Tryz.prog 191 #[.pointer (some ⟨b,0,none⟩)] W fun en W'=>en = .returned (.tuple #[.int .i64 (As.target (sl s) st).1.1,.int .i64 (As.target (sl s) st).1.2])/\Does B s b g W (As.target (sl s) st).2 W':=by
 have cN:=hid (Ka B s b g st W h)
 clear h
 have RS:=hid (show As.target (sl s) st=if (As.symbol (sl s) st).2.tok.is [43] then (((As.symbol (sl s) st).1,(As.number (sl s) 0 2047 (As.advance (sl s) (As.symbol (sl s) st).2)).1),(As.number (sl s) 0 2047 (As.advance (sl s) (As.symbol (sl s) st).2)).2)
  else if (As.symbol (sl s) st).2.tok.is [45] then (((As.symbol (sl s) st).1,-(As.number (sl s) 0 2048 (As.advance (sl s) (As.symbol (sl s) st).2)).1),(As.number (sl s) 0 2048 (As.advance (sl s) (As.symbol (sl s) st).2)).2)
  else (((As.symbol (sl s) st).1,0),(As.symbol (sl s) st).2) from rfl)
 generalize As.target (sl s) st=X at *
 generalize As.symbol (sl s) st=R at *
 obtain ⟨i,st1⟩:=R
 simp only at RS cN
 go_enter Tryz.func191,Tryz.ntmps191
 go_wp2_with fail
 refine cN.o.mono ?_
 rintro e V ⟨rfl,h1⟩
 have D1:=hid h1
 clear h1 cN
 obtain ⟨c2,c3,c4,c5⟩:=tV D1.o.1
 go_wp2_with fail
 refine (J6 st1.tok [43] V).mono ?_
 rintro e V1 ⟨rfl,hg⟩
 have D2:=hid (D1.o.grown hg)
 clear hg D1 c2 c3 c4 c5
 cases hp:st1.tok.is [43]
 ·rw [hp,if_neg (by simp)] at RS
  clear hp
  obtain ⟨c2,c3,c4,c5⟩:=tV D2.o.1
  go_wp2_with fail
  refine (J6 st1.tok [45] V1).mono ?_
  rintro e V2 ⟨rfl,hg⟩
  have D3:=hid (D2.o.grown hg)
  clear hg D2 c2 c3 c4 c5
  cases hm:st1.tok.is [45]
  ·rw [hm,if_neg (by simp)] at RS
   clear hm
   go_wp2
   go_ret2
   rw [RS.o]
   exact ⟨rfl,D3.o⟩
  ·rw [hm,if_pos rfl] at RS
   clear hm
   go_wp2_with fail
   refine (Aj B s b g st1 V2 D3.o.1).mono ?_
   rintro e V3 ⟨rfl,h3⟩
   have D4:=hid (D3.o.aO h3)
   clear h3 D3
   generalize As.advance (sl s) st1=st2 at *
   go_wp2_with fail
   refine (CZ B s b g st2 0 2048 V3 D4.o.1).mono ?_
   rintro e V4 ⟨rfl,h4⟩
   have D5:=hid (D4.o.aO h4)
   clear h4 D4
   have NB:=Pw (sl s) 0 2048 st2 (by omega) (by omega)
   generalize As.number (sl s) 0 2048 st2=R4 at *
   obtain ⟨nn,qo⟩:=R4
   simp only at NB RS D5 ⊢
   go_wp2
   go_ret2
   rw [RS.o]
   exact ⟨rfl,D5.o⟩
 ·rw [hp,if_pos rfl] at RS
  clear hp
  go_wp2_with fail
  refine (Aj B s b g st1 V1 D2.o.1).mono ?_
  rintro e V3 ⟨rfl,h3⟩
  have D4:=hid (D2.o.aO h3)
  clear h3 D2
  generalize As.advance (sl s) st1=st2 at *
  go_wp2_with fail
  refine (CZ B s b g st2 0 2047 V3 D4.o.1).mono ?_
  rintro e V4 ⟨rfl,h4⟩
  have D5:=hid (D4.o.aO h4)
  clear h4 D4
  generalize As.number (sl s) 0 2047 st2=R4 at *
  obtain ⟨nn,qo⟩:=R4
  simp only at RS D5 ⊢
  go_wp2
  go_ret2
  rw [RS.o]
  exact ⟨rfl,D5.o⟩
set_option maxRecDepth 100000 in
theorem Pk (B:Nat) (s:ByteArray) (b g:Nat) (st:As.St) (W:World) (h:yl B s b g st W) :
  Calls Tryz.prog 190 #[.pointer (some ⟨b,0,none⟩)] W fun en W'=>en = .returned (.tuple #[.int .i64 (As.place (sl s) st).1.1,.int .i64 (As.place (sl s) st).1.2])/\yR B s b g W (As.place (sl s) st).2 W':=by
 have cN:=hid (CZ B s b g st (-2048) 2047 W h)
 clear h
 have RS:=hid (show As.place (sl s) st=(((As.number (sl s) (-2048) 2047 st).1,(As.register (sl s) (As.sign (sl s) [40] (As.number (sl s) (-2048) 2047 st).2)).1),As.sign (sl s) [41] (As.register (sl s) (As.sign (sl s) [40] (As.number (sl s) (-2048) 2047 st).2)).2) from rfl)
 generalize As.place (sl s) st=X at *
 generalize As.number (sl s) (-2048) 2047 st=R at *
 obtain ⟨nn,st1⟩:=R
 simp only at RS cN
 go_enter Tryz.func190,Tryz.ntmps190
 go_wp2_with fail
 refine cN.o.mono ?_
 rintro e V ⟨rfl,h1⟩
 have D1:=hid h1
 clear h1 cN
 go_wp2_with fail
 refine (tJ B s b g st1 [40] V D1.o.1).mono ?_
 rintro e V1 ⟨rfl,h1⟩
 have D2:=hid (D1.o.after h1)
 clear h1 D1
 generalize As.sign (sl s) [40] st1=st2 at *
 go_wp2_with fail
 refine (yP B s b g st2 V1 D2.o.1).mono ?_
 rintro e V2 ⟨rfl,h1⟩
 have D3:=hid (D2.o.after h1)
 clear h1 D2
 generalize As.register (sl s) st2=R2 at *
 obtain ⟨rg,iD⟩:=R2
 simp only at RS D3 ⊢
 go_wp2_with fail
 refine (tJ B s b g iD [41] V2 D3.o.1).mono ?_
 rintro e V3 ⟨rfl,h1⟩
 have D4:=hid (D3.o.after h1)
 clear h1 D3
 go_wp2
 go_ret2
 rw [RS.o]
 exact ⟨rfl,D4.o⟩
end Go.Proofs.YtpgklkhgfcjceaaGreatDoor
