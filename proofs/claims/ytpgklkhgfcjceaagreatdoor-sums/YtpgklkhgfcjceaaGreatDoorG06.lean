/- Walks over package object's checks: wordsGo. -/
/- Walks over package object's checks: validReloc. -/
/- Walks over package object's checks: validRelocs. -/
/- Walks over package object: valid, Read. -/
/- Walks over package object: Read. -/
/- Linking: modules in memory; names. -/
import Derived.Test.YtpgklkhgfcjceaaGreatDoorG05
import Derived.Test.YtpgklkhgfcjceaaGreatDoorG04
namespace Go.Proofs.YtpgklkhgfcjceaaGreatDoor
open Go.RowKit
set_option maxHeartbeats 1000000 in
theorem ygq (kind:Int) (w:World) :
  Calls Tryz.prog 206 #[.int .i64 kind,.slice none 0 0] w fun e w'=>e = .returned (.bool false)/\w'=w:=by
 go_enter Tryz.func206,Tryz.ntmps206
 go_wp2
 go_ret
 exact ⟨rfl,rfl⟩
set_option maxHeartbeats 4000000 in
theorem ygp (kind:Int) (ao:Option Addr) (cap:Nat) (xs:List Int) (w:World) (ht:Tabs w) (h:yz w ao xs) (hw:ybk xs) (hn:xs.length<=3) (hn1:1<=xs.length) (hk:1<=kind/\kind<=6) (h2:kind=4\/kind=5->xs.length=2) :
  Calls Tryz.prog 206 #[.int .i64 kind,.slice ao xs.length cap] w fun e w'=>yg e (yaA kind xs)/\w.grownBy w' none:=by
 obtain ⟨g,off,rfl,hc⟩:=h (by omega)
 have hx0:=hw 0 (by omega)
 have hgd:xs.getD 0 0=xs[0]:=by rw [ysB,yst (by omega)]; rfl
 have q0:=hc 0 (by omega)
 have cD:=hid (yeN xs[0] w ht hx0.1 hx0.2)
 have cN:=hid (fun W (hW:yz W (some ⟨g,off,none⟩) xs)=>ykE (some ⟨g,off,none⟩) cap xs W hW (by omega))
 have HI:=hid h
 simp only [Nat.add_zero] at q0
 rcases (show kind=1\/kind=2\/kind=3\/kind=6\/kind=4\/kind=5 from by omega) with rfl | rfl | rfl | rfl | rfl | rfl
 ·have HQ:=hid (show yaA 1 xs↔xs[0]=0 from by simp only [yaA,if_true]; rw [hgd])
  generalize yaA 1 xs=Q at *
  clear h2 hk h hc hw ht HI
  go_enter Tryz.func206,Tryz.ntmps206
  go_wp2_with fail
  refine cD.out.mono ?_
  rintro e w1 ⟨⟨op,rd,s1,t1,m,rfl,hd⟩,hq⟩
  have q1:=yd q0 hq
  unfold insV
  have HQQ:=hid hq
  clear hq q0 hd
  have GA:=hid (fun ob:Obj=>ysp w1 ob none)
  have q2:=fun ob:Obj=>yd q1 (ysp w1 ob none)
  go_wp2
  go_ret
  exact ⟨yg.of (by rw [HQ.out,beq_iff_eq]),ya HQQ.out (GA.out _)⟩
 ·have HQ:=hid (show yaA 2 xs↔yQ xs[0] from by unfold yaA; rw [if_neg (by decide),if_pos rfl,hgd])
  generalize yaA 2 xs=Q at *
  clear h2 hk h hc hw ht HI
  go_enter Tryz.func206,Tryz.ntmps206
  go_wp2_with fail
  refine cD.out.mono ?_
  rintro e w1 ⟨⟨op,rd,s1,t1,m,rfl,hd⟩,hq⟩
  have q1:=yd q0 hq
  unfold insV
  have HQQ:=hid hq
  have DF:=hid (yck xs[0] op rd s1 m hx0.1 hx0.2 hd)
  clear hq q0 hd
  have GA:=hid (fun ob:Obj=>ysp w1 ob none)
  by_cases o1:5<=op
  ·have d1:decide (5<=op)=true:=by simpa using o1
   by_cases o2:op<=10
   ·have d2:decide (op<=10)=true:=by simpa using o2
    go_wp2
    go_ret
    exact ⟨yg.of (by rw [HQ.out,<- DF.out.1,beq_iff_eq]; exact ⟨fun h=>⟨o1,o2,h⟩,fun h=>h.2.2⟩),ya HQQ.out (GA.out _)⟩
   ·have d2:decide (op<=10)=false:=by simp; omega
    go_wp2
    go_ret
    exact ⟨yg.no (by rw [HQ.out,<- DF.out.1]; omega),ya HQQ.out (GA.out _)⟩
  ·have d1:decide (5<=op)=false:=by simp; omega
   go_wp2
   go_ret
   exact ⟨yg.no (by rw [HQ.out,<- DF.out.1]; omega),ya HQQ.out (GA.out _)⟩
 ·have HQ:=hid (show yaA 3 xs↔Jal0 xs[0] from by unfold yaA; rw [if_neg (by decide),if_neg (by decide),if_pos rfl,hgd])
  generalize yaA 3 xs=Q at *
  clear h2 hk h hc hw ht HI
  go_enter Tryz.func206,Tryz.ntmps206
  go_wp2_with fail
  refine cD.out.mono ?_
  rintro e w1 ⟨⟨op,rd,s1,t1,m,rfl,hd⟩,hq⟩
  have q1:=yd q0 hq
  unfold insV
  have HQQ:=hid hq
  have DF:=hid (yck xs[0] op rd s1 m hx0.1 hx0.2 hd)
  clear hq q0 hd
  have GA:=hid (fun ob:Obj=>ysp w1 ob none)
  by_cases o1:op=3
  ·subst o1
   go_wp2
   go_ret
   exact ⟨yg.of (by rw [HQ.out,<- DF.out.2.1,beq_iff_eq]; simp),ya HQQ.out (GA.out _)⟩
  ·have d1:(op == 3)=false:=beq_eq_false_iff_ne.2 o1
   have O:=hid o1
   clear o1
   go_wp2
   go_ret
   exact ⟨yg.no (by rw [HQ.out,<- DF.out.2.1]; have:=O.out; omega),ya HQQ.out (GA.out _)⟩
 ·have HQ:=hid (show yaA 6 xs↔Nops xs from by unfold yaA; rw [if_neg (by decide),if_neg (by decide),if_neg (by decide),if_neg (by decide),if_pos rfl])
  generalize yaA 6 xs=Q at *
  clear h2 hk h hc hw ht
  go_enter Tryz.func206,Tryz.ntmps206
  go_wp2_with fail
  refine cD.out.mono ?_
  rintro e w1 ⟨⟨op,rd,s1,t1,m,rfl,hd⟩,hq⟩
  have q1:=yd q0 hq
  unfold insV
  have HQQ:=hid hq
  have DF:=hid (yck xs[0] op rd s1 m hx0.1 hx0.2 hd)
  clear hq q0 hd
  have GA:=hid (fun ob:Obj=>ysp w1 ob none)
  go_wp2_with fail
  refine (cN.out _ ((HI.out.kept (fun a v hv=>yd hv HQQ.out)).kept (fun a v hv=>yd hv (GA.out _)))).mono ?_
  rintro e w2 ⟨t,rfl⟩
  obtain ⟨b,rfl,hb⟩:=t
  have HBB:=hid hb
  clear hb
  go_wp2
  go_ret
  exact ⟨yg.of (by rw [HQ.out]; exact HBB.out),ya HQQ.out (GA.out _)⟩
 ·have hl2:=h2 (by omega)
  have hlt1:1 < xs.length:=by omega
  have hx1:=hw 1 hlt1
  have hgd1:xs.getD 1 0=xs[1]'hlt1:=by rw [ysB,yst hlt1]; rfl
  have HQ:=hid (show yaA 4 xs↔yfN 4 xs[0] xs[1] from by unfold yaA; rw [if_neg (by decide),if_neg (by decide),if_neg (by decide),if_pos (by decide),hgd,hgd1])
  have q1:=hc 1 hlt1
  have cD1:=hid (fun W (hW:Tabs W)=>yeN xs[1] W hW hx1.1 hx1.2)
  have HT:=hid ht
  generalize yaA 4 xs=Q at *
  have dl:((xs.length:Int) == 2)=true:=by rw [beq_iff_eq]; omega
  have hl3:2<=xs.length:=by omega
  have g1:(1:Int) < (xs.length:Int):=by omega
  have g2:(0:Int) < (xs.length:Int):=by omega
  clear h2 hk h hc hw ht HI cN hl2
  go_enter Tryz.func206,Tryz.ntmps206
  go_wp2_with fail
  refine cD.out.mono ?_
  rintro e w1 ⟨⟨op,rd,s1,t1,m,rfl,hd⟩,hq⟩
  unfold insV
  have B:=yc.new w1 #[.int .i64 op,.int .i64 rd,.int .i64 s1,.int .i64 t1,.int .i64 m] 143
  have GA:=ysp w1 (.cells #[.int .i64 op,.int .i64 rd,.int .i64 s1,.int .i64 t1,.int .i64 m] 143) none
  have c0:Hid ((w1.alloc (.cells #[.int .i64 op,.int .i64 rd,.int .i64 s1,.int .i64 t1,.int .i64 m] 143)).drew.cell? ⟨w1.heap.size,0,none⟩=some (.int .i64 op)):=B.cell 0
  have c1:Hid ((w1.alloc (.cells #[.int .i64 op,.int .i64 rd,.int .i64 s1,.int .i64 t1,.int .i64 m] 143)).drew.cell? ⟨w1.heap.size,1,none⟩=some (.int .i64 rd)):=B.cell 1
  have c2:Hid ((w1.alloc (.cells #[.int .i64 op,.int .i64 rd,.int .i64 s1,.int .i64 t1,.int .i64 m] 143)).drew.cell? ⟨w1.heap.size,2,none⟩=some (.int .i64 s1)):=B.cell 2
  have c3:Hid ((w1.alloc (.cells #[.int .i64 op,.int .i64 rd,.int .i64 s1,.int .i64 t1,.int .i64 m] 143)).drew.cell? ⟨w1.heap.size,3,none⟩=some (.int .i64 t1)):=B.cell 3
  have c4:Hid ((w1.alloc (.cells #[.int .i64 op,.int .i64 rd,.int .i64 s1,.int .i64 t1,.int .i64 m] 143)).drew.cell? ⟨w1.heap.size,4,none⟩=some (.int .i64 m)):=B.cell 4
  have c5:Hid ((w1.alloc (.cells #[.int .i64 op,.int .i64 rd,.int .i64 s1,.int .i64 t1,.int .i64 m] 143)).drew.cell? ⟨g,off+1,none⟩=some (.int .i64 xs[1])):=yd (yd q1 hq) (yi GA)
  have hgl:g < w1.heap.size:=World.block_lt_of_cell? w1 _ (yd q1 hq)
  have hnew:=World.new_ne w1 ⟨g,off+1,none⟩ (yd q1 hq)
  have q2:=yd q1 hq
  have GG:=hid (ya hq (yi GA))
  have DF:=hid (yck xs[0] op rd s1 m hx0.1 hx0.2 hd)
  clear hq q0 q1 hd B GA cD
  go_wp2
  go_region_held3 (fun w'=>w'.cell? ⟨w1.heap.size,0,none⟩=some (.int .i64 op)/\w'.cell? ⟨w1.heap.size,1,none⟩=some (.int .i64 rd)/\w'.cell? ⟨w1.heap.size,2,none⟩=some (.int .i64 s1)/\w'.cell? ⟨w1.heap.size,3,none⟩=some (.int .i64 t1)/\w'.cell? ⟨w1.heap.size,4,none⟩=some (.int .i64 m)/\w'.cell? ⟨g,off+1,none⟩=some (.int .i64 xs[1]))
   (go_keep)
   (first | (go_at_call 82; refine (cD1.out _ (HT.out.grown GG.out)).mono ?_; rintro e w' ⟨⟨op2,rd2,s2,t2,m2,rfl,hd2⟩,hq⟩; have s0:=yd c0.out hq; have s1':=yd c1.out hq; have s2':=yd c2.out hq; have s3:=yd c3.out hq; have s4:=yd c4.out hq; have s5:=yd c5.out hq) | (go_at_call 220; refine (yfz 4 op rd s1 t1 m op2 rd2 s2 t2 m2 _).mono ?_; rintro e w'' ⟨⟨b,rfl,hb⟩,hq2⟩; have z0:=yd s0 hq2; have z1:=yd s1' hq2; have z2:=yd s2' hq2; have z3:=yd s3 hq2; have z4:=yd s4 hq2; have z5:=yd s5 hq2))
  have HBB:=hid hb
  have D2:=hid (yck xs[1] op2 rd2 s2 m2 hx1.1 hx1.2 hd2)
  have GF:=hid (ya (ya GG.out hq) hq2)
  clear hb hd2 hq hq2 s0 s1' s2' s3 s4 s5 z0 z1 z2 z3 z4 z5
  go_wp2
  go_ret
  exact ⟨yg.of (by rw [HQ.out,<- yhc 4 xs[0] xs[1] op rd s1 m op2 rd2 s2 m2 DF.out D2.out]; exact HBB.out),GF.out⟩
 ·have hl2:=h2 (by omega)
  have hlt1:1 < xs.length:=by omega
  have hx1:=hw 1 hlt1
  have hgd1:xs.getD 1 0=xs[1]'hlt1:=by rw [ysB,yst hlt1]; rfl
  have HQ:=hid (show yaA 5 xs↔yfN 5 xs[0] xs[1] from by unfold yaA; rw [if_neg (by decide),if_neg (by decide),if_neg (by decide),if_pos (by decide),hgd,hgd1])
  have q1:=hc 1 hlt1
  have cD1:=hid (fun W (hW:Tabs W)=>yeN xs[1] W hW hx1.1 hx1.2)
  have HT:=hid ht
  generalize yaA 5 xs=Q at *
  have dl:((xs.length:Int) == 2)=true:=by rw [beq_iff_eq]; omega
  have hl3:2<=xs.length:=by omega
  have g1:(1:Int) < (xs.length:Int):=by omega
  have g2:(0:Int) < (xs.length:Int):=by omega
  clear h2 hk h hc hw ht HI cN hl2
  go_enter Tryz.func206,Tryz.ntmps206
  go_wp2_with fail
  refine cD.out.mono ?_
  rintro e w1 ⟨⟨op,rd,s1,t1,m,rfl,hd⟩,hq⟩
  unfold insV
  have B:=yc.new w1 #[.int .i64 op,.int .i64 rd,.int .i64 s1,.int .i64 t1,.int .i64 m] 143
  have GA:=ysp w1 (.cells #[.int .i64 op,.int .i64 rd,.int .i64 s1,.int .i64 t1,.int .i64 m] 143) none
  have c0:Hid ((w1.alloc (.cells #[.int .i64 op,.int .i64 rd,.int .i64 s1,.int .i64 t1,.int .i64 m] 143)).drew.cell? ⟨w1.heap.size,0,none⟩=some (.int .i64 op)):=B.cell 0
  have c1:Hid ((w1.alloc (.cells #[.int .i64 op,.int .i64 rd,.int .i64 s1,.int .i64 t1,.int .i64 m] 143)).drew.cell? ⟨w1.heap.size,1,none⟩=some (.int .i64 rd)):=B.cell 1
  have c2:Hid ((w1.alloc (.cells #[.int .i64 op,.int .i64 rd,.int .i64 s1,.int .i64 t1,.int .i64 m] 143)).drew.cell? ⟨w1.heap.size,2,none⟩=some (.int .i64 s1)):=B.cell 2
  have c3:Hid ((w1.alloc (.cells #[.int .i64 op,.int .i64 rd,.int .i64 s1,.int .i64 t1,.int .i64 m] 143)).drew.cell? ⟨w1.heap.size,3,none⟩=some (.int .i64 t1)):=B.cell 3
  have c4:Hid ((w1.alloc (.cells #[.int .i64 op,.int .i64 rd,.int .i64 s1,.int .i64 t1,.int .i64 m] 143)).drew.cell? ⟨w1.heap.size,4,none⟩=some (.int .i64 m)):=B.cell 4
  have c5:Hid ((w1.alloc (.cells #[.int .i64 op,.int .i64 rd,.int .i64 s1,.int .i64 t1,.int .i64 m] 143)).drew.cell? ⟨g,off+1,none⟩=some (.int .i64 xs[1])):=yd (yd q1 hq) (yi GA)
  have hgl:g < w1.heap.size:=World.block_lt_of_cell? w1 _ (yd q1 hq)
  have hnew:=World.new_ne w1 ⟨g,off+1,none⟩ (yd q1 hq)
  have q2:=yd q1 hq
  have GG:=hid (ya hq (yi GA))
  have DF:=hid (yck xs[0] op rd s1 m hx0.1 hx0.2 hd)
  clear hq q0 q1 hd B GA cD
  go_wp2
  go_region_held3 (fun w'=>w'.cell? ⟨w1.heap.size,0,none⟩=some (.int .i64 op)/\w'.cell? ⟨w1.heap.size,1,none⟩=some (.int .i64 rd)/\w'.cell? ⟨w1.heap.size,2,none⟩=some (.int .i64 s1)/\w'.cell? ⟨w1.heap.size,3,none⟩=some (.int .i64 t1)/\w'.cell? ⟨w1.heap.size,4,none⟩=some (.int .i64 m)/\w'.cell? ⟨g,off+1,none⟩=some (.int .i64 xs[1]))
   (go_keep)
   (first | (go_at_call 82; refine (cD1.out _ (HT.out.grown GG.out)).mono ?_; rintro e w' ⟨⟨op2,rd2,s2,t2,m2,rfl,hd2⟩,hq⟩; have s0:=yd c0.out hq; have s1':=yd c1.out hq; have s2':=yd c2.out hq; have s3:=yd c3.out hq; have s4:=yd c4.out hq; have s5:=yd c5.out hq) | (go_at_call 220; refine (yfz 5 op rd s1 t1 m op2 rd2 s2 t2 m2 _).mono ?_; rintro e w'' ⟨⟨b,rfl,hb⟩,hq2⟩; have z0:=yd s0 hq2; have z1:=yd s1' hq2; have z2:=yd s2' hq2; have z3:=yd s3 hq2; have z4:=yd s4 hq2; have z5:=yd s5 hq2))
  have HBB:=hid hb
  have D2:=hid (yck xs[1] op2 rd2 s2 m2 hx1.1 hx1.2 hd2)
  have GF:=hid (ya (ya GG.out hq) hq2)
  clear hb hd2 hq hq2 s0 s1' s2' s3 s4 s5 z0 z1 z2 z3 z4 z5
  go_wp2
  go_ret
  exact ⟨yg.of (by rw [HQ.out,<- yhc 5 xs[0] xs[1] op rd s1 m op2 rd2 s2 m2 DF.out D2.out]; exact HBB.out),GF.out⟩
def yeu (o:Lk.Obj) (r:Lk.Rel):Prop:=r.kind=6->r.addend+4<=yaW (o.align.getD (r.sect.toNat - 1) 0)
def ydE (o:Lk.Obj) (r:Lk.Rel):Prop:=ycv r/\yae r/\yeK o r/\yeu o r/\yca o r/\yaA r.kind (yU o r)/\¬ ydO o r
theorem yel {o:Lk.Obj} {r:Lk.Rel} (ha:yae r) (hab:yca o r) (hw:ybk (yw o r.sect)):(yU o r).length=(yau r).toNat/\ybk (yU o r)/\(yU o r).length<=3/\1<=(yU o r).length:=by
 have hs:=yaT ha
 obtain ⟨b1,b2,b3⟩:=hab
 have hl:(yU o r).length=(yau r).toNat:=by unfold yU; simp; omega
 refine ⟨hl,?_,by omega,by omega⟩
 intro i hi
 have hi':(r.off / 4).toNat+i < (yw o r.sect).length:=by omega
 have e:(yU o r)[i]=(yw o r.sect)[(r.off / 4).toNat+i]:=by
  simp only [yU,List.getElem_take,List.getElem_drop]
 rw [e]
 exact hw _ hi'
theorem yfm {o:Lk.Obj} (h:ych o) (sect:Int):ybk (yw o sect):=by
 unfold yw
 split
 ·exact h.1
 split
 ·exact h.2.1
 split
 ·exact h.2.2
 ·intro i hi; simp at hi
theorem yfI {e:Ending} {P:Prop} (h:yg e P) (hp:P):e = .returned (.bool true):=by
 rcases h.split with ⟨_,q⟩ | ⟨h1,_⟩
 ·exact absurd hp q.out
 ·exact h1
theorem ykq {e:Ending} {P:Prop} (h:yg e P) (hp:¬ P):e = .returned (.bool false):=by
 rcases h.split with ⟨h1,_⟩ | ⟨_,q⟩
 ·exact h1
 ·exact absurd q.out hp
set_option maxHeartbeats 4000000 in
theorem yia (g:Nat) (o:Lk.Obj) (r:Lk.Rel) (w:World) (ht:Tabs w) (h:yr w g o) (hn:yby o) (hb4:ybu o.align) (hw:ych o) (hr:r.off<=9223372036854775807) :
  Calls Tryz.prog 161 #[.pointer (some ⟨g,0,none⟩),relA r] w fun e w'=>yg e (ydE o r)/\w.grownBy w' none:=by
 have no:Hid (∀ W,(¬ ydE o r)->w.grownBy W none->yg (.returned (.bool false)) (ydE o r)/\w.grownBy W none):=fun W a b=>⟨yg.no a,b⟩
 have HO:=hid h
 have HT:=hid ht
 have HN:=hid hn
 have HB4:=hid hb4
 have HW:=hid hw
 clear h ht hn hb4 hw
 have B:=yc.new w #[.int .i64 r.sect,.int .i64 r.off,.int .i64 r.kind,.int .i64 r.sym,.int .i64 r.addend] 102
 have GB:=ysp w (.cells #[.int .i64 r.sect,.int .i64 r.off,.int .i64 r.kind,.int .i64 r.sym,.int .i64 r.addend] 102) none
 have HBk:=hid B
 have HGB:=hid GB
 clear B GB
 have cK:=hid (fun W=>yiS r W)
 have cA:=hid (fun W=>yho r W)
 have cS:=hid (fun W (hW:yr W g o)=>ykv g o r W hW HN.out)
 have fold:relA r = .agg #[.int .i64 r.sect,.int .i64 r.off,.int .i64 r.kind,.int .i64 r.sym,.int .i64 r.addend]:=rfl
 rw [fold]
 rw [fold] at cK cA cS
 clear fold
 go_enter Tryz.func161,Tryz.ntmps161
 go_wp2_with fail
 refine Calls.at_world (fun W=>yc W w.heap.size #[.int .i64 r.sect,.int .i64 r.off,.int .i64 r.kind,.int .i64 r.sym,.int .i64 r.addend] 102/\w.grownBy W none) ⟨HBk.out,HGB.out⟩ ?_
 rintro W1 ⟨bk1,g1⟩
 refine (cK.out W1).mono ?_
 rintro e W2 ⟨t,q⟩
 have BK2:=bk1.grown q (by simp)
 have G2:=hid (ya g1 q)
 rcases t.split with ⟨rfl,p1⟩ | ⟨rfl,p1⟩ <;> clear t q bk1 g1
 ·clear BK2
  go_wp2
  go_ret
  exact no.out _ (fun h=>p1.out h.1) G2.out
 have c0:=BK2.cell 0
 have c1:=BK2.cell 1
 have c2:=BK2.cell 2
 have c3:=BK2.cell 3
 have c4:=BK2.cell 4
 have HB2:=hid BK2
 clear BK2
 go_wp2_with fail
 refine (cA.out W2).mono ?_
 rintro e W3 ⟨t,q⟩
 have BK3:=HB2.out.grown q (by simp)
 have G3:=hid (ya G2.out q)
 clear c0 c1 c2 c3 c4
 rcases t.split with ⟨rfl,p2⟩ | ⟨rfl,p2⟩ <;> clear t q
 ·clear BK3
  go_wp2
  go_ret
  exact no.out _ (fun h=>p2.out h.2.1) G3.out
 have c0:=BK3.cell 0
 have c1:=BK3.cell 1
 have c2:=BK3.cell 2
 have c3:=BK3.cell 3
 have c4:=BK3.cell 4
 have HB3:=hid BK3
 clear BK3
 go_wp2_with fail
 refine (cS.out W3 (HO.out.kept G3.out)).mono ?_
 rintro e W4 ⟨t,q⟩
 have BK4:=HB3.out.grown q (by simp)
 have G4:=hid (ya G3.out q)
 clear c0 c1 c2 c3 c4
 rcases t.split with ⟨rfl,p3⟩ | ⟨rfl,p3⟩ <;> clear t q
 ·clear BK4
  go_wp2
  go_ret
  exact no.out _ (fun h=>p3.out h.2.2.1) G4.out
 have c0:=BK4.cell 0
 have c1:=BK4.cell 1
 have c2:=BK4.cell 2
 have c3:=BK4.cell 3
 have c4:=BK4.cell 4
 have HB4':=hid BK4
 clear BK4
 have kinds:=p1.out
 unfold ycv at kinds
 by_cases hk6:r.kind=6
 ·have hs:1<=r.sect/\r.sect<=2:=by omega
  have ha:=p2.out.six hk6
  obtain ⟨sn,hsn⟩:∃ sn:Nat,r.sect=(sn:Int):=⟨r.sect.toNat,by omega⟩
  have hal:=HB4.out.1
  have cB:=hid (fun W (hW:yr W g o)=>show Calls Tryz.prog 106 #[.pointer (some ⟨g,0,none⟩),.int .i64 r.sect] W fun e w'=>e = .returned (.int .i64 (yaW (o.align.getD (r.sect.toNat - 1) 0)))/\w'=W from by
   have:=yfr g o sn W hW HB4.out (by omega) (by omega)
   rw [hsn,Int.toNat_natCast,ysB,yst (by omega)]
   exact this)
  have BB:=hid (show yeu o r↔r.addend+4<=yaW (o.align.getD (r.sect.toNat - 1) 0) from ⟨fun h=>h hk6,fun h _=>h⟩)
  generalize yaW (o.align.getD (r.sect.toNat - 1) 0)=bd at *
  have d6:(r.kind == 6)=true:=beq_iff_eq.2 hk6
  have hw4:IntKind.i64.wrap (r.addend+4)=r.addend+4:=IntWalk.i64_in _ ⟨by omega,by omega⟩
  have K6:=hid hk6
  clear hk6 kinds hsn hal
  by_cases hbd:bd < r.addend+4
  ·have db:decide (bd < r.addend+4)=true:=by simpa using hbd
   go_wp2
   go_quiet ((go_at_call 106; exact Calls.quiet_of_same (cB.out _ ((HO.out.kept G4.out).drewN _))))
   go_wp2
   go_ret
   exact no.out _ (fun h=>by have:=BB.out.1 h.2.2.2.1; omega) (ye G4.out _)
  ·have db:decide (bd < r.addend+4)=false:=by simp; omega
   have HBD:=hid (show yeu o r from BB.out.2 (by omega))
   go_wp2
   go_quiet ((go_at_call 106; exact Calls.quiet_of_same (cB.out _ ((HO.out.kept G4.out).drewN _))))
   go_wp2
   have B5:=HB4'.out.drewN nq
   have G5:=hid (ye G4.out nq)
   have e0:Hid ((W4.drewN nq).drew.cell? ⟨w.heap.size,0,none⟩=some (.int .i64 r.sect)):=B5.cell 0
   have e1:Hid ((W4.drewN nq).drew.cell? ⟨w.heap.size,1,none⟩=some (.int .i64 r.off)):=B5.cell 1
   have e2:Hid ((W4.drewN nq).drew.cell? ⟨w.heap.size,2,none⟩=some (.int .i64 r.kind)):=B5.cell 2
   have e3:Hid ((W4.drewN nq).drew.cell? ⟨w.heap.size,3,none⟩=some (.int .i64 r.sym)):=B5.cell 3
   have e4:Hid ((W4.drewN nq).drew.cell? ⟨w.heap.size,4,none⟩=some (.int .i64 r.addend)):=B5.cell 4
   have HO5:Hid (yr (W4.drewN nq).drew g o):=yr.drew (HO.out.kept G5.out)
   have HT5:Hid (Tabs (W4.drewN nq).drew):=HT.out.grown (yi G5.out)
   have G6:=hid (yi G5.out)
   clear B5
   have hcr:=hid (show 1<=r.kind/\r.kind<=6 from by have:=p1.out; unfold ycv at this; omega)
   by_cases hab:yca o r
   ·have haf:=yel p2.out hab (yfm HW.out r.sect)
    have hoff:0<=r.off/\r.off<=1048576:=by
     obtain ⟨x1,x2,x3⟩:=hab
     have y1:=ybg HN.out r.sect
     have y2:=yaT p2.out
     omega
    have cAb:=hid (fun W (hW:yr W g o)=>ydd g o r W hW HN.out p2.out hab)
    have cWg:=hid (fun W ao cap (hW:Tabs W) (hI:yz W ao (yU o r))=>show Calls Tryz.prog 206 #[.int .i64 r.kind,.slice ao (yau r).toNat cap] W fun e w'=>yg e (yaA r.kind (yU o r))/\W.grownBy w' none from by
     rw [<- haf.1]
     exact ygp r.kind ao cap (yU o r) W hW hI haf.2.1 haf.2.2.1 haf.2.2.2 hcr.out (fun h=>by rw [haf.1]; unfold yau; rw [if_pos h]; rfl))
    have cSw:=hid (fun W (hW:yr W g o)=>ydY g o r W hW HN.out p2.out hoff.1 hoff.2)
    have HAB:=hid hab
    unfold relA at cAb cSw
    clear hab haf hoff
    generalize (yau r).toNat=sp at *
    by_cases hg:yaA r.kind (yU o r)
    ·have HGO:=hid hg
     clear hg
     go_region_held3 (fun w'=>w'.cell? ⟨w.heap.size,0,none⟩=some (.int .i64 r.sect)/\w'.cell? ⟨w.heap.size,1,none⟩=some (.int .i64 r.off)/\w'.cell? ⟨w.heap.size,2,none⟩=some (.int .i64 r.kind)/\w'.cell? ⟨w.heap.size,3,none⟩=some (.int .i64 r.sym)/\w'.cell? ⟨w.heap.size,4,none⟩=some (.int .i64 r.addend))
      (go_keep)
      (first | (go_at_call 207; refine (cAb.out _ HO5.out).mono ?_; rintro e w5 ⟨ao,cap,rfl,hI,hq⟩; have s0:=yd e0.out hq; have s1:=yd e1.out hq; have s2:=yd e2.out hq; have s3:=yd e3.out hq; have s4:=yd e4.out hq) | (go_at_call 206; refine (cWg.out _ ao cap (HT5.out.grown hq) hI).mono ?_; rintro e w6 ⟨ht6,hq2⟩; obtain rfl:=yfI ht6 HGO.out; have z0:=yd s0 hq2; have z1:=yd s1 hq2; have z2:=yd s2 hq2; have z3:=yd s3 hq2; have z4:=yd s4 hq2) | (go_at_call 208; refine (cSw.out _ ((HO5.out.kept hq).kept hq2)).mono ?_; rintro e w7 ⟨⟨b,rfl,hb⟩,hq3⟩; have y0:=yd z0 hq3; have y1:=yd z1 hq3; have y2:=yd z2 hq3; have y3:=yd z3 hq3; have y4:=yd z4 hq3))
     have GF:=hid (ya (ya (ya G6.out hq) hq2) hq3)
     have HBB:=hid hb
     clear hb hq hq2 hq3 s0 s1 s2 s3 s4 z0 z1 z2 z3 z4 y0 y1 y2 y3 y4 hI ht6
     go_wp2
     go_ret
     refine ⟨yg.of ?_,GF.out⟩
     have hbb:=HBB.out
     constructor
     ·intro h
      refine ⟨p1.out,p2.out,p3.out,HBD.out,HAB.out,HGO.out,fun hwi=>?_⟩
      rw [hbb.2 hwi] at h
      simp at h
     ·intro h
      cases b
      ·rfl
      ·exact absurd (hbb.1 rfl) h.2.2.2.2.2.2
    ·have HGO:=hid hg
     clear hg
     refine wp_region_held_drew (S:=(fun w'=>w'.cell? ⟨w.heap.size,0,none⟩=some (.int .i64 r.sect)/\w'.cell? ⟨w.heap.size,1,none⟩=some (.int .i64 r.off)/\w'.cell? ⟨w.heap.size,2,none⟩=some (.int .i64 r.kind)/\w'.cell? ⟨w.heap.size,3,none⟩=some (.int .i64 r.sym)/\w'.cell? ⟨w.heap.size,4,none⟩=some (.int .i64 r.addend))) (by kernel_rfl) ⟨e0.out,e1.out,e2.out,e3.out,e4.out⟩ ?_
     intro hS
     refine wpAnyH_take (i:=0) (v:=?_) rfl (by kernel_rfl) (by kernel_rfl) (by kernel_rfl) (fun _ _ _ h=>h) (Or.inl ⟨by kernel_rfl,?_⟩) hS ?_
     rotate_left
     ·intro w' _; go_simp; with_reducible rfl
     refine wpAnyH_take (i:=1) (v:=?_) rfl (by kernel_rfl) (by kernel_rfl) (by kernel_rfl) (fun _ _ _ h=>h) (Or.inl ⟨by kernel_rfl,?_⟩) hS ?_
     rotate_left
     ·intro w' hw'; obtain ⟨x0,x1,x2,x3,x4⟩:=hw'; go_simp; with_reducible rfl
     refine wpAnyH_take (i:=2) (v:=?_) rfl (by kernel_rfl) (by kernel_rfl) (by kernel_rfl) (fun _ _ _ h=>h) (Or.inl ⟨by kernel_rfl,?_⟩) hS ?_
     rotate_left
     ·intro w' _; go_simp; with_reducible rfl
     refine wpAnyH_take (i:=3) (v:=?_) rfl (by kernel_rfl) (by kernel_rfl) (by kernel_rfl) (fun _ _ _ h=>h) (Or.inl ⟨by kernel_rfl,?_⟩) hS ?_
     rotate_left
     ·intro w' hw'; obtain ⟨x0,x1,x2,x3,x4⟩:=hw'; go_simp; with_reducible rfl
     refine wpAnyH_ready (rs:=[4]) (by kernel_rfl) (by simp) ?_
     refine AllReadyH.cons rfl (fun K hK=>?_) AllReadyH.nil
     go_simp
     go_wp2_with (go_at_call 207; refine (cAb.out _ HO5.out).mono ?_; rintro e w5 ⟨ao,cap,rfl,hI,hq⟩)
     refine hK.out _ _ ⟨yd e0.out hq,yd e1.out hq,yd e2.out hq,yd e3.out hq,yd e4.out hq⟩ (fun hS2=>?_)
     clear hK K
     refine wpAnyH_ready (rs:=[5]) (by kernel_rfl) (by simp) ?_
     refine AllReadyH.cons rfl (fun K hK=>?_) AllReadyH.nil
     go_simp
     go_wp2_with (go_at_call 206; refine (cWg.out _ ao cap (HT5.out.grown hq) hI).mono ?_; rintro e w6 ⟨ht6,hq2⟩; obtain rfl:=ykq ht6 HGO.out)
     refine hK.out _ _ ⟨yd (yd e0.out hq) hq2,yd (yd e1.out hq) hq2,yd (yd e2.out hq) hq2,yd (yd e3.out hq) hq2,yd (yd e4.out hq) hq2⟩ (fun hS3=>?_)
     clear hK K
     refine wpAnyH_take (i:=6) (v:=?_) rfl (by kernel_rfl) (by kernel_rfl) (by kernel_rfl) (fun _ _ _ h=>h) (Or.inl ⟨by kernel_rfl,?_⟩) hS3 ?_
     rotate_left
     ·intro w' _; go_simp; with_reducible rfl
     refine wpAnyH_take (i:=7) (v:=undef) rfl (by kernel_rfl) (by kernel_rfl) (by kernel_rfl) (fun _ _ _ h=>h) (Or.inr ⟨by kernel_rfl,rfl⟩) hS3 ?_
     refine wpAnyH_take (i:=8) (v:=undef) rfl (by kernel_rfl) (by kernel_rfl) (by kernel_rfl) (fun _ _ _ h=>h) (Or.inr ⟨by kernel_rfl,rfl⟩) hS3 ?_
     refine wpAnyH_take (i:=9) (v:=undef) rfl (by kernel_rfl) (by kernel_rfl) (by kernel_rfl) (fun _ _ _ h=>h) (Or.inr ⟨by kernel_rfl,rfl⟩) hS3 ?_
     refine wpAnyH_take (i:=10) (v:=undef) rfl (by kernel_rfl) (by kernel_rfl) (by kernel_rfl) (fun _ _ _ h=>h) (Or.inr ⟨by kernel_rfl,rfl⟩) hS3 ?_
     refine wpAnyH_take (i:=11) (v:=.bool false) rfl (by kernel_rfl) (by kernel_rfl) (by kernel_rfl) (fun _ _ _ h=>h) (Or.inl ⟨by kernel_rfl,fun _ _=>by kernel_rfl⟩) hS3 ?_
     refine wpAnyH_take (i:=12) (v:=.bool false) rfl (by kernel_rfl) (by kernel_rfl) (by kernel_rfl) (fun _ _ _ h=>h) (Or.inl ⟨by kernel_rfl,fun _ _=>by kernel_rfl⟩) hS3 ?_
     refine wpAnyH_done (by kernel_rfl) ?_ _
     simp only [yaL,ysy,ysw,ysx,yso,ysm,ysn]
     go_wp2
     go_ret
     exact no.out _ (fun h=>HGO.out h.2.2.2.2.2.1) (ya (ya G6.out hq) hq2)
   ·have cAb:=hid (fun W (hW:yr W g o)=>yfc g o r W hW HN.out p2.out hab hr)
    have cWg:=hid (fun W=>ygq r.kind W)
    have HAB:=hid hab
    unfold relA at cAb
    clear hab
    refine wp_region_held_drew (S:=(fun w'=>w'.cell? ⟨w.heap.size,0,none⟩=some (.int .i64 r.sect)/\w'.cell? ⟨w.heap.size,1,none⟩=some (.int .i64 r.off)/\w'.cell? ⟨w.heap.size,2,none⟩=some (.int .i64 r.kind)/\w'.cell? ⟨w.heap.size,3,none⟩=some (.int .i64 r.sym)/\w'.cell? ⟨w.heap.size,4,none⟩=some (.int .i64 r.addend))) (by kernel_rfl) ⟨e0.out,e1.out,e2.out,e3.out,e4.out⟩ ?_
    intro hS
    refine wpAnyH_take (i:=0) (v:=?_) rfl (by kernel_rfl) (by kernel_rfl) (by kernel_rfl) (fun _ _ _ h=>h) (Or.inl ⟨by kernel_rfl,?_⟩) hS ?_
    rotate_left
    ·intro w' _; go_simp; with_reducible rfl
    refine wpAnyH_take (i:=1) (v:=?_) rfl (by kernel_rfl) (by kernel_rfl) (by kernel_rfl) (fun _ _ _ h=>h) (Or.inl ⟨by kernel_rfl,?_⟩) hS ?_
    rotate_left
    ·intro w' hw'; obtain ⟨x0,x1,x2,x3,x4⟩:=hw'; go_simp; with_reducible rfl
    refine wpAnyH_take (i:=2) (v:=?_) rfl (by kernel_rfl) (by kernel_rfl) (by kernel_rfl) (fun _ _ _ h=>h) (Or.inl ⟨by kernel_rfl,?_⟩) hS ?_
    rotate_left
    ·intro w' _; go_simp; with_reducible rfl
    refine wpAnyH_take (i:=3) (v:=?_) rfl (by kernel_rfl) (by kernel_rfl) (by kernel_rfl) (fun _ _ _ h=>h) (Or.inl ⟨by kernel_rfl,?_⟩) hS ?_
    rotate_left
    ·intro w' hw'; obtain ⟨x0,x1,x2,x3,x4⟩:=hw'; go_simp; with_reducible rfl
    refine wpAnyH_ready (rs:=[4]) (by kernel_rfl) (by simp) ?_
    refine AllReadyH.cons rfl (fun K hK=>?_) AllReadyH.nil
    go_simp
    go_wp2_with (go_at_call 207; refine (cAb.out _ HO5.out).mono ?_; rintro e w5 ⟨rfl,hq⟩)
    refine hK.out _ _ ⟨yd e0.out hq,yd e1.out hq,yd e2.out hq,yd e3.out hq,yd e4.out hq⟩ (fun hS2=>?_)
    clear hK K
    refine wpAnyH_ready (rs:=[5]) (by kernel_rfl) (by simp) ?_
    refine AllReadyH.cons rfl (fun K hK=>?_) AllReadyH.nil
    go_simp
    go_wp2_with (go_at_call 206; refine (cWg.out _).mono ?_; rintro e w6 ⟨rfl,hw6⟩)
    subst hw6
    refine hK.out _ _ ⟨yd e0.out hq,yd e1.out hq,yd e2.out hq,yd e3.out hq,yd e4.out hq⟩ (fun hS3=>?_)
    clear hK K
    refine wpAnyH_take (i:=6) (v:=?_) rfl (by kernel_rfl) (by kernel_rfl) (by kernel_rfl) (fun _ _ _ h=>h) (Or.inl ⟨by kernel_rfl,?_⟩) hS3 ?_
    rotate_left
    ·intro w' _; go_simp; with_reducible rfl
    refine wpAnyH_take (i:=7) (v:=undef) rfl (by kernel_rfl) (by kernel_rfl) (by kernel_rfl) (fun _ _ _ h=>h) (Or.inr ⟨by kernel_rfl,rfl⟩) hS3 ?_
    refine wpAnyH_take (i:=8) (v:=undef) rfl (by kernel_rfl) (by kernel_rfl) (by kernel_rfl) (fun _ _ _ h=>h) (Or.inr ⟨by kernel_rfl,rfl⟩) hS3 ?_
    refine wpAnyH_take (i:=9) (v:=undef) rfl (by kernel_rfl) (by kernel_rfl) (by kernel_rfl) (fun _ _ _ h=>h) (Or.inr ⟨by kernel_rfl,rfl⟩) hS3 ?_
    refine wpAnyH_take (i:=10) (v:=undef) rfl (by kernel_rfl) (by kernel_rfl) (by kernel_rfl) (fun _ _ _ h=>h) (Or.inr ⟨by kernel_rfl,rfl⟩) hS3 ?_
    refine wpAnyH_take (i:=11) (v:=.bool false) rfl (by kernel_rfl) (by kernel_rfl) (by kernel_rfl) (fun _ _ _ h=>h) (Or.inl ⟨by kernel_rfl,fun _ _=>by kernel_rfl⟩) hS3 ?_
    refine wpAnyH_take (i:=12) (v:=.bool false) rfl (by kernel_rfl) (by kernel_rfl) (by kernel_rfl) (fun _ _ _ h=>h) (Or.inl ⟨by kernel_rfl,fun _ _=>by kernel_rfl⟩) hS3 ?_
    refine wpAnyH_done (by kernel_rfl) ?_ _
    simp only [yaL,ysy,ysw,ysx,yso,ysm,ysn]
    go_wp2
    go_ret
    exact no.out _ (fun h=>HAB.out h.2.2.2.2.1) (ya G6.out hq)
 ·have HBD:=hid (show yeu o r from fun h=>absurd h hk6)
  have d6:(r.kind == 6)=false:=beq_eq_false_iff_ne.2 hk6
  have K6:=hid hk6
  clear hk6 kinds
  go_wp2
  go_quiet (fail)
  go_wp2
  have B5:=HB4'.out.drewN nq
  have G5:=hid (ye G4.out nq)
  have e0:Hid ((W4.drewN nq).drew.cell? ⟨w.heap.size,0,none⟩=some (.int .i64 r.sect)):=B5.cell 0
  have e1:Hid ((W4.drewN nq).drew.cell? ⟨w.heap.size,1,none⟩=some (.int .i64 r.off)):=B5.cell 1
  have e2:Hid ((W4.drewN nq).drew.cell? ⟨w.heap.size,2,none⟩=some (.int .i64 r.kind)):=B5.cell 2
  have e3:Hid ((W4.drewN nq).drew.cell? ⟨w.heap.size,3,none⟩=some (.int .i64 r.sym)):=B5.cell 3
  have e4:Hid ((W4.drewN nq).drew.cell? ⟨w.heap.size,4,none⟩=some (.int .i64 r.addend)):=B5.cell 4
  have HO5:Hid (yr (W4.drewN nq).drew g o):=yr.drew (HO.out.kept G5.out)
  have HT5:Hid (Tabs (W4.drewN nq).drew):=HT.out.grown (yi G5.out)
  have G6:=hid (yi G5.out)
  clear B5
  have hcr:=hid (show 1<=r.kind/\r.kind<=6 from by have:=p1.out; unfold ycv at this; omega)
  by_cases hab:yca o r
  ·have haf:=yel p2.out hab (yfm HW.out r.sect)
   have hoff:0<=r.off/\r.off<=1048576:=by
    obtain ⟨x1,x2,x3⟩:=hab
    have y1:=ybg HN.out r.sect
    have y2:=yaT p2.out
    omega
   have cAb:=hid (fun W (hW:yr W g o)=>ydd g o r W hW HN.out p2.out hab)
   have cWg:=hid (fun W ao cap (hW:Tabs W) (hI:yz W ao (yU o r))=>show Calls Tryz.prog 206 #[.int .i64 r.kind,.slice ao (yau r).toNat cap] W fun e w'=>yg e (yaA r.kind (yU o r))/\W.grownBy w' none from by
    rw [<- haf.1]
    exact ygp r.kind ao cap (yU o r) W hW hI haf.2.1 haf.2.2.1 haf.2.2.2 hcr.out (fun h=>by rw [haf.1]; unfold yau; rw [if_pos h]; rfl))
   have cSw:=hid (fun W (hW:yr W g o)=>ydY g o r W hW HN.out p2.out hoff.1 hoff.2)
   have HAB:=hid hab
   unfold relA at cAb cSw
   clear hab haf hoff
   generalize (yau r).toNat=sp at *
   by_cases hg:yaA r.kind (yU o r)
   ·have HGO:=hid hg
    clear hg
    go_region_held3 (fun w'=>w'.cell? ⟨w.heap.size,0,none⟩=some (.int .i64 r.sect)/\w'.cell? ⟨w.heap.size,1,none⟩=some (.int .i64 r.off)/\w'.cell? ⟨w.heap.size,2,none⟩=some (.int .i64 r.kind)/\w'.cell? ⟨w.heap.size,3,none⟩=some (.int .i64 r.sym)/\w'.cell? ⟨w.heap.size,4,none⟩=some (.int .i64 r.addend))
     (go_keep)
     (first | (go_at_call 207; refine (cAb.out _ HO5.out).mono ?_; rintro e w5 ⟨ao,cap,rfl,hI,hq⟩; have s0:=yd e0.out hq; have s1:=yd e1.out hq; have s2:=yd e2.out hq; have s3:=yd e3.out hq; have s4:=yd e4.out hq) | (go_at_call 206; refine (cWg.out _ ao cap (HT5.out.grown hq) hI).mono ?_; rintro e w6 ⟨ht6,hq2⟩; obtain rfl:=yfI ht6 HGO.out; have z0:=yd s0 hq2; have z1:=yd s1 hq2; have z2:=yd s2 hq2; have z3:=yd s3 hq2; have z4:=yd s4 hq2) | (go_at_call 208; refine (cSw.out _ ((HO5.out.kept hq).kept hq2)).mono ?_; rintro e w7 ⟨⟨b,rfl,hb⟩,hq3⟩; have y0:=yd z0 hq3; have y1:=yd z1 hq3; have y2:=yd z2 hq3; have y3:=yd z3 hq3; have y4:=yd z4 hq3))
    have GF:=hid (ya (ya (ya G6.out hq) hq2) hq3)
    have HBB:=hid hb
    clear hb hq hq2 hq3 s0 s1 s2 s3 s4 z0 z1 z2 z3 z4 y0 y1 y2 y3 y4 hI ht6
    go_wp2
    go_ret
    refine ⟨yg.of ?_,GF.out⟩
    have hbb:=HBB.out
    constructor
    ·intro h
     refine ⟨p1.out,p2.out,p3.out,HBD.out,HAB.out,HGO.out,fun hwi=>?_⟩
     rw [hbb.2 hwi] at h
     simp at h
    ·intro h
     cases b
     ·rfl
     ·exact absurd (hbb.1 rfl) h.2.2.2.2.2.2
   ·have HGO:=hid hg
    clear hg
    refine wp_region_held_drew (S:=(fun w'=>w'.cell? ⟨w.heap.size,0,none⟩=some (.int .i64 r.sect)/\w'.cell? ⟨w.heap.size,1,none⟩=some (.int .i64 r.off)/\w'.cell? ⟨w.heap.size,2,none⟩=some (.int .i64 r.kind)/\w'.cell? ⟨w.heap.size,3,none⟩=some (.int .i64 r.sym)/\w'.cell? ⟨w.heap.size,4,none⟩=some (.int .i64 r.addend))) (by kernel_rfl) ⟨e0.out,e1.out,e2.out,e3.out,e4.out⟩ ?_
    intro hS
    refine wpAnyH_take (i:=0) (v:=?_) rfl (by kernel_rfl) (by kernel_rfl) (by kernel_rfl) (fun _ _ _ h=>h) (Or.inl ⟨by kernel_rfl,?_⟩) hS ?_
    rotate_left
    ·intro w' _; go_simp; with_reducible rfl
    refine wpAnyH_take (i:=1) (v:=?_) rfl (by kernel_rfl) (by kernel_rfl) (by kernel_rfl) (fun _ _ _ h=>h) (Or.inl ⟨by kernel_rfl,?_⟩) hS ?_
    rotate_left
    ·intro w' hw'; obtain ⟨x0,x1,x2,x3,x4⟩:=hw'; go_simp; with_reducible rfl
    refine wpAnyH_take (i:=2) (v:=?_) rfl (by kernel_rfl) (by kernel_rfl) (by kernel_rfl) (fun _ _ _ h=>h) (Or.inl ⟨by kernel_rfl,?_⟩) hS ?_
    rotate_left
    ·intro w' _; go_simp; with_reducible rfl
    refine wpAnyH_take (i:=3) (v:=?_) rfl (by kernel_rfl) (by kernel_rfl) (by kernel_rfl) (fun _ _ _ h=>h) (Or.inl ⟨by kernel_rfl,?_⟩) hS ?_
    rotate_left
    ·intro w' hw'; obtain ⟨x0,x1,x2,x3,x4⟩:=hw'; go_simp; with_reducible rfl
    refine wpAnyH_ready (rs:=[4]) (by kernel_rfl) (by simp) ?_
    refine AllReadyH.cons rfl (fun K hK=>?_) AllReadyH.nil
    go_simp
    go_wp2_with (go_at_call 207; refine (cAb.out _ HO5.out).mono ?_; rintro e w5 ⟨ao,cap,rfl,hI,hq⟩)
    refine hK.out _ _ ⟨yd e0.out hq,yd e1.out hq,yd e2.out hq,yd e3.out hq,yd e4.out hq⟩ (fun hS2=>?_)
    clear hK K
    refine wpAnyH_ready (rs:=[5]) (by kernel_rfl) (by simp) ?_
    refine AllReadyH.cons rfl (fun K hK=>?_) AllReadyH.nil
    go_simp
    go_wp2_with (go_at_call 206; refine (cWg.out _ ao cap (HT5.out.grown hq) hI).mono ?_; rintro e w6 ⟨ht6,hq2⟩; obtain rfl:=ykq ht6 HGO.out)
    refine hK.out _ _ ⟨yd (yd e0.out hq) hq2,yd (yd e1.out hq) hq2,yd (yd e2.out hq) hq2,yd (yd e3.out hq) hq2,yd (yd e4.out hq) hq2⟩ (fun hS3=>?_)
    clear hK K
    refine wpAnyH_take (i:=6) (v:=?_) rfl (by kernel_rfl) (by kernel_rfl) (by kernel_rfl) (fun _ _ _ h=>h) (Or.inl ⟨by kernel_rfl,?_⟩) hS3 ?_
    rotate_left
    ·intro w' _; go_simp; with_reducible rfl
    refine wpAnyH_take (i:=7) (v:=undef) rfl (by kernel_rfl) (by kernel_rfl) (by kernel_rfl) (fun _ _ _ h=>h) (Or.inr ⟨by kernel_rfl,rfl⟩) hS3 ?_
    refine wpAnyH_take (i:=8) (v:=undef) rfl (by kernel_rfl) (by kernel_rfl) (by kernel_rfl) (fun _ _ _ h=>h) (Or.inr ⟨by kernel_rfl,rfl⟩) hS3 ?_
    refine wpAnyH_take (i:=9) (v:=undef) rfl (by kernel_rfl) (by kernel_rfl) (by kernel_rfl) (fun _ _ _ h=>h) (Or.inr ⟨by kernel_rfl,rfl⟩) hS3 ?_
    refine wpAnyH_take (i:=10) (v:=undef) rfl (by kernel_rfl) (by kernel_rfl) (by kernel_rfl) (fun _ _ _ h=>h) (Or.inr ⟨by kernel_rfl,rfl⟩) hS3 ?_
    refine wpAnyH_take (i:=11) (v:=.bool false) rfl (by kernel_rfl) (by kernel_rfl) (by kernel_rfl) (fun _ _ _ h=>h) (Or.inl ⟨by kernel_rfl,fun _ _=>by kernel_rfl⟩) hS3 ?_
    refine wpAnyH_take (i:=12) (v:=.bool false) rfl (by kernel_rfl) (by kernel_rfl) (by kernel_rfl) (fun _ _ _ h=>h) (Or.inl ⟨by kernel_rfl,fun _ _=>by kernel_rfl⟩) hS3 ?_
    refine wpAnyH_done (by kernel_rfl) ?_ _
    simp only [yaL,ysy,ysw,ysx,yso,ysm,ysn]
    go_wp2
    go_ret
    exact no.out _ (fun h=>HGO.out h.2.2.2.2.2.1) (ya (ya G6.out hq) hq2)
  ·have cAb:=hid (fun W (hW:yr W g o)=>yfc g o r W hW HN.out p2.out hab hr)
   have cWg:=hid (fun W=>ygq r.kind W)
   have HAB:=hid hab
   unfold relA at cAb
   clear hab
   refine wp_region_held_drew (S:=(fun w'=>w'.cell? ⟨w.heap.size,0,none⟩=some (.int .i64 r.sect)/\w'.cell? ⟨w.heap.size,1,none⟩=some (.int .i64 r.off)/\w'.cell? ⟨w.heap.size,2,none⟩=some (.int .i64 r.kind)/\w'.cell? ⟨w.heap.size,3,none⟩=some (.int .i64 r.sym)/\w'.cell? ⟨w.heap.size,4,none⟩=some (.int .i64 r.addend))) (by kernel_rfl) ⟨e0.out,e1.out,e2.out,e3.out,e4.out⟩ ?_
   intro hS
   refine wpAnyH_take (i:=0) (v:=?_) rfl (by kernel_rfl) (by kernel_rfl) (by kernel_rfl) (fun _ _ _ h=>h) (Or.inl ⟨by kernel_rfl,?_⟩) hS ?_
   rotate_left
   ·intro w' _; go_simp; with_reducible rfl
   refine wpAnyH_take (i:=1) (v:=?_) rfl (by kernel_rfl) (by kernel_rfl) (by kernel_rfl) (fun _ _ _ h=>h) (Or.inl ⟨by kernel_rfl,?_⟩) hS ?_
   rotate_left
   ·intro w' hw'; obtain ⟨x0,x1,x2,x3,x4⟩:=hw'; go_simp; with_reducible rfl
   refine wpAnyH_take (i:=2) (v:=?_) rfl (by kernel_rfl) (by kernel_rfl) (by kernel_rfl) (fun _ _ _ h=>h) (Or.inl ⟨by kernel_rfl,?_⟩) hS ?_
   rotate_left
   ·intro w' _; go_simp; with_reducible rfl
   refine wpAnyH_take (i:=3) (v:=?_) rfl (by kernel_rfl) (by kernel_rfl) (by kernel_rfl) (fun _ _ _ h=>h) (Or.inl ⟨by kernel_rfl,?_⟩) hS ?_
   rotate_left
   ·intro w' hw'; obtain ⟨x0,x1,x2,x3,x4⟩:=hw'; go_simp; with_reducible rfl
   refine wpAnyH_ready (rs:=[4]) (by kernel_rfl) (by simp) ?_
   refine AllReadyH.cons rfl (fun K hK=>?_) AllReadyH.nil
   go_simp
   go_wp2_with (go_at_call 207; refine (cAb.out _ HO5.out).mono ?_; rintro e w5 ⟨rfl,hq⟩)
   refine hK.out _ _ ⟨yd e0.out hq,yd e1.out hq,yd e2.out hq,yd e3.out hq,yd e4.out hq⟩ (fun hS2=>?_)
   clear hK K
   refine wpAnyH_ready (rs:=[5]) (by kernel_rfl) (by simp) ?_
   refine AllReadyH.cons rfl (fun K hK=>?_) AllReadyH.nil
   go_simp
   go_wp2_with (go_at_call 206; refine (cWg.out _).mono ?_; rintro e w6 ⟨rfl,hw6⟩)
   subst hw6
   refine hK.out _ _ ⟨yd e0.out hq,yd e1.out hq,yd e2.out hq,yd e3.out hq,yd e4.out hq⟩ (fun hS3=>?_)
   clear hK K
   refine wpAnyH_take (i:=6) (v:=?_) rfl (by kernel_rfl) (by kernel_rfl) (by kernel_rfl) (fun _ _ _ h=>h) (Or.inl ⟨by kernel_rfl,?_⟩) hS3 ?_
   rotate_left
   ·intro w' _; go_simp; with_reducible rfl
   refine wpAnyH_take (i:=7) (v:=undef) rfl (by kernel_rfl) (by kernel_rfl) (by kernel_rfl) (fun _ _ _ h=>h) (Or.inr ⟨by kernel_rfl,rfl⟩) hS3 ?_
   refine wpAnyH_take (i:=8) (v:=undef) rfl (by kernel_rfl) (by kernel_rfl) (by kernel_rfl) (fun _ _ _ h=>h) (Or.inr ⟨by kernel_rfl,rfl⟩) hS3 ?_
   refine wpAnyH_take (i:=9) (v:=undef) rfl (by kernel_rfl) (by kernel_rfl) (by kernel_rfl) (fun _ _ _ h=>h) (Or.inr ⟨by kernel_rfl,rfl⟩) hS3 ?_
   refine wpAnyH_take (i:=10) (v:=undef) rfl (by kernel_rfl) (by kernel_rfl) (by kernel_rfl) (fun _ _ _ h=>h) (Or.inr ⟨by kernel_rfl,rfl⟩) hS3 ?_
   refine wpAnyH_take (i:=11) (v:=.bool false) rfl (by kernel_rfl) (by kernel_rfl) (by kernel_rfl) (fun _ _ _ h=>h) (Or.inl ⟨by kernel_rfl,fun _ _=>by kernel_rfl⟩) hS3 ?_
   refine wpAnyH_take (i:=12) (v:=.bool false) rfl (by kernel_rfl) (by kernel_rfl) (by kernel_rfl) (fun _ _ _ h=>h) (Or.inl ⟨by kernel_rfl,fun _ _=>by kernel_rfl⟩) hS3 ?_
   refine wpAnyH_done (by kernel_rfl) ?_ _
   simp only [yaL,ysy,ysw,ysx,yso,ysm,ysn]
   go_wp2
   go_ret
   exact no.out _ (fun h=>HAB.out h.2.2.2.2.1) (ya G6.out hq)
def ycj (w:World) (ao:Option Addr) (ys:List Lk.Rel):Prop :=
 0 < ys.length->∃ g,ao=some ⟨g,0,none⟩/\g < w.heap.size/\∀ i (h:i < ys.length),w.cell? ⟨g,i * 5,none⟩=some (.int .i64 ys[i].sect)/\w.cell? ⟨g,i * 5+1,none⟩=some (.int .i64 ys[i].off) /\
  w.cell? ⟨g,i * 5+2,none⟩=some (.int .i64 ys[i].kind)/\w.cell? ⟨g,i * 5+3,none⟩=some (.int .i64 ys[i].sym)/\w.cell? ⟨g,i * 5+4,none⟩=some (.int .i64 ys[i].addend)
theorem ycj.of_own {w:World} {base:Nat} {ao:Option Addr} {n cap:Nat} {ys:List Lk.Rel} (h:w.ownsRow base 102 5 (.slice ao n cap) n (ys.flatMap relV)):ycj w ao ys:=by
 intro h0
 have hl:(ys.flatMap relV).length=ys.length * 5:=by
  clear h h0
  induction ys with
  | nil=>rfl
  | cons y t ih=>rw [List.flatMap_cons,ysq,ih]; simp [relV]; omega
 have hn:ys.length=n:=by have:=h.1; omega
 have hlt:=h.lt
 rcases h.2 with ⟨h1,h2⟩ | ⟨g,cap',cur,hv,_⟩
 ·simp at h1; omega
 ·simp only [Value.slice.injEq] at hv
  obtain ⟨rfl,_,rfl⟩:=hv
  refine ⟨g,rfl,(hlt g rfl).2,fun i hi=>?_⟩
  have q:=fun j (hj:j < 5)=>(h.cellAt (i * 5+j) (by omega)).trans (yde relV 5 (fun _=>rfl) ys i j hi hj)
  exact ⟨q 0 (by omega),q 1 (by omega),q 2 (by omega),q 3 (by omega),q 4 (by omega)⟩
theorem ycj.grown {w w':World} {ao:Option Addr} {ys:List Lk.Rel} (h:ycj w ao ys) (hg:w.grownBy w' none):ycj w' ao ys:=by
 intro h0
 obtain ⟨g,h1,h2,h3⟩:=h h0
 refine ⟨g,h1,Nat.lt_of_lt_of_le h2 hg.size,fun i hi=>?_⟩
 obtain ⟨a,b,c,d,e⟩:=h3 i hi
 exact ⟨yd a hg,yd b hg,yd c hg,yd d hg,yd e hg⟩
def yfo (o:Lk.Obj):Prop:=∀ i (h:i < o.rels.length),ydE o o.rels[i]/\(∀ _:0 < i,ybS (o.rels[i - 1]'(by omega)) o.rels[i])
set_option maxHeartbeats 4000000 in
theorem yhp (g:Nat) (o:Lk.Obj) (w:World) (ht:Tabs w) (h:yr w g o) (hn:yby o) (hb4:ybu o.align) (hw:ych o) (hr:∀ r∈o.rels,r.off<=9223372036854775807) :
  Calls Tryz.prog 97 #[.pointer (some ⟨g,0,none⟩)] w fun e w'=>yg e (yfo o)/\w.grownBy w' none:=by
 obtain ⟨at_,ct,af,cf,ad,cd,aa,ca,as_,cs,ar,cr,hb,h1,h2,h3,h4,h5,h6⟩:=h.open
 have k6:=hb.cell 6
 have S:=hid (ycj.of_own h6)
 have hns:=hn.2.2.2.2.2
 have HB:=hid hb
 have HO:=hid h
 have HN:=hid hn
 have HT:=hid ht
 have HB4:=hid hb4
 have HW:=hid hw
 have HR:=hid hr
 clear h hn hb h1 h2 h3 h4 h5 h6 ht hb4 hw hr
 go_enter Tryz.func97,Tryz.ntmps97
 go_wp2
 go_loopw [10] (fun i wr=>∃ k:Nat,k<=o.rels.length/\i = .int .i64 k/\(∀ i (h:i < o.rels.length),i < k->ydE o o.rels[i]/\(∀ _:0 < i,ybS (o.rels[i - 1]'(by omega)) o.rels[i]))/\w.grownBy wr none) (fun i _=>o.rels.length - (intOf i).toNat)
 case atStart=>exact ⟨0,Nat.zero_le _,rfl,fun j _ hj=>absurd hj (Nat.not_lt_zero j),World.grownBy.refl _ _⟩
 case round =>
  obtain ⟨k,hk,rfl,hall,hgr⟩:=hrel
  have HA:=hid hall
  have HG:=hid hgr
  clear hall hgr
  by_cases hlt:k < o.rels.length
  ·obtain ⟨sg,hao,hgs,hc⟩:=S.out.grown HG.out (by omega)
   subst hao
   obtain ⟨q0,q1,q2,q3,q4⟩:=hc k hlt
   have HC:=hid hc
   clear hc
   have cV:=hid (fun W (hT:Tabs W) (hW:yr W g o)=>yia g o o.rels[k] W hT hW HN.out HB4.out HW.out (HR.out _ (ysr hlt)))
   unfold relA at cV
   have B1:=hid (yc.new wr #[.int .i64 o.rels[k].sect,.int .i64 o.rels[k].off,.int .i64 o.rels[k].kind,.int .i64 o.rels[k].sym,.int .i64 o.rels[k].addend] 102)
   have GA:=hid (ysp wr (.cells #[.int .i64 o.rels[k].sect,.int .i64 o.rels[k].off,.int .i64 o.rels[k].kind,.int .i64 o.rels[k].sym,.int .i64 o.rels[k].addend] 102) none)
   go_wp2_with fail
   refine (cV.out _ (HT.out.grown (ya HG.out GA.out)) (HO.out.kept (ya HG.out GA.out))).mono ?_
   rintro e W2 ⟨t,q⟩
   have G2:=hid (ya (ya HG.out GA.out) q)
   have B2:=hid (B1.out.grown q (by simp))
   have GQ:=hid (ya GA.out q)
   rcases t.split with ⟨rfl,p1⟩ | ⟨rfl,p1⟩ <;> clear t q
   ·go_wp2
    go_ret
    exact ⟨yg.no (fun h=>p1.out (h k hlt).1),G2.out⟩
   by_cases hk0:k=0
   ·subst hk0
    have d0:decide ((0:Int) < 0)=false:=by simp
    go_wp2
    go_quiet (fail)
    go_wp2
    go_roundw
    case rel=>exact ⟨1,by omega,rfl,fun j hj hjk=>by
     have:j=0:=by omega
     subst this
     exact ⟨p1.out,fun h=>by omega⟩,ye G2.out _⟩
    case measure=>simp [intOf]; omega
   ·have hk1:1<=k:=by omega
    have hpl:k - 1 < o.rels.length:=by omega
    have hprev:=(HA.out (k - 1) hpl (by omega)).1
    have hoff:0<=(o.rels[k - 1]'hpl).off/\(o.rels[k - 1]'hpl).off<=1048576:=by
     obtain ⟨x1,x2,x3⟩:=hprev.2.2.2.2.1
     have y1:=ybg HN.out (o.rels[k - 1]'hpl).sect
     have y2:=yaT hprev.2.1
     omega
    have cF:=hid (fun W=>ykN (o.rels[k - 1]'hpl) o.rels[k] W hprev.2.1 hoff.1 hoff.2)
    have hcc:=HC.out (k - 1) hpl
    generalize hpr:o.rels[k - 1]'hpl=pr at *
    have HPR:=hid hpr
    clear hpr
    obtain ⟨r0,r1,r2,r3,r4⟩:=hcc
    unfold relA at cF
    have m6:=(HB.out.grown G2.out (by simp)).cell 6
    have n0:=yd r0 GQ.out
    have n1:=yd r1 GQ.out
    have n2:=yd r2 GQ.out
    have n3:=yd r3 GQ.out
    have n4:=yd r4 GQ.out
    have c0:=B2.out.cell 0
    have c1:=B2.out.cell 1
    have c2:=B2.out.cell 2
    have c3:=B2.out.cell 3
    have c4:=B2.out.cell 4
    have M6:Hid (W2.drew.cell? ⟨g,6,none⟩=some (.slice (some ⟨sg,0,none⟩) o.rels.length cr)):=m6
    have N0:Hid (W2.drew.cell? ⟨sg,(k - 1) * 5,none⟩=some (.int .i64 pr.sect)):=n0
    have N1:Hid (W2.drew.cell? ⟨sg,(k - 1) * 5+1,none⟩=some (.int .i64 pr.off)):=n1
    have N2:Hid (W2.drew.cell? ⟨sg,(k - 1) * 5+2,none⟩=some (.int .i64 pr.kind)):=n2
    have N3:Hid (W2.drew.cell? ⟨sg,(k - 1) * 5+3,none⟩=some (.int .i64 pr.sym)):=n3
    have N4:Hid (W2.drew.cell? ⟨sg,(k - 1) * 5+4,none⟩=some (.int .i64 pr.addend)):=n4
    have C0:Hid (W2.drew.cell? ⟨wr.heap.size,0,none⟩=some (.int .i64 o.rels[k].sect)):=c0
    have C1:Hid (W2.drew.cell? ⟨wr.heap.size,1,none⟩=some (.int .i64 o.rels[k].off)):=c1
    have C2:Hid (W2.drew.cell? ⟨wr.heap.size,2,none⟩=some (.int .i64 o.rels[k].kind)):=c2
    have C3:Hid (W2.drew.cell? ⟨wr.heap.size,3,none⟩=some (.int .i64 o.rels[k].sym)):=c3
    have C4:Hid (W2.drew.cell? ⟨wr.heap.size,4,none⟩=some (.int .i64 o.rels[k].addend)):=c4
    have hk2:0 < k:=by omega
    have d00:decide (0 < k)=true:=by simpa using hk2
    have d0:decide ((0:Int) < (k:Int))=true:=by simp; omega
    have g1:(1:Int)<=(k:Int):=by omega
    have g2:(k:Int) - 1 < (o.rels.length:Int):=by omega
    have g3:(0:Int)<=(k:Int) - 1:=by omega
    have hwk:IntKind.i64.wrap ((k:Int) - 1)=(k:Int) - 1:=IntWalk.i64_in _ ⟨by omega,by omega⟩
    have HP:=hid hprev
    clear hprev hoff q0 q1 q2 q3 q4 r0 r1 r2 r3 r4 hk0
    go_wp2
    go_region_held3 (fun w'=>w'.cell? ⟨g,6,none⟩=some (.slice (some ⟨sg,0,none⟩) o.rels.length cr)/\w'.cell? ⟨wr.heap.size,0,none⟩=some (.int .i64 o.rels[k].sect)/\w'.cell? ⟨wr.heap.size,1,none⟩=some (.int .i64 o.rels[k].off)/\w'.cell? ⟨wr.heap.size,2,none⟩=some (.int .i64 o.rels[k].kind)/\w'.cell? ⟨wr.heap.size,3,none⟩=some (.int .i64 o.rels[k].sym)/\w'.cell? ⟨wr.heap.size,4,none⟩=some (.int .i64 o.rels[k].addend)/\w'.cell? ⟨sg,(k - 1) * 5,none⟩=some (.int .i64 pr.sect)/\w'.cell? ⟨sg,(k - 1) * 5+1,none⟩=some (.int .i64 pr.off)/\w'.cell? ⟨sg,(k - 1) * 5+2,none⟩=some (.int .i64 pr.kind)/\w'.cell? ⟨sg,(k - 1) * 5+3,none⟩=some (.int .i64 pr.sym)/\w'.cell? ⟨sg,(k - 1) * 5+4,none⟩=some (.int .i64 pr.addend))
     (go_keep)
     (first | (go_at_call 162; refine (cF.out _).mono ?_; rintro e w5 ⟨⟨b,rfl,hb⟩,hq⟩; have s6:=yd M6.out hq; have s0:=yd C0.out hq; have s1:=yd C1.out hq; have s2:=yd C2.out hq; have s3:=yd C3.out hq; have s4:=yd C4.out hq; have t0:=yd N0.out hq; have t1:=yd N1.out hq; have t2:=yd N2.out hq; have t3:=yd N3.out hq; have t4:=yd N4.out hq))
    have HBB:=hid hb
    have GF:=hid (ya (yi G2.out) hq)
    clear hb hq s6 s0 s1 s2 s3 s4 t0 t1 t2 t3 t4 c0 c1 c2 c3 c4 n0 n1 n2 n3 n4 m6
    cases b
    ·have NF:=hid (show ¬ ybS pr o.rels[k] from fun h=>by have:=HBB.out.2 h; simp at this)
     clear HBB
     go_wp2
     go_ret
     exact ⟨yg.no (fun h=>NF.out (HPR.out ▸ (h k hlt).2 hk2)),GF.out⟩
    ·have YF:=hid (show ybS pr o.rels[k] from HBB.out.1 rfl)
     clear HBB
     go_wp2
     go_roundw
     case rel=>exact ⟨k+1,by omega,by go_num,fun j hj hjk=>(Nat.lt_succ_iff_lt_or_eq.1 hjk).elim (fun h=>HA.out j hj h) (fun h=>by subst h; exact ⟨p1.out,fun _=>by rw [HPR.out]; exact YF.out⟩),GF.out⟩
     case measure=>simp [intOf]; omega
  ·go_wp2
   go_ret
   exact ⟨yg.yes fun i hi=>HA.out i hi (by omega),HG.out⟩
def yv (o:Lk.Obj):Prop:=yeJ o/\ybu o.align/\ych o/\yfp o/\yfo o
def Tame (o:Lk.Obj):Prop:=yby o/\(∀ y∈o.syms,y.name.length<=255)/\∀ r∈o.rels,r.off<=9223372036854775807
set_option maxHeartbeats 4000000 in
theorem yfJ (g:Nat) (o:Lk.Obj) (w:World) (ht:Tabs w) (h:yr w g o) (hn:Tame o) :
  Calls Tryz.prog 56 #[.pointer (some ⟨g,0,none⟩)] w fun e w'=>yg e (yv o)/\w.grownBy w' none:=by
 obtain ⟨at_,ct,af,cf,ad,cd,aa,ca,as_,cs,ar,cr,hb,h1,h2,h3,h4,h5,h6⟩:=h.open
 have k4:=hb.cell 4
 have c1:=hid (yib g o w h hn.1)
 have c2:=hid (ygB aa ca o.align w (yz.of_own h4) hn.1.2.2.2.1)
 have c3:=hid (yid g o w h hn.1)
 have HO:=hid h
 have HT:=hid ht
 have HN:=hid hn
 clear h ht hn hb h1 h2 h3 h4 h5 h6
 go_enter Tryz.func56,Tryz.ntmps56
 go_wp2_with fail
 refine c1.out.mono ?_
 rintro e w1 ⟨t,rfl⟩
 rcases t.split with ⟨rfl,p1⟩ | ⟨rfl,p1⟩ <;> clear t c1
 ·go_wp2
  go_ret
  exact ⟨yg.no (fun h=>p1.out h.1),World.grownBy.refl _ _⟩
 go_wp2_with fail
 refine c2.out.mono ?_
 rintro e w2 ⟨t,rfl⟩
 rcases t.split with ⟨rfl,p2⟩ | ⟨rfl,p2⟩ <;> clear t c2
 ·go_wp2
  go_ret
  exact ⟨yg.no (fun h=>p2.out h.2.1),World.grownBy.refl _ _⟩
 go_wp2_with fail
 refine c3.out.mono ?_
 rintro e w3 ⟨t,rfl⟩
 rcases t.split with ⟨rfl,p3⟩ | ⟨rfl,p3⟩ <;> clear t c3
 ·go_wp2
  go_ret
  exact ⟨yg.no (fun h=>p3.out h.2.2.1),World.grownBy.refl _ _⟩
 have c4:=hid (ygC g o w3 HO.out HN.out.1 p1.out.2.1 HN.out.2.1)
 go_wp2_with fail
 refine c4.out.mono ?_
 rintro e w4 ⟨t,q4⟩
 have Q4:=hid q4
 rcases t.split with ⟨rfl,p4⟩ | ⟨rfl,p4⟩ <;> clear t c4 q4
 ·go_wp2
  go_ret
  exact ⟨yg.no (fun h=>p4.out h.2.2.2.1),Q4.out⟩
 have c5:=hid (yhp g o w4 (HT.out.grown Q4.out) (HO.out.kept Q4.out) HN.out.1 p2.out p3.out HN.out.2.2)
 go_wp2_with fail
 refine c5.out.mono ?_
 rintro e w5 ⟨t,q5⟩
 have Q5:=hid (ya Q4.out q5)
 rcases t.split with ⟨rfl,p5⟩ | ⟨rfl,p5⟩ <;> clear t c5 q5
 ·go_wp2
  go_ret
  exact ⟨yg.no (fun h=>p5.out h.2.2.2.2),Q5.out⟩
 go_wp2
 go_ret
 exact ⟨yg.yes ⟨p1.out,p2.out,p3.out,p4.out,p5.out⟩,Q5.out⟩
theorem ybC {w a c:World} {b:Nat} (h:w.grownBy a none) (k:a.grownBy c (some b)) (hb:w.heap.size<=b):w.grownBy c none :=
 ⟨k.os.trans h.os,k.tape.trans h.tape,k.output.trans h.output,Nat.le_trans h.size k.size,fun i hi _ =>
  (k.block i (Nat.lt_of_lt_of_le hi h.size) (by simp; omega)).trans (h.block i hi (by simp))⟩
theorem ydw {o:Lk.Obj} (h:Lk.goodObj o):Tame o:=by
 obtain ⟨h1,h2,h3,h4,h5,h6,h7,h8,h9,h10,h11,h12,h13⟩:=h
 refine ⟨⟨by omega,by omega,by omega,by omega,by omega,by omega⟩,fun y hy=>?_,fun r hr=>?_⟩
 ·have:=(h9 y hy).1; omega
 ·have:=(h10 r hr).2.2.1.2; omega
def ypW (w:World) (s:ByteArray) (e:Ending) (w':World):Prop :=
 (∃ o g,Lk.readObj (sl s)=some o/\yv o/\e = .returned (.tuple #[.pointer (some ⟨g,0,none⟩),.int .i64 0])/\yr w' g o/\w.heap.size<=g) \/
 ((∀ o,Lk.readObj (sl s)=some o->¬ yv o)/\e = .returned (.tuple #[.pointer none,.int .i64 20]))
set_option maxHeartbeats 4000000 in
theorem ygz (s:ByteArray) (w:World) (ht:Tabs w) (hs:s.size<=1048576) :
  Calls Tryz.prog 98 #[.string s] w fun e w'=>ypW w s e w'/\w.grownBy w' none:=by
 have HT:=hid ht
 clear ht
 go_enter Tryz.func98,Tryz.ntmps98
 go_wp2_with fail
 refine (ydA s w).mono ?_
 rintro e W1 ⟨rfl,g1⟩
 have R:RdAt (W1.alloc (.cells #[.string s,.int .i64 0,.bool false] 83)) W1.heap.size s 0 false:=heap_alloc_new W1 _
 have HR:=hid R
 have G1:=hid g1
 have GA:=hid (ysp W1 (.cells #[.string s,.int .i64 0,.bool false] 83) none)
 have hz:=hid g1.size
 clear R g1
 by_cases hm:(Lk.rdText (sl s) 2 (0,false)).1=[76,75]
 ·have cR:=hid (yhP W1.heap.size s 0 false _ HR.out hs (Nat.zero_le _) hm)
  have hro:=hid (show Lk.readObj (sl s)=if (Lk.rdRest (sl s) (Lk.rdText (sl s) 2 (0,false)).2).2=((sl s).length,false) then some (Lk.rdRest (sl s) (Lk.rdText (sl s) 2 (0,false)).2).1 else none from by unfold Lk.readObj; rw [if_pos hm])
  generalize Lk.rdRest (sl s) (Lk.rdText (sl s) 2 (0,false)).2=X at *
  obtain ⟨o,p',s'⟩:=X
  simp only at cR hro
  clear hm
  go_wp2_with fail
  refine cR.out.mono ?_
  rintro e W2 ⟨g,rfl,hg,hobj,hrd,hgr⟩
  have HOB:=hid hobj
  have HRD:=hid hrd
  have GR:=hid hgr
  have HGG:=hid hg
  clear hobj hrd hgr hg cR
  have cD:=hid (ygt W1.heap.size s p' s' W2 HRD.out)
  go_wp2_with fail
  refine cD.out.mono ?_
  rintro e W3 ⟨rfl,kd,rfl⟩
  have GF:=hid (ye (ybC (ya G1.out GA.out) GR.out hz.out) kd)
  clear cD
  have hsz:=yq s
  by_cases hd:s'=false/\p'=s.size
  ·obtain ⟨rfl,rfl⟩:=hd
   have hro2:Lk.readObj (sl s)=some o:=by rw [hro.out,if_pos (by rw [hsz])]
   have HRO:=hid hro2
   have hgood:=((Lk.readObj_iff (sl s) o).1 hro2).1
   have cV:=hid (yfJ g o (W2.drewN kd) (HT.out.grown GF.out) (HOB.out.drewN kd) (ydw hgood))
   have dd:(!false && decide (s.size=s.size))=true:=by simp
   clear hro2 hgood hsz hro
   go_wp2_with fail
   refine cV.out.mono ?_
   rintro e W4 ⟨t,q⟩
   have GQ:=hid (ya GF.out q)
   have HO4:=hid ((HOB.out.drewN kd).kept q)
   rcases t.split with ⟨rfl,pv⟩ | ⟨rfl,pv⟩ <;> clear t q cV
   ·go_wp2
    go_ret2
    exact ⟨.inr ⟨fun o' ho'=>by have h1:=HRO.out.symm.trans ho'; simp only [Option.some.injEq] at h1; subst h1; exact pv.out,rfl⟩,GQ.out⟩
   ·go_wp2
    go_ret2
    refine ⟨.inl ⟨o,g,HRO.out,pv.out,rfl,HO4.out,?_⟩,GQ.out⟩
    have h1:=HGG.out
    have h2:=hz.out
    simp at h1
    omega
  ·have hro2:Lk.readObj (sl s)=none:=by
    rw [hro.out,if_neg]
    intro h
    simp only [Prod.mk.injEq] at h
    exact hd ⟨h.2,by rw [<- hsz]; exact h.1⟩
   have HRO:=hid hro2
   have dd:(!s' && decide (p'=s.size))=false:=by
    cases s'
    ·simp at hd ⊢; exact hd
    ·rfl
   clear hro2 hro hsz hd
   go_wp2
   go_ret2
   exact ⟨.inr ⟨fun o' ho'=>by have h1:=HRO.out.symm.trans ho'; simp at h1,rfl⟩,GF.out⟩
 ·have cR:=hid (yiI W1.heap.size s 0 false _ HR.out hs (Nat.zero_le _) hm)
  have hro:=hid (show Lk.readObj (sl s)=none from by unfold Lk.readObj; rw [if_neg hm])
  clear hm
  go_wp2_with fail
  refine cR.out.mono ?_
  rintro e W2 ⟨rfl,hgr⟩
  have GR:=hid hgr
  clear hgr cR
  go_wp2
  go_ret2
  exact ⟨.inr ⟨fun o' ho'=>by have h1:=hro.out.symm.trans ho'; simp at h1,rfl⟩,ybC (ya G1.out GA.out) GR.out hz.out⟩
def symA (y:Lk.Sym):Value:=.agg #[.string (bs y.name),.int .i64 y.bind,.int .i64 y.sect,.int .i64 y.off]
def ygH (w:World) (ao:Option Addr) (bl:List Nat):Prop :=
 0 < bl.length->∃ g off,ao=some ⟨g,off,none⟩/\∀ i (h:i < bl.length),w.cell? ⟨g,off+i,none⟩=some (.pointer (some ⟨bl[i],0,none⟩))
def ModO (w:World) (b:Nat) (o:Lk.Obj):Prop:=∃ g,w.cell? ⟨b,0,none⟩=some (.pointer (some ⟨g,0,none⟩))/\yr w g o
structure yaV (w:World) (ao:Option Addr) (bl:List Nat) (os:List Lk.Obj):Prop where
 ptrs:ygH w ao bl
 len:bl.length=os.length
 mod:∀ i (h:i < bl.length) (h':i < os.length),ModO w bl[i] os[i]
 few:os.length<=4096
 syms:∀ o∈os,o.syms.length<=65535
theorem ModO.kept {w w':World} {b:Nat} {o:Lk.Obj} (h:ModO w b o) (hg:w.grownBy w' none):ModO w' b o:=by
 obtain ⟨g,h1,h2⟩:=h
 exact ⟨g,yd h1 hg,h2.kept hg⟩
theorem ygH.kept {w w':World} {ao:Option Addr} {bl:List Nat} (h:ygH w ao bl) (hg:w.grownBy w' none):ygH w' ao bl:=by
 intro hp
 obtain ⟨g,off,e,hc⟩:=h hp
 exact ⟨g,off,e,fun i hi=>yd (hc i hi) hg⟩
theorem yaV.kept {w w':World} {ao:Option Addr} {bl:List Nat} {os:List Lk.Obj} (h:yaV w ao bl os) (hg:w.grownBy w' none):yaV w' ao bl os :=
 ⟨h.ptrs.kept hg,h.len,fun i h1 h2=>(h.mod i h1 h2).kept hg,h.few,h.syms⟩
theorem yaV.take {w:World} {ao:Option Addr} {bl:List Nat} {os:List Lk.Obj} (h:yaV w ao bl os) (k:Nat):yaV w ao (bl.take k) (os.take k):=by
 refine ⟨?_,by rw [List.length_take,List.length_take,h.len],fun i h1 h2=>?_,?_,fun o ho=>h.syms o (List.mem_of_mem_take ho)⟩
 ·intro hp
  have hp2:0 < bl.length:=by rw [List.length_take] at hp; omega
  obtain ⟨g,off,e,hc⟩:=h.ptrs hp2
  refine ⟨g,off,e,fun i hi=>?_⟩
  rw [List.length_take] at hi
  rw [List.getElem_take]
  exact hc i (by omega)
 ·rw [List.length_take] at h1 h2
  rw [List.getElem_take,List.getElem_take]
  exact h.mod i (by omega) (by omega)
 ·have:=h.few; rw [List.length_take]; omega
def yap (bl:List Nat) (m:Option Nat):Option Addr:=m.bind fun i=>bl[i]?.map fun b=>⟨b,0,none⟩
def yay (bl:List Nat) (s:Ln.Spot):Value:=.agg #[.pointer (yap bl s.mod),.int .i64 s.sect,.int .i64 s.off]
theorem yaI {a b:Bool} (h:a=b):Ending.returned (.bool a) = .returned (.bool b):=by rw [h]
set_option maxHeartbeats 2000000 in
theorem yhs (y:Lk.Sym) (w:World):Calls Tryz.prog 103 #[symA y] w fun e w'=>e = .returned (.bool (Ln.wanted y))/\w.grownBy w' none:=by
 unfold symA
 by_cases h1:y.bind=1
 ·have d1:(y.bind == 1)=true:=by simpa using h1
  by_cases h2:y.sect=0
  ·have R:=hid (show Ln.wanted y=true by unfold Ln.wanted; rw [decide_eq_true h1,decide_eq_true h2]; rfl)
   have d2:(y.sect == 0)=true:=by simpa using h2
   clear h1 h2
   go_enter Tryz.func103,Tryz.ntmps103
   go_wp2
   go_ret
   exact ⟨yaI R.out.symm,ysp _ _ _⟩
  ·have R:=hid (show Ln.wanted y=false by unfold Ln.wanted; rw [decide_eq_false h2]; simp)
   have d2:(y.sect == 0)=false:=by simpa using h2
   clear h1 h2
   go_enter Tryz.func103,Tryz.ntmps103
   go_wp2
   go_ret
   exact ⟨yaI R.out.symm,ysp _ _ _⟩
 ·have R:=hid (show Ln.wanted y=false by unfold Ln.wanted; rw [decide_eq_false h1]; simp)
  have d1:(y.bind == 1)=false:=by simpa using h1
  clear h1
  go_enter Tryz.func103,Tryz.ntmps103
  go_wp2
  go_ret
  exact ⟨yaI R.out.symm,ysp _ _ _⟩
set_option maxHeartbeats 2000000 in
theorem yfX (y:Lk.Sym) (w:World):Calls Tryz.prog 212 #[symA y] w fun e w'=>e = .returned (.bool (Ln.defines y))/\w.grownBy w' none:=by
 obtain ⟨n,b,s,o⟩:=y
 unfold symA
 dsimp only
 by_cases h1:b=0
 ·subst h1
  have R:=hid (show Ln.defines ⟨n,0,s,o⟩=false from rfl)
  go_enter Tryz.func212,Tryz.ntmps212
  go_wp2
  go_ret
  exact ⟨yaI R.out.symm,ysp _ _ _⟩
 ·by_cases h2:s=0
  ·subst h2
   have R:=hid (show Ln.defines ⟨n,b,0,o⟩=false by unfold Ln.defines; simp)
   go_enter Tryz.func212,Tryz.ntmps212
   go_wp2
   go_ret
   exact ⟨yaI R.out.symm,ysp _ _ _⟩
  ·have R:=hid (show Ln.defines ⟨n,b,s,o⟩=true by unfold Ln.defines; rw [decide_eq_false h1,decide_eq_false h2]; rfl)
   go_enter Tryz.func212,Tryz.ntmps212
   go_wp2
   go_ret
   exact ⟨yaI ((show (b != 0 && s != 0)=true by simp [h1,h2]).trans R.out.symm),ysp _ _ _⟩
end Go.Proofs.YtpgklkhgfcjceaaGreatDoor
