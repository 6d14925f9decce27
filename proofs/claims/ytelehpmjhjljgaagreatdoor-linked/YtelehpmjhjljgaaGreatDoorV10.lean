
import Derived.Test.YtelehpmjhjljgaaGreatDoorV09
import Derived.Deep.CutRange
import Derived.Laws.AppendOwnNone
set_option maxHeartbeats 16000000
set_option maxRecDepth 100000
namespace Go.Proofs.YtelehpmjhjljgaaGreatDoor
open Go.RowKit
theorem Tryz.zR:(Tryz.prog.info? 103).map (fun i=>(i.zero,i.size,i.bytes))=some (some (.agg #[.pointer none,.int .i64 0,.int .i64 0]),3,24):=by kernel_rfl
structure vL (WB:World) (bi:Nat) (g:Nat) (v2 v3 v4:Value) (d b:Int) (sl:List Value) (j:Nat) (q8:Value) (wr:World):Prop where
 gr:WB.grownBy wr (some bi)
 blk:ye wr bi #[aP g,q8,v2,v3,v4,.int .i64 d,.int .i64 b] 109
 row:wr.ownsRow WB.heap.size 103 3 q8 j sl
 nil:j=0->q8 = .slice none 0 0
section
variable {WB V wr w3:World} {bi g j:Nat} {v2 v3 v4 q8 v':Value} {d b:Int} {sl news:List Value}
theorem vL.kept (h:vL WB bi g v2 v3 v4 d b sl j q8 wr) (hV:wr.grownBy V none):vL WB bi g v2 v3 v4 d b sl j q8 V :=
 ⟨h.gr.trans (hV.but _),h.blk.grown hV (by simp),h.row.kept hV (Decidable.em _),h.nil⟩
theorem vL.step (h:vL WB bi g v2 v3 v4 d b sl j q8 V) (hown:w3.ownsRow WB.heap.size 103 3 v' (j+1) (sl ++ news)) (hg:V.grownBy w3 q8.ownBlock):vL WB bi g v2 v3 v4 d b (sl ++ news) (j+1) v' (w3.setCell ⟨bi,1,none⟩ v'):=by
 have b3:=yy h.blk hg (aW.own h.row) (by decide);have gs:=yi w3 bi 1 v';refine ⟨(h.gr.andThen hg (fun k hk=>.inl (h.row.lt k hk).1)).trans gs,?_,yw hown gs (aW.blk b3) (by decide),fun c=>by omega⟩;simpa using b3.set 1 v'
end
theorem vL.mod {WB wr:World} {bi g:Nat} {v2 v3 v4 q8:Value} {m:Ln.Mod} {bl:List Nat} {l:List Ln.fQ} {cur:Array Value} (hq:ye WB bi cur 109) (ho:yq WB g m.obj) (q3:WB.ownsRow 0 4 1 v2 m.short.length (m.short.map Value.bool)) (q4:WB.ownsRow 0 3 1 v3 m.text.length (m.text.map (Value.int .i64))) (q5:WB.ownsRow 0 3 1 v4 m.far.length (m.far.map (Value.int .i64))) (q7:m.short=[]->v2 = .slice none 0 0) (h:vL WB bi g v2 v3 v4 m.data m.bss (l.flatMap (xY bl)) l.length q8 wr):yN wr bl bi g { m with means:=l }:=by
 have R:=aW.blk hq;exact ⟨_,_,_,_,h.blk,oK ho h.gr R (by decide) (by decide) (by decide) (by decide),EJ h.row,yw q3 h.gr R (by decide),yw q4 h.gr R (by decide),yw q5 h.gr R (by decide),fun e=>h.nil (by simp only at e; rw [e]; rfl),q7⟩
namespace Ln
def eU:List UInt8:=[95,115,116,97,114,116]
def aM (os:List Lk.Obj):nW :=
 if (dS os).e≠0 then dS os
 else if (dw os).e≠0 then dw os
 else if (named os eU).ah≠1/\(named os eU).ah≠2 then ⟨35,0,[]⟩
 else dw os
end Ln
theorem ProgAt.flt {W0 W:World} {P:Nat} {bt bf bd:Int} {vm:Value} {bl gl:List Nat} {ms:List Ln.Mod} {st:Ln.fQ} {no:Int} {R:Nat} {cs:Array Value} (h:ProgAt W0 P bt bf bd vm bl gl ms st no W) (hb:ye W R cs 32) (hR:W0.heap.size<=R) (a b c:Value):ProgAt W0 P bt bf bd vm bl gl ms st no (((W.setCell ⟨R,0,none⟩ a).setCell ⟨R,1,none⟩ b).setCell ⟨R,2,none⟩ c) :=
 h.ty (World.grownBy.trans (World.grownBy.trans (yi _ R 0 a) (yi _ R 1 b)) (yi _ R 2 c)) (aW.blk hb) (fun k e=>by simp at e; subst e; exact hR) (by decide) (by decide) (by decide) (by decide) (by decide) (by decide) (by decide) (by decide) (by decide)
theorem jv.flt {Wf W0 W:World} {P:Nat} {bt bf bd:Int} {vm:Value} {bl gl:List Nat} {ms:List Ln.Mod} {st:Ln.fQ} {no:Int} {R:Nat} {cs:Array Value} (h:jv Wf W0 P bt bf bd vm bl gl ms st no W) (hb:ye W R cs 32) (hR:Wf.heap.size<=R) (a b c:Value):jv Wf W0 P bt bf bd vm bl gl ms st no (((W.setCell ⟨R,0,none⟩ a).setCell ⟨R,1,none⟩ b).setCell ⟨R,2,none⟩ c):=by
 have G:=World.grownBy.trans (World.grownBy.trans (yi W R 0 a) (yi _ R 1 b)) (yi _ R 2 c);exact ⟨h.toProgAt.flt hb (Nat.le_trans h.le hR) a b c,fun k cs q=>(h.kf k cs q).grown G (by have:=q.lt; simp; omega),h.le,Nat.le_trans h.sz G.size⟩
theorem CY {W:World} {R L:Nat} {cs:Array Value} {t:TypeId} (hb:ye W R cs t) (hne:R≠L) (a b c:Value):ye (((W.setCell ⟨L,0,none⟩ a).setCell ⟨L,1,none⟩ b).setCell ⟨L,2,none⟩ c) R cs t :=
 hb.grown (World.grownBy.trans (World.grownBy.trans (yi _ L 0 a) (yi _ L 1 b)) (yi _ L 2 c)) (by simpa using hne)
theorem ykq (Wf W0:World) (P:Nat) (bt bf bd:Int) (vm:Value) (bl gl:List Nat) (os:List Lk.Obj) (W:World) (h:jv Wf W0 P bt bf bd vm bl gl (os.map Ln.bare) Ln.none_ 0 W) :
  Calls Tryz.prog 22 #[aP P] W fun e W'=>e = .returned (bJ (Ln.aM os))/\jv Wf W0 P bt bf bd vm bl gl (Ln.bA os (os.map Ln.bare)) (Ln.named os Ln.eU) 0 W':=by
 obtain ⟨i0,hi,hz0,hz1,hz2⟩:=info_parts Tryz.zR;obtain ⟨am,cm,rfl⟩:=yj h.row;have A0:=aH W (.cells #[.int .i64 0,.int .i64 0,.string ⟨#[]⟩] 32) none;have BR:=hid (ye.new W #[.int .i64 0,.int .i64 0,.string ⟨#[]⟩] 32);have H0:=hid (h.kept A0);have c3:(W.alloc (.cells #[.int .i64 0,.int .i64 0,.string ⟨#[]⟩] 32)).cell? ⟨P,3,none⟩=some (.slice am bl.length cm):=H0.o.blk.cell 3;have hbl:=h.few;have HRW:=hid h.sz;have LO:=hid (show os.length=bl.length by have:=h.fT; rwa [jc] at this);clear h A0;unfold aP;go_enter Tryz.func22,Tryz.ntmps22;go_wp2;generalize W.alloc (.cells #[.int .i64 0,.int .i64 0,.string ⟨#[]⟩] 32)=W1 at *
 generalize W.heap.size=R at *;have RL:=hid (show (Ln.bA os (os.map Ln.bare)).length=(os.map Ln.bare).length by simp [Ln.bA]);have OB:=hid (show ∀ k,k<=os.length->((Ln.bA os (os.map Ln.bare)).take k ++ (os.map Ln.bare).drop k).map Ln.Mod.obj=os from fun k hk=>by
  rw [List.map_append,List.map_take,List.map_drop];have e1:(Ln.bA os (os.map Ln.bare)).map Ln.Mod.obj=os:=by
   apply List.ext_getElem
   ·simp [Ln.bA]
   ·intro i h1 h2;simp [Ln.bA,Ln.iL,Ln.bare]
  have e2:(os.map Ln.bare).map Ln.Mod.obj=os:=by
   rw [List.map_map];exact List.map_id _
  rw [e1,e2,List.take_append_drop])
 go_loopw [14] (fun i wr=>∃ k:Nat,k<=bl.length/\i = .int .i64 k/\jv Wf W0 P bt bf bd (.slice am bl.length cm) bl gl ((Ln.bA os (os.map Ln.bare)).take k ++ (os.map Ln.bare).drop k) Ln.none_ 0 wr/\ye wr R #[.int .i64 0,.int .i64 0,.string ⟨#[]⟩] 32) (fun i _=>bl.length - (intOf i).toNat)
 case atStart=>exact ⟨0,Nat.zero_le _,rfl,by simpa using H0.o,BR.o⟩
 case round =>
  obtain ⟨k,hk,rfl,hpa,hbr⟩:=hrel;have HP:=hid hpa;have HB:=hid hbr;clear hpa hbr H0 BR;by_cases hlt:k < bl.length
  ·have hko:k < os.length:=by rw [LO.o]; exact hlt
   obtain ⟨sg,off,hsg,hsc⟩:=HP.o.iA.ptrs (by omega);have ck:=hsc k hlt;subst hsg;have hkg:k < gl.length:=by rw [HP.o.gX]; exact hlt
   have HM:yN wr bl bl[k] (gl[k]'hkg) _:=HP.o.mods k hlt;have tZ:((Ln.bA os (os.map Ln.bare)).take k ++ (os.map Ln.bare).drop k)[k]'(by rw [HP.o.fT]; exact hlt)=Ln.bare os[k]:=by
    rw [Gm _ _ k (by simpa using hko) (by rw [RL.o,jc]; omega) (by rw [HP.o.fT]; exact hlt),List.getElem_map]
   rw [tZ] at HM;obtain ⟨v1,v2,v3,v4,q0,q1,-,q3,q4,q5,q6,q7⟩:=HM;have e6:=q6 rfl;subst e6;obtain ⟨at_,ct,af,cf,ad,cd,aa,ca,gF,cs,ar,cr,hb,-,-,-,-,p5,-⟩:=q1.open;have S:=hid (yI.aB p5);have k5:=hb.cell 5;simp only [dH,dL,dK] at k5;have k0:wr.cell? ⟨bl[k],0,none⟩=some (aP (gl[k]'hkg)):=q0.cell 0;unfold aP at k0;have M0:=hid (show vL wr bl[k] (gl[k]'hkg) v2 v3 v4 0 0 [] 0 (.slice none 0 0) wr from ⟨World.grownBy.refl _ _,q0,World.ownsRow_nil _ _ _ _,fun _=>rfl⟩);have PK:=hid (fun (l:List Ln.fQ) (q8:Value) (wr2:World) (hm:vL wr bl[k] (gl[k]'hkg) v2 v3 v4 0 0 (l.flatMap (xY bl)) l.length q8 wr2)=>show jv Wf W0 P bt bf bd (.slice (some ⟨sg,off,none⟩) bl.length cm) bl gl (((Ln.bA os (os.map Ln.bare)).take k ++ (os.map Ln.bare).drop k).set k { Ln.bare os[k] with means:=l }) Ln.none_ 0 wr2 from
    HP.o.upd hlt (by rw [HP.o.fT]; exact hlt) hm.gr (vL.mod (m:=Ln.bare os[k]) q0 q1 q3 q4 q5 q7 hm) (by rw [tZ]))
   have PI:=hid (fun (l:List Ln.fQ) (q8:Value) (wr2:World) (hm:vL wr bl[k] (gl[k]'hkg) v2 v3 v4 0 0 (l.flatMap (xY bl)) l.length q8 wr2)=>show wr2.cell? ⟨P,3,none⟩=some (.slice (some ⟨sg,off,none⟩) bl.length cm)/\rD wr2 (some ⟨sg,off,none⟩) bl os from by
    have A:=PK.o l q8 wr2 hm;refine ⟨A.blk.cell 3,?_⟩;have B:=A.iA;have e:((((Ln.bA os (os.map Ln.bare)).take k ++ (os.map Ln.bare).drop k).set k { Ln.bare os[k] with means:=l }).map Ln.Mod.obj)=os:=by
     rw [List.map_set,OB.o k (by omega)];exact List.set_getElem_self hko
    rw [e] at B;exact B)
   have PS:=hid (fun (wr2:World) (hg:wr.grownBy wr2 (some bl[k]))=>show yI wr2 gF (Ln.bare os[k]).obj.syms from yI.aB (yw p5 hg (aW.blk q0) (by decide)));have PB:=hid (fun (wr2:World) (hg:wr.grownBy wr2 (some bl[k]))=>show ye wr2 R #[.int .i64 0,.int .i64 0,.string ⟨#[]⟩] 32 from yy HB.o hg (aW.blk q0) (by decide));have hys:os[k].syms.length<=65535:=HP.o.iA.syms _ (by rw [OB.o k (by omega)]; exact dM hko);have FIN:=hid (show ((Ln.bA os (os.map Ln.bare)).take k ++ (os.map Ln.bare).drop k).set k { Ln.bare os[k] with means:=os[k].syms.map (Ln.meaning os k) }=(Ln.bA os (os.map Ln.bare)).take (k+1) ++ (os.map Ln.bare).drop (k+1) by
    rw [<- MC _ _ k (by simpa using hko) (by rw [RL.o,jc]; exact hko) RL.o]
    congr 1
    simp [Ln.bA,Ln.iL,Ln.bare])
   have hbk:bl[k] < wr.heap.size:=q0.lt;have Td:(Ln.bare os[k]).obj.syms=os[k].syms:=rfl;rw [Td] at PS S k5;generalize hY:os[k].syms=ys at *;have g1:(k:Int) < (bl.length:Int):=by omega
   clear hsc q0 q1 q3 q4 q5 q6 q7 hb p5 HP HB tZ hY Td RL OB;generalize (gl[k]'hkg)=gk at *;generalize hbb:bl[k]=bk at *;have mX:=hid hbb;clear hbb;go_wp2;generalize wr=WB at *;clear ck k0 k5
   go_loopw [26] (fun i wr2=>∃ (j:Nat) (q8:Value),j<=ys.length/\i = .int .i64 j/\vL WB bk gk v2 v3 v4 0 0 (((ys.take j).map (Ln.meaning os k)).flatMap (xY bl)) j q8 wr2) (fun i _=>ys.length - (intOf i).toNat)
   case atStart=>exact ⟨0,_,Nat.zero_le _,rfl,M0.o⟩
   case round =>
    obtain ⟨j,q8,hj,rfl,hme⟩:=hrel;have HM:=hid hme;clear hme M0;obtain ⟨av,cv,rfl⟩:=yj HM.o.row;have LJ:((ys.take j).map (Ln.meaning os k)).length=j:=by rw [jc,List.length_take]; omega
    obtain ⟨Qp,Qq⟩:=PI.o ((ys.take j).map (Ln.meaning os k)) _ wr (by rw [LJ]; exact HM.o);by_cases hlt2:j < ys.length
    ·obtain ⟨sg2,zN,hgs,hcs⟩:=PS.o wr HM.o.gr (by omega);subst zN;obtain ⟨q0,q1,q2,q3⟩:=hcs j hlt2;clear hcs;have g2:(j:Int) < (ys.length:Int):=by omega
     have TK:=hid (show (((ys.take (j+1)).map (Ln.meaning os k)).flatMap (xY bl))=(((ys.take j).map (Ln.meaning os k)).flatMap (xY bl)) ++ xY bl (Ln.meaning os k ys[j]) by
      rw [List.take_succ_eq_append_getElem hlt2,List.map_append,List.flatMap_append];simp)
     generalize ys[j]=y at *;generalize hsl:((ys.take j).map (Ln.meaning os k)).flatMap (xY bl)=sl at *;have GA:=hid (aH wr (.cells #[.string (bs y.name),.int .i64 y.bind,.int .i64 y.ah,.int .i64 y.off] 77) none);have cM:=hid (ykf P (some ⟨sg,off,none⟩) cm bl os k hlt y _ (yc Qp GA.o) (Qq.kept GA.o));rw [mX.o] at cM;have Fw:=hid (HM.o.kept GA.o);clear Qp Qq hsl;unfold oH at cM;go_wp2_with fail;refine cM.o.mono ?_;rintro e W5 ⟨rfl,h5⟩;have Cr:=hid (Fw.o.kept h5);clear h5 cM q0 q1 q2 q3;unfold mU;generalize Ln.meaning os k y=N at *;obtain ⟨nm,ns,nof⟩:=N;have TK2:=hid (show (((ys.take (j+1)).map (Ln.meaning os k)).flatMap (xY bl))=sl ++ [.pointer (kW bl nm),.int .i64 ns,.int .i64 nof] from TK.o)
     clear TK;dsimp only;generalize hq:kW bl nm=q at *;clear hq;have A6:=aH W5 (.cells #[.pointer q,.int .i64 ns,.int .i64 nof] 103) none;have B6:=hid (ye.new W5 #[.pointer q,.int .i64 ns,.int .i64 nof] 103);have tH:=hid (Cr.o.kept A6);have OWL:=hid (show ∀ b,Value.ownBlock (.slice av j cv)=some b->b≠W5.heap.size from fun b e c=>by
      have:=(Cr.o.row.lt b e).2
      omega)
     clear A6 Cr;go_wp2;generalize W5.alloc (.cells #[.pointer q,.int .i64 ns,.int .i64 nof] 103)=W6 at *;generalize W5.heap.size=L at *;have s0:W6.cell? ⟨L,0,none⟩=some (.pointer q):=B6.o.cell 0;have s1:W6.cell? ⟨L,1,none⟩=some (.int .i64 ns):=B6.o.cell 1;have s2:W6.cell? ⟨L,2,none⟩=some (.int .i64 nof):=B6.o.cell 2;have m1:W6.cell? ⟨bk,1,none⟩=some (.slice av j cv):=tH.o.blk.cell 1;have A7:=yf (aH W6 (.cells #[.pointer q,.int .i64 ns,.int .i64 nof] 103) none);have B7:=hid (B6.o.grown A7 (by simp));have iR:=hid (tH.o.kept A7);have hA:=hid iR.o.row;have n1:(W6.alloc (.cells #[.pointer q,.int .i64 ns,.int .i64 nof] 103)).drew.cell? ⟨bk,1,none⟩=some (.slice av j cv):=iR.o.blk.cell 1
     have hN:Hd (∀ j u,[Value.pointer q,.int .i64 ns,.int .i64 nof][j]?=some u->(W6.alloc (.cells #[.pointer q,.int .i64 ns,.int .i64 nof] 103)).drew.cell? ((⟨W6.heap.size,0,none⟩:Addr).add j)=some u):=World.news_of_block (heap_alloc_new W6 (.cells #[.pointer q,.int .i64 ns,.int .i64 nof] 103));have iY:Hd (∀ u∈[Value.pointer q,.int .i64 ns,.int .i64 nof],u.oneCell'=true):=by intro u hu; simp at hu; rcases hu with rfl | rfl | rfl <;> rfl
     have h63:Hd (j+1<=maxLen):=by show _<=_; unfold maxLen; omega
     have hby:Hd ((j+1) * 24<=140737488355328):=by show _<=_; omega
     have hbs:Hd (WB.heap.size<=(W6.alloc (.cells #[.pointer q,.int .i64 ns,.int .i64 nof] 103)).drew.heap.size):=iR.o.gr.size;have SA:Hd ((W6.alloc (.cells #[.pointer q,.int .i64 ns,.int .i64 nof] 103)).drew.cell? ⟨L,0,none⟩=some (.pointer q)/\(W6.alloc (.cells #[.pointer q,.int .i64 ns,.int .i64 nof] 103)).drew.cell? ⟨L,1,none⟩=some (.int .i64 ns)/\(W6.alloc (.cells #[.pointer q,.int .i64 ns,.int .i64 nof] 103)).drew.cell? ⟨L,2,none⟩=some (.int .i64 nof)):=⟨B7.o.cell 0,B7.o.cell 1,B7.o.cell 2⟩
     have STEP:=hid (fun (v':Value) (w3:World) (hown':w3.ownsRow WB.heap.size 103 3 v' (j+1) (sl ++ [.pointer q,.int .i64 ns,.int .i64 nof])) (hg:(W6.alloc (.cells #[.pointer q,.int .i64 ns,.int .i64 nof] 103)).drew.grownBy w3 (Value.ownBlock (.slice av j cv)))=>show vL WB bk gk v2 v3 v4 0 0 (sl ++ [.pointer q,.int .i64 ns,.int .i64 nof]) (j+1) v' (w3.setCell ⟨bk,1,none⟩ v')/\ye w3 L #[.pointer q,.int .i64 ns,.int .i64 nof] 103/\ye (w3.setCell ⟨bk,1,none⟩ v') L #[.pointer q,.int .i64 ns,.int .i64 nof] 103/\w3.cell? ⟨bk,1,none⟩=some (.slice av j cv)/\w3.frozen? ⟨bk,1,none⟩=false by
      have st:=iR.o.step hown' hg;have b3:=yy iR.o.blk hg (aW.own iR.o.row) (by decide);have l3:=B7.o.grown hg (fun e=>OWL.o L e.symm rfl);exact ⟨st,l3,yy l3 (yi w3 bk 1 v') (aW.blk b3) (by decide),b3.cell 1,b3.free 1⟩)
     clear A7 B7 iR tH B6;refine wp_region_held_drew (S:=(fun w'=>w'.cell? ⟨L,0,none⟩=some (.pointer q)/\w'.cell? ⟨L,1,none⟩=some (.int .i64 ns)/\w'.cell? ⟨L,2,none⟩=some (.int .i64 nof))) (by kernel_rfl) ⟨s0,s1,s2⟩ ?_;intro hS
     iterate 4
      refine yU (v:=?_) rfl (by kernel_rfl) (fun _ _ _ h=>h) hS ?_ ?_
      rotate_left
      ·intro w' hw'; obtain ⟨x0,x1,x2⟩:=hw'; go_simp; with_reducible rfl
     refine fD (i:=5) (v:=?_) rfl ?_ hS ?_
     rotate_left
     ·intro w' hw'; obtain ⟨x0,x1,x2⟩:=hw'; go_simp; with_reducible rfl
     refine wpAnyH_ready (rs:=[4,6]) (by kernel_rfl) (by simp) ?_;refine AllReadyH.cons rfl (fun K hK=>?_) (AllReadyH.cons rfl (fun K hK=>?_) AllReadyH.nil);go_simp;refine hK.out _ _ hS (fun hS2=>?_);clear hK K;refine wpAnyH_ready (rs:=[6]) (by kernel_rfl) (by simp) ?_
     rotate_left
     go_simp;refine hK.out _ _ SA.o (fun hS2=>?_);clear hK K;refine wpAnyH_ready (rs:=[4]) (by kernel_rfl) (by simp) ?_
     all_goals
      refine AllReadyH.cons rfl (fun K hK=>?_) AllReadyH.nil;go_simp;refine hK.out _ _ SA.o (fun iZ=>?_);clear hK K hS2 iZ;refine wpAnyH_ready (rs:=[7]) (by kernel_rfl) (by simp) ?_;refine AllReadyH.cons rfl (fun K hK=>?_) AllReadyH.nil;rw [if_pos (by kernel_rfl)];refine EK _ (.tmp 38) (.tmp 40) 107 rfl WB.heap.size 103 i0 (.agg #[.pointer none,.int .i64 0,.int .i64 0]) 3 24 Tryz.underlying107 hi hz0 hz1 hz2 rfl (by decide) (.slice av j cv) j sl (by kernel_rfl) hA.o ⟨W6.heap.size,0,none⟩ 1 1 [.pointer q,.int .i64 ns,.int .i64 nof] (by kernel_rfl) rfl hN.o iY.o h63.o hby.o hbs.o ?_;intro v' w3 hown' hgrow _ _
      obtain ⟨jN,cv',rfl⟩:=yj hown';obtain ⟨t1,t2,t3,t4,t5⟩:=STEP.o _ _ hown' hgrow;have T1:=hid t1;have T3:Hd ((w3.setCell ⟨bk,1,none⟩ (.slice jN (j+1) cv')).cell? ⟨L,0,none⟩=some (.pointer q)/\(w3.setCell ⟨bk,1,none⟩ (.slice jN (j+1) cv')).cell? ⟨L,1,none⟩=some (.int .i64 ns)/\(w3.setCell ⟨bk,1,none⟩ (.slice jN (j+1) cv')).cell? ⟨L,2,none⟩=some (.int .i64 nof)):=⟨t3.cell 0,t3.cell 1,t3.cell 2⟩
      refine hK.out _ _ ⟨t2.cell 0,t2.cell 1,t2.cell 2⟩ (fun nD=>?_);clear hK K hown' hgrow t1 t2 t3;refine fD (i:=8) (v:=?_) rfl ?_ nD ?_
      rotate_left
      ·intro w' hw'; obtain ⟨x0,x1,x2⟩:=hw'; go_simp; with_reducible rfl
      refine fD (i:=9) (v:=?_) rfl ?_ nD ?_
      rotate_left
      ·intro w' hw'; obtain ⟨x0,x1,x2⟩:=hw'; go_simp; with_reducible rfl
      refine wpAnyH_ready (rs:=[10]) (by kernel_rfl) (by simp) ?_;refine AllReadyH.cons rfl (fun K hK=>?_) AllReadyH.nil;go_simp;refine hK.out _ _ T3.o (fun hS5=>?_);clear hK K;refine wpAnyH_done (by kernel_rfl) ?_ _
      try simp only [ni,mh,kT,kI,fu,fC,eX]
      clear hA hN iY h63 hby hbs m1 n1 t4 t5 nD hS5 hS STEP SA T3;go_wp2
      go_roundw
      case rel=>exact ⟨j+1,_,by omega,by go_num,by rw [TK2.o]; exact T1.o⟩
      case measure=>simp [intOf]; omega
    ·obtain rfl:j=ys.length:=by omega
     have g3:decide ((ys.length:Int) < (ys.length:Int))=false:=by simp
     have PA:=hid (PK.o ((ys.take ys.length).map (Ln.meaning os k)) _ wr (by rw [LJ]; exact HM.o));have PBR:=hid (PB.o wr HM.o.gr);rw [List.take_length,FIN.o] at PA;clear Qp Qq LJ;go_wp2
     go_roundw
     case rel=>exact ⟨k+1,by omega,by go_num,PA.o,PBR.o⟩
     case measure=>simp [intOf]; omega
  ·obtain rfl:k=bl.length:=by omega
   have g3:decide ((bl.length:Int) < (bl.length:Int))=false:=by simp
   have hR:=HB.o.lt;have UD:=hid (show (Ln.bA os (os.map Ln.bare)).map Ln.Mod.obj=os by
    have B:=OB.o os.length (Nat.le_refl _)
    rwa [List.drop_of_length_le (by simp),List.append_nil,List.take_of_length_le (by rw [RL.o,jc]; exact Nat.le_refl _)] at B)
   obtain ⟨PM,UK⟩:jv Wf W0 P bt bf bd (.slice am bl.length cm) bl gl (Ln.bA os (os.map Ln.bare)) Ln.none_ 0 wr/\rD wr am bl os:=by
    have A:=HP.o;have B:=A.iA;rw [OB.o bl.length (by rw [LO.o]; exact Nat.le_refl _)] at B;rw [List.drop_of_length_le (by simp [LO.o]),List.append_nil,List.take_of_length_le (by rw [RL.o,jc,LO.o]; exact Nat.le_refl _)] at A;exact ⟨A,B⟩
   have Od:=hid PM;have TT:=hid UK;have hcap:=yZ PM.row;clear PM UK HP RL OB;have cN:=hid (Rl P am cm bl os Ln.eU wr (Od.o.blk.cell 3) TT.o);have e0:bs Ln.eU=⟨#[95,115,116,97,114,116]⟩:=rfl;rw [e0] at cN;unfold mU at cN;go_wp2_with fail;refine cN.o.mono ?_;rintro e W5 ⟨rfl,h5⟩;have P5:=hid (Od.o.kept h5);have B5:=hid (HB.o.grown h5 (by simp));clear h5 cN Od HB TT;have PV:=hid (P5.o.spot (st':=Ln.named os Ln.eU));have BV:=hid (show ye (((W5.setCell ⟨P,4,none⟩ (.pointer (kW bl (Ln.named os Ln.eU).mod))).setCell ⟨P,5,none⟩ (.int .i64 (Ln.named os Ln.eU).ah)).setCell ⟨P,6,none⟩ (.int .i64 (Ln.named os Ln.eU).off)) R #[.int .i64 0,.int .i64 0,.string ⟨#[]⟩] 32 from
    yy B5.o (World.grownBy.trans (World.grownBy.trans (yi W5 P 4 _) (yi _ P 5 _)) (yi _ P 6 _)) (aW.blk P5.o.blk) (by decide))
   have p4:W5.cell? ⟨P,4,none⟩=some (.pointer (kW bl Ln.none_.mod)):=P5.o.blk.cell 4;have p5:W5.cell? ⟨P,5,none⟩=some (.int .i64 0):=P5.o.blk.cell 5;have p6:W5.cell? ⟨P,6,none⟩=some (.int .i64 0):=P5.o.blk.cell 6;have f4:=P5.o.blk.free 4;have f5:=P5.o.blk.free 5;have f6:=P5.o.blk.free 6;have cT:=hid (fun V (hV:jv Wf W0 P bt bf bd (.slice am bl.length cm) bl gl (Ln.bA os (os.map Ln.bare)) (Ln.named os Ln.eU) 0 V)=>yhB P am cm bl os V (hV.blk.cell 3) (by have:=hV.iA; rwa [UD.o] at this) hcap.1 hcap.2);have cW:=hid (fun V (hV:jv Wf W0 P bt bf bd (.slice am bl.length cm) bl gl (Ln.bA os (os.map Ln.bare)) (Ln.named os Ln.eU) 0 V)=>ygP P am cm bl os V (hV.blk.cell 3) (by have:=hV.iA; rwa [UD.o] at this))
   generalize ht:Ln.dS os=t at *;generalize hu:Ln.dw os=u at *;generalize VN:Ln.named os Ln.eU=N at *;have Iy:=hid ht;have K9:=hid hu;have Ah:=hid VN;clear ht hu VN;obtain ⟨nm,ns,nof⟩:=N;dsimp only at *;generalize hq:kW bl nm=q at *;have HQ:=hid hq;clear hq P5 B5;unfold bJ at cT cW;go_wp2_with fail;refine (cT.o _ (by exact PV.o)).mono ?_;rintro e V2 ⟨rfl,h2⟩;have P2:=hid (PV.o.kept h2);have B2:=hid (BV.o.grown h2 (by simp));clear h2 cT PV BV p4 p5 p6 f4 f5 f6;have AF:=aH V2 (.cells #[.int .i64 t.e,.int .i64 t.at_,.string (bs t.name)] 32) none;have BL:=hid (ye.new V2 #[.int .i64 t.e,.int .i64 t.at_,.string (bs t.name)] 32)
   have P3:=hid (P2.o.kept AF);have B3:=hid (B2.o.grown AF (by simp));have VT:R≠V2.heap.size:=by have:=B2.o.lt; omega
   clear AF;have z0:V2.cell? ⟨R,0,none⟩=some (.int .i64 0):=B2.o.cell 0;have z1:V2.cell? ⟨R,1,none⟩=some (.int .i64 0):=B2.o.cell 1;have z2:V2.cell? ⟨R,2,none⟩=some (.string ⟨#[]⟩):=B2.o.cell 2;have f0:=B2.o.free 0;have f1:=B2.o.free 1;have f2:=B2.o.free 2;have hRV:=B2.o.lt;have AZ:=hid P2.o.sz;by_cases he:t.e=0
   case neg =>
    have d1:(t.e == 0)=false:=by simpa using he
    have E:=hid (show Ln.aM os=t by unfold Ln.aM; rw [Iy.o,if_pos he]);go_wp2;have AX:=aH (((V2.setCell ⟨R,0,none⟩ (.int .i64 t.e)).setCell ⟨R,1,none⟩ (.int .i64 t.at_)).setCell ⟨R,2,none⟩ (.string (bs t.name))) (.cells #[.int .i64 t.e,.int .i64 t.at_,.string (bs t.name)] 32) none;have F:=(((B2.o.set 0 (.int .i64 t.e)).set 1 (.int .i64 t.at_)).set 2 (.string (bs t.name))).grown AX (by simp);have GF:=(P2.o.flt B2.o HRW.o (.int .i64 t.e) (.int .i64 t.at_) (.string (bs t.name))).kept AX;have h0:=F.cell 0;have h1:=F.cell 1;have h2:=F.cell 2;simp only [fu,fC,eX,dH,dL,dK] at h0 h1 h2;refine bodyPost_ret (v:=bJ t) ?_ rfl ⟨by rw [E.o],by rw [Ah.o]; exact GF⟩
    clear F GF z0 z1 z2 f0 f1 f2 AX;generalize World.alloc _ _=WF at *;simp [results,Tryz.results22,go_sem,bJ,h0,h1,h2]
   case pos =>
    have d1:(t.e == 0)=true:=by simpa using he
    have HE:=hid he;clear he z0 z1 z2 f0 f1 f2;go_wp2_with fail;refine (cW.o _ P3.o).mono ?_;rintro e V4 ⟨rfl,h4⟩;have P4:=hid (P3.o.kept h4);have B4:=hid (B3.o.grown h4 (by simp));have L4:=hid (BL.o.grown h4 (by simp));clear h4 cW P3 P2 B3 B2 BL;generalize V2.heap.size=FL at *;have z0:V4.cell? ⟨R,0,none⟩=some (.int .i64 0):=B4.o.cell 0;have z1:V4.cell? ⟨R,1,none⟩=some (.int .i64 0):=B4.o.cell 1;have z2:V4.cell? ⟨R,2,none⟩=some (.string ⟨#[]⟩):=B4.o.cell 2;have f0:=B4.o.free 0;have f1:=B4.o.free 1;have f2:=B4.o.free 2;have y0:V4.cell? ⟨FL,0,none⟩=some (.int .i64 t.e):=L4.o.cell 0;have y1:V4.cell? ⟨FL,1,none⟩=some (.int .i64 t.at_):=L4.o.cell 1
    have y2:V4.cell? ⟨FL,2,none⟩=some (.string (bs t.name)):=L4.o.cell 2;have e0:=L4.o.free 0;have e1:=L4.o.free 1;have e2:=L4.o.free 2;have p5:V4.cell? ⟨P,5,none⟩=some (.int .i64 ns):=P4.o.blk.cell 5;have hPF:P≠FL:=fun c=>by
     have:=L4.o
     rw [<- c] at this
     have:=this.symm.trans P4.o.blk
     simp at this
    have p7:=(P4.o).flt (L4.o) AZ.o (.int .i64 u.e) (.int .i64 u.at_) (.string (bs u.name));have b7:=CY (B4.o) VT (.int .i64 u.e) (.int .i64 u.at_) (.string (bs u.name));have l7:ye (((V4.setCell ⟨FL,0,none⟩ (.int .i64 u.e)).setCell ⟨FL,1,none⟩ (.int .i64 u.at_)).setCell ⟨FL,2,none⟩ (.string (bs u.name))) FL #[.int .i64 u.e,.int .i64 u.at_,.string (bs u.name)] 32:=by simpa using ((L4.o.set 0 (.int .i64 u.e)).set 1 (.int .i64 u.at_)).set 2 (.string (bs u.name))
    have P7:=hid p7;have B7:=hid b7;have L7:=hid l7;clear p7 b7 l7 P4 B4 L4
    go_upto_region 15 with fail
    clear p5 y0 y1 y2 z0 z1 z2 e0 e1 e2 f0 f1 f2;generalize ((V4.setCell ⟨FL,0,none⟩ (.int .i64 u.e)).setCell ⟨FL,1,none⟩ (.int .i64 u.at_)).setCell ⟨FL,2,none⟩ (.string (bs u.name))=V5 at *;have z0:V5.cell? ⟨R,0,none⟩=some (.int .i64 0):=B7.o.cell 0;have z1:V5.cell? ⟨R,1,none⟩=some (.int .i64 0):=B7.o.cell 1;have z2:V5.cell? ⟨R,2,none⟩=some (.string ⟨#[]⟩):=B7.o.cell 2;have f0:=B7.o.free 0;have f1:=B7.o.free 1;have f2:=B7.o.free 2;have y0:V5.cell? ⟨FL,0,none⟩=some (.int .i64 u.e):=L7.o.cell 0;have y1:V5.cell? ⟨FL,1,none⟩=some (.int .i64 u.at_):=L7.o.cell 1;have y2:V5.cell? ⟨FL,2,none⟩=some (.string (bs u.name)):=L7.o.cell 2
    have p5:V5.cell? ⟨P,5,none⟩=some (.int .i64 ns):=P7.o.blk.cell 5;by_cases hue:u.e=0
    case neg =>
     have d2:(u.e == 0)=false:=by simpa using hue
     have E:=hid (show Ln.aM os=u by unfold Ln.aM; rw [Iy.o,K9.o,if_neg (by simpa using HE.o),if_pos hue]);clear hue;go_wp2;have GF:=P7.o.flt B7.o HRW.o (.int .i64 u.e) (.int .i64 u.at_) (.string (bs u.name));have F:=((B7.o.set 0 (.int .i64 u.e)).set 1 (.int .i64 u.at_)).set 2 (.string (bs u.name));have h0:=F.cell 0;have h1:=F.cell 1;have h2:=F.cell 2;simp only [fu,fC,eX,dH,dL,dK] at h0 h1 h2;refine bodyPost_ret (v:=bJ u) ?_ rfl ⟨by rw [E.o],by rw [Ah.o]; exact GF⟩;clear F GF z0 z1 z2 f0 f1 f2 y0 y1 y2;generalize World.setCell _ _ _=WF at *;simp [results,Tryz.results22,go_sem,bJ,h0,h1,h2]
    case pos =>
     have d2:(u.e == 0)=true:=by simpa using hue
     have HU:=hid hue;clear hue;by_cases n1:ns=1
     ·subst n1;have E:=hid (show Ln.aM os=u by unfold Ln.aM; rw [Iy.o,K9.o,Ah.o,if_neg (by simpa using HE.o),if_neg (by simpa using HU.o),if_neg (by simp)]);go_wp2;have GF:=P7.o.flt B7.o HRW.o (.int .i64 u.e) (.int .i64 u.at_) (.string (bs u.name));have F:=((B7.o.set 0 (.int .i64 u.e)).set 1 (.int .i64 u.at_)).set 2 (.string (bs u.name));have h0:=F.cell 0;have h1:=F.cell 1;have h2:=F.cell 2;simp only [fu,fC,eX,dH,dL,dK] at h0 h1 h2;refine bodyPost_ret (v:=bJ u) ?_ rfl ⟨by rw [E.o],by rw [Ah.o]; exact GF⟩;clear F GF z0 z1 z2 f0 f1 f2 y0 y1 y2;generalize World.setCell _ _ _=WF at *;simp [results,Tryz.results22,go_sem,bJ,h0,h1,h2]
     by_cases n2:ns=2
     ·subst n2;have E:=hid (show Ln.aM os=u by unfold Ln.aM; rw [Iy.o,K9.o,Ah.o,if_neg (by simpa using HE.o),if_neg (by simpa using HU.o),if_neg (by simp)]);go_wp2;have GF:=P7.o.flt B7.o HRW.o (.int .i64 u.e) (.int .i64 u.at_) (.string (bs u.name));have F:=((B7.o.set 0 (.int .i64 u.e)).set 1 (.int .i64 u.at_)).set 2 (.string (bs u.name));have h0:=F.cell 0;have h1:=F.cell 1;have h2:=F.cell 2;simp only [fu,fC,eX,dH,dL,dK] at h0 h1 h2;refine bodyPost_ret (v:=bJ u) ?_ rfl ⟨by rw [E.o],by rw [Ah.o]; exact GF⟩;clear F GF z0 z1 z2 f0 f1 f2 y0 y1 y2;generalize World.setCell _ _ _=WF at *;simp [results,Tryz.results22,go_sem,bJ,h0,h1,h2]
     have d3:(ns == 1)=false:=by simpa using n1
     have d4:(ns == 2)=false:=by simpa using n2
     have d5:(ns != 1)=true:=by simpa using n1
     have d6:(ns != 2)=true:=by simpa using n2
     have E:=hid (show Ln.aM os=⟨35,0,[]⟩ by unfold Ln.aM; rw [Iy.o,K9.o,Ah.o,if_neg (by simpa using HE.o),if_neg (by simpa using HU.o),if_pos ⟨n1,n2⟩]);have p8:=P7.o.flt L7.o AZ.o (.int .i64 35) (.int .i64 0) (.string ⟨#[]⟩);have b8:=CY B7.o VT (.int .i64 35) (.int .i64 0) (.string ⟨#[]⟩);have l8:ye (((V5.setCell ⟨FL,0,none⟩ (.int .i64 35)).setCell ⟨FL,1,none⟩ (.int .i64 0)).setCell ⟨FL,2,none⟩ (.string ⟨#[]⟩)) FL #[.int .i64 35,.int .i64 0,.string ⟨#[]⟩] 32:=by simpa using ((L7.o.set 0 (.int .i64 35)).set 1 (.int .i64 0)).set 2 (.string ⟨#[]⟩)
     have e0:=L7.o.free 0;have e1:=L7.o.free 1;have e2:=L7.o.free 2;have P8:=hid p8;have B8:=hid b8;have L8:=hid l8;clear n1 n2 p8 b8 l8
     go_upto_region 17 with fail
     clear p5 y0 y1 y2 z0 z1 z2 e0 e1 e2 f0 f1 f2;generalize ((V5.setCell ⟨FL,0,none⟩ (.int .i64 35)).setCell ⟨FL,1,none⟩ (.int .i64 0)).setCell ⟨FL,2,none⟩ (.string ⟨#[]⟩)=V6 at *;have z0:V6.cell? ⟨R,0,none⟩=some (.int .i64 0):=B8.o.cell 0;have z1:V6.cell? ⟨R,1,none⟩=some (.int .i64 0):=B8.o.cell 1;have z2:V6.cell? ⟨R,2,none⟩=some (.string ⟨#[]⟩):=B8.o.cell 2;have f0:=B8.o.free 0;have f1:=B8.o.free 1;have f2:=B8.o.free 2;have y0:V6.cell? ⟨FL,0,none⟩=some (.int .i64 35):=L8.o.cell 0;have y1:V6.cell? ⟨FL,1,none⟩=some (.int .i64 0):=L8.o.cell 1;have y2:V6.cell? ⟨FL,2,none⟩=some (.string ⟨#[]⟩):=L8.o.cell 2
     go_wp2;have GF:=P8.o.flt B8.o HRW.o (.int .i64 35) (.int .i64 0) (.string ⟨#[]⟩);have F:=((B8.o.set 0 (.int .i64 35)).set 1 (.int .i64 0)).set 2 (.string ⟨#[]⟩);have h0:=F.cell 0;have h1:=F.cell 1;have h2:=F.cell 2;simp only [fu,fC,eX,dH,dL,dK] at h0 h1 h2;refine bodyPost_ret (v:=bJ ⟨35,0,[]⟩) ?_ rfl ⟨by rw [E.o],by rw [Ah.o]; exact GF⟩;clear F GF z0 z1 z2 f0 f1 f2 y0 y1 y2;generalize World.setCell _ _ _=WF at *;simp [results,Tryz.results22,go_sem,bJ,bs,h0,h1,h2]
theorem Mg (a b:Int) (w:World) (h0:0<=a) (h1:a<=1125899906842624) (h2:1<=b) (h3:b<=16) :
  Calls Tryz.prog 77 #[.int .i64 a,.int .i64 b] w fun e w'=>e = .returned (.int .i64 (Ln.rup a b))/\w'=w:=by
 go_enter Tryz.func77,Tryz.ntmps77;go_wp2;go_ret;exact ⟨rfl,rfl⟩
theorem XO (ao:Option Addr) (cap:Nat) (ps:List Int) (off:Int) (w:World) (h:ym w ao ps) (hl:ps.length<=65536) (h0:0<=off) (h1:off<=1125899906842624) :
  Calls Tryz.prog 106 #[.slice ao ps.length cap,.int .i64 off] w fun e w'=>e = .returned (.int .i64 (Ln.placeOf ps off))/\w'=w:=by
 obtain ⟨k,hk⟩:∃ k:Nat,Int.tdiv off 4=(k:Int):=⟨(Int.tdiv off 4).toNat,by rw [Int.tdiv_eq_ediv_of_nonneg h0]; omega⟩
 have hkb:(k:Int)<=1125899906842624:=by rw [<- hk,Int.tdiv_eq_ediv_of_nonneg h0]; omega
 have R:=hid (show Ln.placeOf ps off=ps.getD k 0 by unfold Ln.placeOf; rw [hk,if_neg (by omega)]; rfl);have d1:decide ((k:Int) < 0)=false:=by simp
 by_cases hlt:k < ps.length
 ·obtain ⟨sg,o2,rfl,hc⟩:=h (by omega);have ck:=hc k hlt;have d2:decide ((ps.length:Int)<=(k:Int))=false:=by simp; omega
  have E:=hid (show Ln.placeOf ps off=ps[k] by rw [R.o,iJ,gy hlt]; rfl);generalize ps[k]=x at *;clear hc;go_enter Tryz.func106,Tryz.ntmps106;go_wp2;go_ret;exact ⟨by rw [E.o]; rfl,rfl⟩
 ·have d2:decide ((ps.length:Int)<=(k:Int))=true:=by simp; omega
  have E:=hid (show Ln.placeOf ps off=0 by rw [R.o,iJ,List.getElem?_eq_none (by omega)]; rfl);clear h;go_enter Tryz.func106,Tryz.ntmps106;go_wp2;go_ret;exact ⟨by rw [E.o]; rfl,rfl⟩
theorem XH (bl:List Nat) (b g:Nat) (m:Ln.Mod) (i:Int) (w:World) (h:yN w bl b g m) (h0:0<=i) (h1:i<=65535) (hl:m.short.length<=65535) :
  Calls Tryz.prog 109 #[aP b,.int .i64 i] w fun e w'=>e = .returned (.bool (Ln.dY m.short i))/\w'=w:=by
 obtain ⟨v1,v2,v3,v4,q0,q1,q2,q3,q4,q5,q6,q7⟩:=h;obtain ⟨gF,cs,rfl⟩:=yj q3;have k2:w.cell? ⟨b,2,none⟩=some (.slice gF m.short.length cs):=q0.cell 2;unfold aP;obtain ⟨k,rfl⟩:∃ k:Nat,i=(k:Int):=⟨i.toNat,by omega⟩
 have R:=hid (show Ln.dY m.short k=m.short.getD k false by unfold Ln.dY; simp);have d1:decide ((0:Int)<=(k:Int))=true:=by simp
 by_cases hlt:k < m.short.length
 ·obtain ⟨sg,rfl,-,-,-,hc⟩:=M8 q3 (by omega);have ck:=hc k hlt;rw [List.getElem?_map,gy hlt] at ck;have E:=hid (show Ln.dY m.short k=m.short[k] by rw [R.o,iJ,gy hlt]; rfl);dsimp only [Option.map] at ck;generalize m.short[k]=x at *;have d2:decide ((k:Int) < (m.short.length:Int))=true:=by simp; omega
  clear hc q0 q1 q2 q3 q4 q5 q6 q7;go_enter Tryz.func109,Tryz.ntmps109;go_wp2;go_ret;exact ⟨by rw [E.o]; rfl,rfl⟩
 ·have d2:decide ((k:Int) < (m.short.length:Int))=false:=by simp; omega
  have E:=hid (show Ln.dY m.short k=false by rw [R.o,iJ,List.getElem?_eq_none (by omega)]; rfl);clear q0 q1 q2 q3 q4 q5 q6 q7;go_enter Tryz.func109,Tryz.ntmps109;go_wp2;go_ret;exact ⟨by rw [E.o]; rfl,rfl⟩
theorem Xc (ah off:Int) (rs:List Lk.Rel) (k:Nat) (h:k < rs.length):Ln.aG ah off k (rs.drop k)=if rs[k].ah=ah/\rs[k].off<=off/\off < rs[k].off+4 * yr rs[k] then ((k:Int),rs[k]) else Ln.aG ah off (k+1) (rs.drop (k+1)):=by
 rw [jg h];rfl
theorem XV {w V:World} (h:w.grownBy V none) (r:Nat) (hr:w.heap.size<=r) (a b c d e:Value):w.grownBy (((((V.setCell ⟨r,0,none⟩ a).setCell ⟨r,1,none⟩ b).setCell ⟨r,2,none⟩ c).setCell ⟨r,3,none⟩ d).setCell ⟨r,4,none⟩ e) none :=
 yD (yD (yx h r hr a b c) (yi _ r 3 d) (by intro k q; simp at q; omega)) (yi _ r 4 e) (by intro k q; simp at q; omega)
def Zh (r:Lk.Rel):Prop:=yl r/\-1125899906842624<=r.off/\r.off<=1125899906842624
theorem XT (bl:List Nat) (b g:Nat) (m:Ln.Mod) (ah off:Int) (w:World) (h:yN w bl b g m) (hr:∀ r∈m.obj.aj,Zh r) (hl:m.obj.aj.length<=65535) :
  Calls Tryz.prog 107 #[aP b,.int .i64 ah,.int .i64 off] w fun e w'=>e = .returned (.tuple #[.int .i64 (Ln.aG ah off 0 m.obj.aj).1,bY (Ln.aG ah off 0 m.obj.aj).2])/\w.grownBy w' none:=by
 have A0:=aH w (.cells #[.int .i64 0,.int .i64 0,.int .i64 0,.int .i64 0,.int .i64 0] 83) none;have BR:=hid (ye.new w #[.int .i64 0,.int .i64 0,.int .i64 0,.int .i64 0,.int .i64 0] 83);have G0:=hid A0;obtain ⟨v1,v2,v3,v4,q0,q1,-⟩:=h.kept A0;obtain ⟨at_,ct,af,cf,ad,cd,aa,ca,gF,cs,ar,cr,hb,-,-,-,-,-,p6⟩:=q1.open;have k6:=hb.cell 6;simp only [dH,dL,dK] at k6;have k0:=q0.cell 0;simp only [dH,dK,aP] at k0;have S:=hid (lX.aB p6);have cS:=hid (fun r W (h:Zh r)=>Ko r W h.1.six);unfold bY at cS;clear q0 q1 hb p6 A0 h;have HR:=hid hr;have FD:=hid (show Ln.aG ah off 0 m.obj.aj=Ln.aG ah off 0 (m.obj.aj.drop 0) from rfl)
 generalize hN:Ln.aG ah off 0 m.obj.aj=N at *;have HN:=hid hN;clear hN hr;generalize m.obj.aj=rs at *;unfold aP;go_enter Tryz.func107,Tryz.ntmps107;go_wp2;generalize w.alloc (.cells #[.int .i64 0,.int .i64 0,.int .i64 0,.int .i64 0,.int .i64 0] 83)=W1 at *;clear k0 k6
 go_loopw [18] (fun i wr=>∃ k:Nat,k<=rs.length/\i = .int .i64 k/\N=Ln.aG ah off k (rs.drop k)/\W1.grownBy wr none) (fun i _=>rs.length - (intOf i).toNat)
 case atStart=>exact ⟨0,Nat.zero_le _,rfl,FD.o,World.grownBy.refl _ _⟩
 case round =>
  obtain ⟨k,hk,rfl,Wh,hgr⟩:=hrel;have HF:=hid Wh;have HG:=hid hgr;clear Wh hgr FD;by_cases hlt:k < rs.length
  ·obtain ⟨sg,hsg,hgs,hcs⟩:=S.o.grown HG.o (by omega);subst hsg;obtain ⟨q0,q1,q2,q3,q4⟩:=hcs k hlt;clear hcs;have g1:(k:Int) < (rs.length:Int):=by omega
   have TM:=HR.o _ (dM hlt);have FI:=hid (HF.o.trans (Xc ah off rs k hlt));have cY:=hid (fun W=>cS.o rs[k] W TM);have hof:=TM.2;have hsp:=yC TM.1;generalize yr rs[k]=sp at *;generalize rs[k]=r at *;clear TM;have A2:=aH wr (.cells #[.int .i64 r.ah,.int .i64 r.off,.int .i64 r.kind,.int .i64 r.sym,.int .i64 r.addend] 83) none;have G2:=hid (ya HG.o A2);have BL:=hid (ye.new wr #[.int .i64 r.ah,.int .i64 r.off,.int .i64 r.kind,.int .i64 r.sym,.int .i64 r.addend] 83);have kU:=hid (BR.o.grown G2.o (by simp));clear A2
   go_upto_region 4 with fail
   clear q0 q1 q2 q3 q4;generalize wr.alloc (.cells #[.int .i64 r.ah,.int .i64 r.off,.int .i64 r.kind,.int .i64 r.sym,.int .i64 r.addend] 83)=W2 at *;have HRL:w.heap.size≠wr.heap.size:=by have:=BR.o.lt; have:=HG.o.size; omega
   generalize wr.heap.size=L at *;have c0:W2.cell? ⟨L,0,none⟩=some (.int .i64 r.ah):=BL.o.cell 0;have c1:W2.cell? ⟨L,1,none⟩=some (.int .i64 r.off):=BL.o.cell 1;have c2:W2.cell? ⟨L,2,none⟩=some (.int .i64 r.kind):=BL.o.cell 2;have c3:W2.cell? ⟨L,3,none⟩=some (.int .i64 r.sym):=BL.o.cell 3;have c4:W2.cell? ⟨L,4,none⟩=some (.int .i64 r.addend):=BL.o.cell 4;have BD:=hid (fun W (hq:W2.drew.grownBy W none)=>show ye W L #[.int .i64 r.ah,.int .i64 r.off,.int .i64 r.kind,.int .i64 r.sym,.int .i64 r.addend] 83 from (uV BL.o).grown hq (by simp));by_cases e1:r.ah=ah
   ·have d1:(r.ah == ah)=true:=by simpa using e1
    by_cases e2:r.off<=off
    ·have d2:decide (r.off<=off)=true:=by simpa using e2
     have KH:=hid (And.intro e1 e2);have w1:IntKind.i64.wrap (4 * sp)=4 * sp:=IntWalk.i64_in _ ⟨by omega,by omega⟩;have w2:IntKind.i64.wrap (r.off+4 * sp)=r.off+4 * sp:=IntWalk.i64_in _ ⟨by omega,by omega⟩;clear e1 e2
     go_region_held3 (fun w'=>w'.cell? ⟨L,0,none⟩=some (.int .i64 r.ah)/\w'.cell? ⟨L,1,none⟩=some (.int .i64 r.off)/\w'.cell? ⟨L,2,none⟩=some (.int .i64 r.kind)/\w'.cell? ⟨L,3,none⟩=some (.int .i64 r.sym)/\w'.cell? ⟨L,4,none⟩=some (.int .i64 r.addend))
      (go_keep)
      (first | (go_at_call 129; refine (cY.o _).mono ?_; rintro e w' ⟨rfl,hq⟩; have bq:=BD.o _ hq; have s0:=bq.cell 0; have s1:=bq.cell 1; have s2:=bq.cell 2; have s3:=bq.cell 3; have s4:=bq.cell 4; simp only [dH,dL,dK] at s0 s1 s2 s3 s4))
     have GQ:=hid (ya (yf G2.o) hq);have BQ:=hid ((uV kU.o).grown hq (by simp));have LQ:=hid bq;clear hq bq c0 c1 c2 c3 c4;by_cases e3:off < r.off+4 * sp
     ·have d3:decide (off < r.off+4 * sp)=true:=by simpa using e3
      have E:=hid (show N=((k:Int),r) by rw [FI.o,if_pos ⟨KH.o.1,KH.o.2,e3⟩]);have z0:w'.cell? ⟨w.heap.size,0,none⟩=some (.int .i64 0):=BQ.o.cell 0;have z1:w'.cell? ⟨w.heap.size,1,none⟩=some (.int .i64 0):=BQ.o.cell 1;have z2:w'.cell? ⟨w.heap.size,2,none⟩=some (.int .i64 0):=BQ.o.cell 2;have z3:w'.cell? ⟨w.heap.size,3,none⟩=some (.int .i64 0):=BQ.o.cell 3;have z4:w'.cell? ⟨w.heap.size,4,none⟩=some (.int .i64 0):=BQ.o.cell 4;have f0:=BQ.o.free 0;have f1:=BQ.o.free 1;have f2:=BQ.o.free 2;have f3:=BQ.o.free 3;have f4:=BQ.o.free 4;go_wp2
      go_region_held3 (fun w'=>w'.cell? ⟨L,0,none⟩=some (.int .i64 r.ah)/\w'.cell? ⟨L,1,none⟩=some (.int .i64 r.off)/\w'.cell? ⟨L,2,none⟩=some (.int .i64 r.kind)/\w'.cell? ⟨L,3,none⟩=some (.int .i64 r.sym)/\w'.cell? ⟨L,4,none⟩=some (.int .i64 r.addend))
       (go_keep)
       (fail)
      go_wp2;have F:=uV (((((BQ.o.set 0 (.int .i64 r.ah)).set 1 (.int .i64 r.off)).set 2 (.int .i64 r.kind)).set 3 (.int .i64 r.sym)).set 4 (.int .i64 r.addend));have h0:=F.cell 0;have h1:=F.cell 1;have h2:=F.cell 2;have h3:=F.cell 3;have h4:=F.cell 4;simp only [fu,fC,eX,dH,dL,dK] at h0 h1 h2 h3 h4;refine bodyPost_ret (v:=.tuple #[.int .i64 k,bY r]) ?_ rfl ⟨by rw [E.o],yf (XV (ya G0.o GQ.o) _ (Nat.le_refl _) _ _ _ _ _)⟩;clear F z0 z1 z2 z3 z4 f0 f1 f2 f3 f4 s0 s1 s2 s3 s4;generalize World.drew _=WF at *;simp [results,Tryz.results107,go_sem,bY,h0,h1,h2,h3,h4]
     ·have d3:decide (off < r.off+4 * sp)=false:=by simpa using e3
      have E:=hid (show N=Ln.aG ah off (k+1) (rs.drop (k+1)) by rw [FI.o,if_neg (fun c=>e3 c.2.2)]);go_wp2
      go_roundw
      case rel=>exact ⟨k+1,by omega,by go_num,E.o,GQ.o⟩
      case measure=>simp [intOf]; omega
    ·have d2:decide (r.off<=off)=false:=by simpa using e2
     have E:=hid (show N=Ln.aG ah off (k+1) (rs.drop (k+1)) by rw [FI.o,if_neg (fun c=>e2 c.2.1)]);clear e2 e1
     go_quiet (fail)
     go_wp2
     go_roundw
     case rel=>exact ⟨k+1,by omega,by go_num,E.o,yd G2.o _⟩
     case measure=>simp [intOf]; omega
   ·have d1:(r.ah == ah)=false:=by simpa using e1
    have E:=hid (show N=Ln.aG ah off (k+1) (rs.drop (k+1)) by rw [FI.o,if_neg (fun c=>e1 c.1)]);clear e1
    go_quiet (fail)
    go_wp2
    go_roundw
    case rel=>exact ⟨k+1,by omega,by go_num,E.o,yd G2.o _⟩
    case measure=>simp [intOf]; omega
  ·obtain rfl:k=rs.length:=by omega
   have g3:decide ((rs.length:Int) < (rs.length:Int))=false:=by simp
   have E:=hid (show N=(0,⟨0,0,0,0,0⟩) by rw [HF.o,List.drop_length]; rfl);have fF:=hid (BR.o.grown HG.o (by simp));have G3:=hid (ya G0.o HG.o);have z0:wr.cell? ⟨w.heap.size,0,none⟩=some (.int .i64 0):=fF.o.cell 0;have z1:wr.cell? ⟨w.heap.size,1,none⟩=some (.int .i64 0):=fF.o.cell 1;have z2:wr.cell? ⟨w.heap.size,2,none⟩=some (.int .i64 0):=fF.o.cell 2;have z3:wr.cell? ⟨w.heap.size,3,none⟩=some (.int .i64 0):=fF.o.cell 3;have z4:wr.cell? ⟨w.heap.size,4,none⟩=some (.int .i64 0):=fF.o.cell 4;have f0:=fF.o.free 0;have f1:=fF.o.free 1;have f2:=fF.o.free 2;have f3:=fF.o.free 3;have f4:=fF.o.free 4;go_wp2
   have F:=((((fF.o.set 0 (.int .i64 0)).set 1 (.int .i64 0)).set 2 (.int .i64 0)).set 3 (.int .i64 0)).set 4 (.int .i64 0);have h0:=F.cell 0;have h1:=F.cell 1;have h2:=F.cell 2;have h3:=F.cell 3;have h4:=F.cell 4;simp only [fu,fC,eX,dH,dL,dK] at h0 h1 h2 h3 h4;refine bodyPost_ret (v:=.tuple #[.int .i64 0,bY ⟨0,0,0,0,0⟩]) ?_ rfl ⟨by rw [E.o],XV G3.o _ (Nat.le_refl _) _ _ _ _ _⟩;clear F z0 z1 z2 z3 z4 f0 f1 f2 f3 f4;generalize World.setCell _ _ _=WF at *;simp [results,Tryz.results107,go_sem,bY,h0,h1,h2,h3,h4]
structure yO (n:Nat) (m:Ln.Mod):Prop where
 text:m.text.length<=65536/\∀ p∈m.text,0<=p/\p<=1125899906842624
 far:m.far.length<=65536/\∀ p∈m.far,0<=p/\p<=1125899906842624
 data:0<=m.data/\m.data<=1125899906842624
 bss:0<=m.bss/\m.bss<=1125899906842624
 means:m.means.length<=65535/\∀ s∈m.means,(0<=s.off/\s.off<=1125899906842624)/\∀ i,s.mod=some i->i < n
 short:m.short.length<=65535
 aj:m.obj.aj.length<=65535/\∀ r∈m.obj.aj,yl r/\0<=r.off/\r.off<=1125899906842624
theorem WS (ps:List Int) (off:Int) (h:∀ p∈ps,0<=p/\p<=1125899906842624):0<=Ln.placeOf ps off/\Ln.placeOf ps off<=1125899906842624:=by
 unfold Ln.placeOf;split
 ·omega
 ·rw [iJ]
  cases e:ps[(off.tdiv 4).toNat]? with
  | none=>simp
  | some p=>exact h p (List.mem_of_getElem? e)
theorem WE {n:Nat} {m:Ln.Mod} (h:yO n m) (ah off:Int) (h0:0<=off) (h1:off<=1125899906842624):0<=Ln.address m ah off/\Ln.address m ah off<=2251799813685248:=by
 have a:=WS m.text off h.text.2;have b:=WS m.far off h.far.2;have c:=h.data;have d:=h.bss;unfold Ln.address
 repeat' split
 all_goals omega
theorem QJ (bl:List Nat) (b g n:Nat) (m:Ln.Mod) (ah off:Int) (w:World) (h:yN w bl b g m) (hm:yO n m) (h0:0<=off) (h1:off<=1125899906842624) :
  Calls Tryz.prog 81 #[aP b,.int .i64 ah,.int .i64 off] w fun e w'=>e = .returned (.int .i64 (Ln.address m ah off))/\w'=w:=by
 obtain ⟨v1,v2,v3,v4,q0,-,-,-,q4,q5,-⟩:=h;obtain ⟨at_,ct,rfl⟩:=yj q4;obtain ⟨af,cf,rfl⟩:=yj q5;have k3:w.cell? ⟨b,3,none⟩=some (.slice at_ m.text.length ct):=q0.cell 3;have k4:w.cell? ⟨b,4,none⟩=some (.slice af m.far.length cf):=q0.cell 4;have k5:w.cell? ⟨b,5,none⟩=some (.int .i64 m.data):=q0.cell 5;have k6:w.cell? ⟨b,6,none⟩=some (.int .i64 m.bss):=q0.cell 6;have cT:=hid (XO at_ ct m.text off w (ym.aB q4) hm.text.1 h0 h1);have cF:=hid (XO af cf m.far off w (ym.aB q5) hm.far.1 h0 h1);have hd:=hm.data;have hb:=hm.bss;clear q0 q4 q5 hm;have R:=hid (show Ln.address m ah off=if ah=1 then Ln.placeOf m.text off else if ah=2 then Ln.placeOf m.far off else if ah=3 then m.data+off else if ah=4 then m.bss+off else 0 from rfl)
 generalize Ln.placeOf m.text off=pt at *;generalize Ln.placeOf m.far off=pf at *;generalize m.data=d at *;generalize m.bss=z at *;unfold aP;by_cases e1:ah=1
 ·subst e1;have E:=hid (show Ln.address m 1 off=pt by rw [R.o]; rfl);clear R;go_enter Tryz.func81,Tryz.ntmps81;go_wp2_with fail;refine cT.o.mono ?_;rintro e w2 ⟨rfl,rfl⟩;go_wp2;go_ret;exact ⟨by rw [E.o]; rfl,rfl⟩
 by_cases e2:ah=2
 ·subst e2;have E:=hid (show Ln.address m 2 off=pf by rw [R.o]; rfl);clear R;go_enter Tryz.func81,Tryz.ntmps81;go_wp2_with fail;refine cF.o.mono ?_;rintro e w2 ⟨rfl,rfl⟩;go_wp2;go_ret;exact ⟨by rw [E.o]; rfl,rfl⟩
 by_cases e3:ah=3
 ·subst e3;have E:=hid (show Ln.address m 3 off=d+off by rw [R.o]; rfl);have w1:IntKind.i64.wrap (d+off)=d+off:=IntWalk.i64_in _ ⟨by omega,by omega⟩;clear R;go_enter Tryz.func81,Tryz.ntmps81;go_wp2;go_ret;exact ⟨by rw [E.o]; rfl,rfl⟩
 by_cases e4:ah=4
 ·subst e4;have E:=hid (show Ln.address m 4 off=z+off by rw [R.o]; rfl);have w1:IntKind.i64.wrap (z+off)=z+off:=IntWalk.i64_in _ ⟨by omega,by omega⟩;clear R;go_enter Tryz.func81,Tryz.ntmps81;go_wp2;go_ret;exact ⟨by rw [E.o]; rfl,rfl⟩
 have E:=hid (show Ln.address m ah off=0 by rw [R.o,if_neg e1,if_neg e2,if_neg e3,if_neg e4]);have d1:(ah == 1)=false:=by simpa using e1
 have d2:(ah == 2)=false:=by simpa using e2
 have d3:(ah == 3)=false:=by simpa using e3
 have d4:(ah == 4)=false:=by simpa using e4
 clear R e1 e2 e3 e4;go_enter Tryz.func81,Tryz.ntmps81;go_wp2;go_ret;exact ⟨by rw [E.o]; rfl,rfl⟩
structure Av (W:World) (bl:List Nat) (ms:List Ln.Mod):Prop where
 len:ms.length=bl.length
 at_:∀ i (h:i < bl.length),∃ g,yN W bl bl[i] g (ms[i]'(by rw [len]; exact h))
 nice:∀ m∈ms,yO bl.length m
theorem Av.kept {W W':World} {bl:List Nat} {ms:List Ln.Mod} (h:Av W bl ms) (hg:W.grownBy W' none):Av W' bl ms :=
 ⟨h.len,fun i hi=>(h.at_ i hi).imp fun _ q=>q.kept hg,h.nice⟩
theorem ProgAt.uF {W0 W:World} {P:Nat} {bt bf bd:Int} {vm:Value} {bl gl:List Nat} {ms:List Ln.Mod} {st:Ln.fQ} {no:Int} (h:ProgAt W0 P bt bf bd vm bl gl ms st no W) (hn:∀ m∈ms,yO bl.length m):Av W bl ms :=
 ⟨h.fT,fun i hi=>⟨_,h.mods i hi⟩,hn⟩
def Ns (n:Nat) (s:Ln.fQ):Prop:=(0<=s.off/\s.off<=1125899906842624)/\∀ i,s.mod=some i->i < n
theorem yhM {n:Nat} {ms:List Ln.Mod} (hn:∀ m∈ms,yO n m) (s:Ln.fQ) (hs:Ns n s):0<=Ln.bK ms s/\Ln.bK ms s<=2251799813685248:=by
 unfold Ln.bK
 cases s.mod with
 | none=>simp
 | some i =>
  dsimp only
  cases e:ms[i]? with
  | none=>simp
  | some m=>exact WE (hn m (List.mem_of_getElem? e)) _ _ hs.1.1 hs.1.2
theorem yjB {n:Nat} {ms:List Ln.Mod} (hn:∀ m∈ms,yO n m) (m:Ln.Mod) (hm:yO n m) (r:Lk.Rel):0<=Ln.target ms m r/\Ln.target ms m r<=2251799813685248:=by
 unfold Ln.target;split
 ·omega
 ·rename_i h;have hlt:r.sym.toNat < m.means.length:=by omega
  rw [iJ,gy hlt];exact yhM hn _ (hm.means.2 _ (dM hlt))
theorem Ww (bl:List Nat) (ms:List Ln.Mod) (s:Ln.fQ) (w:World) (h:Av w bl ms) (hs:Ns bl.length s) :
  Calls Tryz.prog 50 #[mU bl s] w fun e w'=>e = .returned (.int .i64 (Ln.bK ms s))/\w.grownBy w' none:=by
 obtain ⟨sm,ss,so⟩:=s;have A0:=hid (aH w (.cells #[.pointer (kW bl sm),.int .i64 ss,.int .i64 so] 103) none)
 cases sm with
 | none =>
  unfold mU;dsimp only at *;have P0:kW bl none=none:=rfl;rw [P0] at A0 ⊢;go_enter Tryz.func50,Tryz.ntmps50;go_wp2;go_ret;exact ⟨rfl,A0.o⟩
 | some i =>
  have hi:i < bl.length:=hs.2 i rfl;have him:i < ms.length:=by rw [h.len]; exact hi
  obtain ⟨g,hm⟩:=h.at_ i hi;have P0:=Ki hi;have E:=hid (show Ln.bK ms ⟨some i,ss,so⟩=Ln.address ms[i] ss so by unfold Ln.bK; dsimp only; rw [gy him]);unfold mU;dsimp only at *;rw [P0] at A0 ⊢;have cA:=hid (QJ bl bl[i] g bl.length ms[i] ss so _ (hm.kept A0.o) (h.nice _ (dM him)) hs.1.1 hs.1.2);unfold aP at cA;clear hm h P0;go_enter Tryz.func50,Tryz.ntmps50;go_wp2_with fail;refine cA.o.mono ?_;rintro e w2 ⟨rfl,rfl⟩;go_wp2;go_ret;exact ⟨by rw [E.o]; rfl,A0.o⟩
theorem XI (bl:List Nat) (ms:List Ln.Mod) (b g:Nat) (m:Ln.Mod) (r:Lk.Rel) (w:World) (h:Av w bl ms) (hm:yN w bl b g m) (hn:yO bl.length m) :
  Calls Tryz.prog 105 #[aP b,bY r] w fun e w'=>e = .returned (.int .i64 (Ln.target ms m r))/\w.grownBy w' none:=by
 obtain ⟨rs,ro,rk,ry,ra⟩:=r;have A0:=hid (aH w (.cells #[.int .i64 rs,.int .i64 ro,.int .i64 rk,.int .i64 ry,.int .i64 ra] 83) none);have R:=hid (show Ln.target ms m ⟨rs,ro,rk,ry,ra⟩=if ry < 0\/(m.means.length:Int)<=ry then 0 else Ln.bK ms (m.means.getD ry.toNat Ln.none_) from rfl);obtain ⟨v1,v2,v3,v4,q0,-,q2,-⟩:=hm;obtain ⟨am,cm,rfl⟩:=yj q2;have k1:w.cell? ⟨b,1,none⟩=some (.slice am m.means.length cm):=q0.cell 1;have hbl:=q0.lt;have hbn:b≠w.heap.size:=by omega
 have hl:=hn.means.1;unfold aP bY;dsimp only;by_cases e1:ry < 0
 ·have d1:decide (ry < 0)=true:=by simpa using e1
  have E:=hid (show Ln.target ms m ⟨rs,ro,rk,ry,ra⟩=0 by rw [R.o,if_pos (.inl e1)]);clear R q0 q2 e1;go_enter Tryz.func105,Tryz.ntmps105;go_wp2
  go_quiet (fail)
  go_wp2;go_ret;exact ⟨by rw [E.o]; rfl,yd A0.o _⟩
 have d1:decide (ry < 0)=false:=by simpa using e1
 obtain ⟨y,rfl⟩:∃ y:Nat,ry=(y:Int):=⟨ry.toNat,by omega⟩
 by_cases e2:m.means.length<=y
 ·have d2:decide ((m.means.length:Int)<=(y:Int))=true:=by simpa using e2
  have E:=hid (show Ln.target ms m ⟨rs,ro,rk,y,ra⟩=0 by rw [R.o,if_pos (.inr (by omega))]);clear R q0 q2;go_enter Tryz.func105,Tryz.ntmps105;go_wp2
  go_quiet (fail)
  go_wp2;go_ret;exact ⟨by rw [E.o]; rfl,yd A0.o _⟩
 have d2:decide ((m.means.length:Int)<=(y:Int))=false:=by simp; omega
 have hlt:y < m.means.length:=by omega
 have E:=hid (show Ln.target ms m ⟨rs,ro,rk,y,ra⟩=Ln.bK ms m.means[y] by rw [R.o,if_neg (by omega),Int.toNat_natCast,iJ,gy hlt]; rfl);obtain ⟨sg,rfl⟩:∃ sg,am=some ⟨sg,0,none⟩:=by
  rcases q2.2 with ⟨h1,h2⟩ | ⟨g,cap',cur,hv,_⟩
  ·simp at h1; omega
  ·simp only [Value.slice.injEq] at hv;exact ⟨g,hv.1⟩
 have q:=fun j (hj:j < 3)=>(q2.cellAt (y * 3+j) (by omega)).trans (Nc (xY bl) 3 (fun _=>rfl) m.means y j hlt hj)
 have c0:w.cell? ⟨sg,y * 3,none⟩=some (.pointer (kW bl m.means[y].mod)):=q 0 (by omega);have c1:w.cell? ⟨sg,y * 3+1,none⟩=some (.int .i64 m.means[y].ah):=q 1 (by omega);have c2:w.cell? ⟨sg,y * 3+2,none⟩=some (.int .i64 m.means[y].off):=q 2 (by omega);have hsn:sg≠w.heap.size:=by have:sg < w.heap.size:=World.block_lt_of_cell? w _ c0; omega
 have cA:=hid (fun W (hg:w.grownBy W none)=>Ww bl ms m.means[y] W (h.kept hg) (hn.means.2 _ (dM hlt)));unfold mU at cA;clear R q q0 q2 h hn;generalize m.means[y]=s at *;obtain ⟨sm,ss,so⟩:=s;dsimp only at *;generalize kW bl sm=pm at *;go_enter Tryz.func105,Tryz.ntmps105;go_wp2
 go_quiet (fail)
 have A1:=hid (yd A0.o nq);have l3:((w.alloc (.cells #[.int .i64 rs,.int .i64 ro,.int .i64 rk,.int .i64 y,.int .i64 ra] 83)).drewN nq).cell? ⟨w.heap.size,3,none⟩=some (.int .i64 y):=((ye.new w #[.int .i64 rs,.int .i64 ro,.int .i64 rk,.int .i64 y,.int .i64 ra] 83).drewN nq).cell 3;go_wp2;generalize (w.alloc (.cells #[.int .i64 rs,.int .i64 ro,.int .i64 rk,.int .i64 y,.int .i64 ra] 83)).drewN nq=W1 at *;generalize w.heap.size=L at *;have x0:=yc c0 A1.o;have x1:=yc c1 A1.o;have x2:=yc c2 A1.o;have x3:=yc k1 A1.o;have KD:=hid (fun W (hq:W1.drew.grownBy W none)=>And.intro (yc (yc k1 (yf A1.o)) hq) (And.intro (yc (show W1.drew.cell? ⟨L,3,none⟩=some (.int .i64 y) from l3) hq) (And.intro (yc (yc c0 (yf A1.o)) hq) (And.intro (yc (yc c1 (yf A1.o)) hq) (yc (yc c2 (yf A1.o)) hq)))))
 clear c0 c1 c2 k1
 go_region_held3 (fun w'=>w'.cell? ⟨b,1,none⟩=some (.slice (some ⟨sg,0,none⟩) m.means.length cm)/\w'.cell? ⟨L,3,none⟩=some (.int .i64 y)/\w'.cell? ⟨sg,y * 3,none⟩=some (.pointer pm)/\w'.cell? ⟨sg,y * 3+1,none⟩=some (.int .i64 ss)/\w'.cell? ⟨sg,y * 3+2,none⟩=some (.int .i64 so))
  (go_keep)
  (first | (go_at_call 50; refine (cA.o _ (yf A1.o)).mono ?_; rintro e w' ⟨rfl,hq⟩; obtain ⟨s0,s1,s2,s3,s4⟩:=KD.o _ hq))
 go_wp2;go_ret;exact ⟨by rw [E.o]; rfl,ya (yf A1.o) hq⟩
theorem Ma (bl:List Nat) (ms:List Ln.Mod) (b g:Nat) (m:Ln.Mod) (r:Lk.Rel) (w:World) (h:Av w bl ms) (hm:yN w bl b g m) (hn:yO bl.length m) (h0:0<=r.off) (h1:r.off<=1125899906842624) :
  Calls Tryz.prog 80 #[aP b,bY r] w fun e w'=>e = .returned (.int .i64 (Ln.distance ms m r))/\w.grownBy w' none:=by
 have tr:=yjB h.nice m hn r;have ar:=WE hn r.ah r.off h0 h1;have cT:=hid (fun W (hg:w.grownBy W none)=>XI bl ms b g m r W (h.kept hg) (hm.kept hg) hn);have cA:=hid (fun W (hg:w.grownBy W none)=>QJ bl b g bl.length m r.ah r.off W (hm.kept hg) hn h0 h1);have R:=hid (show Ln.distance ms m r=Ln.target ms m r - Ln.address m r.ah r.off from rfl);generalize Ln.target ms m r=t at *;generalize Ln.address m r.ah r.off=a at *;have w1:IntKind.i64.wrap (t - a)=t - a:=IntWalk.i64_in _ ⟨by omega,by omega⟩;have hbl:b < w.heap.size:=by obtain ⟨v1,v2,v3,v4,q0,-⟩:=hm; exact q0.lt
 clear h hm hn h0 h1;unfold aP bY at *;obtain ⟨rs,ro,rk,ry,ra⟩:=r;dsimp only at *;have A0:=hid (aH w (.cells #[.int .i64 rs,.int .i64 ro,.int .i64 rk,.int .i64 ry,.int .i64 ra] 83) none);have B0:=hid (ye.new w #[.int .i64 rs,.int .i64 ro,.int .i64 rk,.int .i64 ry,.int .i64 ra] 83);go_enter Tryz.func80,Tryz.ntmps80;go_wp2;generalize w.alloc (.cells #[.int .i64 rs,.int .i64 ro,.int .i64 rk,.int .i64 ry,.int .i64 ra] 83)=W1 at *;generalize w.heap.size=L at *;have c0:W1.cell? ⟨L,0,none⟩=some (.int .i64 rs):=B0.o.cell 0;have c1:W1.cell? ⟨L,1,none⟩=some (.int .i64 ro):=B0.o.cell 1;have c2:W1.cell? ⟨L,2,none⟩=some (.int .i64 rk):=B0.o.cell 2
 have c3:W1.cell? ⟨L,3,none⟩=some (.int .i64 ry):=B0.o.cell 3;have c4:W1.cell? ⟨L,4,none⟩=some (.int .i64 ra):=B0.o.cell 4;have BD:=hid (fun W (hq:W1.drew.grownBy W none)=>show ye W L #[.int .i64 rs,.int .i64 ro,.int .i64 rk,.int .i64 ry,.int .i64 ra] 83 from (uV B0.o).grown hq (by simp))
 go_region_held3 (fun w'=>w'.cell? ⟨L,0,none⟩=some (.int .i64 rs)/\w'.cell? ⟨L,1,none⟩=some (.int .i64 ro)/\w'.cell? ⟨L,2,none⟩=some (.int .i64 rk)/\w'.cell? ⟨L,3,none⟩=some (.int .i64 ry)/\w'.cell? ⟨L,4,none⟩=some (.int .i64 ra))
  (go_keep)
  (first | (go_at_call 105; refine (cT.o _ (yf A0.o)).mono ?_; rintro e w' ⟨rfl,hq⟩; have bq:=BD.o _ hq; have s0:=bq.cell 0; have s1:=bq.cell 1; have s2:=bq.cell 2; have s3:=bq.cell 3; have s4:=bq.cell 4; simp only [dH,dL,dK] at s0 s1 s2 s3 s4) | (go_at_call 81; refine (cA.o _ (ya (yf A0.o) hq)).mono ?_; rintro e w2 ⟨rfl,rfl⟩))
 go_wp2;go_ret;exact ⟨by rw [R.o]; rfl,ya (yf A0.o) hq⟩
theorem MW (ah off:Int):∀ (rs:List Lk.Rel) (k:Nat),Ln.aG ah off k rs=(0,⟨0,0,0,0,0⟩)\/∃ i,∃ h:i < rs.length,Ln.aG ah off k rs=(((k+i:Nat):Int),rs[i]):=by
 intro rs
 induction rs with
 | nil=>intro k; exact .inl rfl
 | cons r rs ih =>
  intro k;unfold Ln.aG;split
  ·exact .inr ⟨0,by simp,rfl⟩
  ·rcases ih (k+1) with e | ⟨i,hi,e⟩
   ·exact .inl e
   ·exact .inr ⟨i+1,by simpa using hi,by rw [e]; simp; omega⟩
theorem ymJ (bl:List Nat) (b g n:Nat) (m:Ln.Mod) (ah off at_:Int) (w:World) (hm:yN w bl b g m) (hn:yO n m) (h0:0<=at_) (h1:at_<=1125899906842624) :
  Calls Tryz.prog 104 #[aP b,.int .i64 ah,.int .i64 off,.int .i64 at_] w fun e w'=>e = .returned (.bool (Ln.stays m ah off at_))/\w.grownBy w' none:=by
 have cR:=hid (XT bl b g m ah off w hm (fun r hr=>⟨(hn.aj.2 r hr).1,by have:=(hn.aj.2 r hr).2; omega,(hn.aj.2 r hr).2.2⟩) hn.aj.1);have R:=hid (show Ln.stays m ah off at_=if (Ln.aG ah off 0 m.obj.aj).2.kind=6 then !decide (Ln.rup at_ ((Ln.aG ah off 0 m.obj.aj).2.addend+4)=at_) else if (Ln.aG ah off 0 m.obj.aj).2.kind=4 then decide (off=(Ln.aG ah off 0 m.obj.aj).2.off) || !Ln.dY m.short (Ln.aG ah off 0 m.obj.aj).1 else true from rfl);have AD:=hid (show (Ln.aG ah off 0 m.obj.aj).2.kind=6->(Ln.aG ah off 0 m.obj.aj).2.addend=4\/(Ln.aG ah off 0 m.obj.aj).2.addend=12 by
  rcases MW ah off m.obj.aj 0 with e | ⟨i,hi,e⟩
  ·rw [e]; intro c; simp at c
  ·rw [e]; intro c; exact (hn.aj.2 _ (dM hi)).1.six c)
 have IX:0<=(Ln.aG ah off 0 m.obj.aj).1/\(Ln.aG ah off 0 m.obj.aj).1<=65535:=by
  rcases MW ah off m.obj.aj 0 with e | ⟨i,hi,e⟩
  ·rw [e]; simp
  ·rw [e]; have:=hn.aj.1; simp; omega
 have cS:=hid (fun W (hg:w.grownBy W none)=>XH bl b g m (Ln.aG ah off 0 m.obj.aj).1 W (hm.kept hg) IX.1 IX.2 hn.short);generalize Ln.aG ah off 0 m.obj.aj=p at *;obtain ⟨i,rs,ro,rk,ry,ra⟩:=p;dsimp only at *;clear hm hn;unfold aP bY at *;go_enter Tryz.func104,Tryz.ntmps104;go_wp2_with fail;refine cR.o.mono ?_;rintro e W2 ⟨rfl,h2⟩;have G2:=hid h2;dsimp only;have A2:=hid (ya h2 (aH W2 (.cells #[.int .i64 rs,.int .i64 ro,.int .i64 rk,.int .i64 ry,.int .i64 ra] 83) none));have cS2:=hid (cS.o _ A2.o);have cU:=hid (fun b hb1 hb2=>Mg at_ b (W2.alloc (.cells #[.int .i64 rs,.int .i64 ro,.int .i64 rk,.int .i64 ry,.int .i64 ra] 83)) h0 h1 hb1 hb2)
 clear h2 cR cS;by_cases e6:rk=6
 ·subst e6;have E:=hid (show Ln.stays m ah off at_ = !decide (Ln.rup at_ (ra+4)=at_) by rw [R.o,if_pos rfl]);rcases AD.o rfl with rfl | rfl
  ·have cV:=hid (cU.o 8 (by omega) (by omega));go_wp2_with fail;refine cV.o.mono ?_;rintro e w2 ⟨rfl,rfl⟩;go_wp2;go_ret;exact ⟨by rw [E.o]; exact congrArg (fun b=>Ending.returned (Value.bool b)) (by simp [bne,BEq.beq]),A2.o⟩
  ·have cV:=hid (cU.o 16 (by omega) (by omega));go_wp2_with fail;refine cV.o.mono ?_;rintro e w2 ⟨rfl,rfl⟩;go_wp2;go_ret;exact ⟨by rw [E.o]; exact congrArg (fun b=>Ending.returned (Value.bool b)) (by simp [bne,BEq.beq]),A2.o⟩
 ·have d6:(rk == 6)=false:=by simpa using e6
  by_cases e4:rk=4
  ·subst e4;have E:=hid (show Ln.stays m ah off at_=(decide (off=ro) || !Ln.dY m.short i) by rw [R.o,if_neg (by simp),if_pos rfl]);clear e6;by_cases eo:off=ro
   ·subst eo;have d1:(off == off)=true:=by simp
    go_wp2;go_ret;exact ⟨by rw [E.o]; exact congrArg (fun b=>Ending.returned (Value.bool b)) (by simp),A2.o⟩
   ·have d1:(off == ro)=false:=by simpa using eo
    have EO:=hid eo;clear eo;go_wp2_with fail;refine cS2.o.mono ?_;rintro e w2 ⟨rfl,rfl⟩;go_wp2;go_ret;exact ⟨by rw [E.o]; exact congrArg (fun b=>Ending.returned (Value.bool b)) (by simp [EO.o]),A2.o⟩
  ·have d4:(rk == 4)=false:=by simpa using e4
   have E:=hid (show Ln.stays m ah off at_=true by rw [R.o,if_neg e6,if_neg e4]);clear e4 e6;go_wp2;go_ret;exact ⟨by rw [E.o]; rfl,A2.o⟩
end Go.Proofs.YtelehpmjhjljgaaGreatDoor


