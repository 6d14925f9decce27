
import Derived.Test.YtnkkepfcpjllmaaGreatDoorU22
set_option maxHeartbeats 16000000
set_option maxRecDepth 100000
namespace Go.Proofs.YtnkkepfcpjllmaaGreatDoor
open Go.RowKit
namespace Rf
def Cu (o:Lk.Obj):Lk.Obj:={ o with syms:=As.dL o.syms,aj:=gF o.aj }
end Rf
def yky (s:List UInt8) (e:Ending) (w':World):Prop :=
 ∃ fe fa vo,e = .returned (.tuple #[vo,qE fe fa])/\fe=(Rf.bV s).1.1/\(fe≠0->fa=(Rf.bV s).1.2/\vo = .pointer none)/\(fe=0->fa=0/\∃ g,vo = .pointer (some ⟨g,0,none⟩)/\yw w' g (Rf.Cu (Rf.eD s (s.length+1) 0 Rf.gQ).obj))
def CQ (w:World):World :=
 (((w.alloc (.cells (nU 0 0) 27)).alloc (.cells #[.int .i64 2,.int .i64 2,.int .i64 2,.int .i64 2] 3)).alloc
  (.cells #[.slice none 0 0,.slice none 0 0,.slice none 0 0,.int .i64 0,.slice (some ⟨w.heap.size+1,0,none⟩) 4 4,.slice none 0 0,.slice none 0 0] 40)).alloc
  (.cells #[.pointer (some ⟨w.heap.size+1+1,0,none⟩),.slice none 0 0,.int .i64 1,.slice none 0 0,.int .i64 0,.int .i64 0,.int .i64 0,.int .i64 0] 46)
theorem PZ (w:World):w.grownBy (CQ w) none :=
 ya (ya (ya (aW _ _ _) (aW _ _ _)) (aW _ _ _)) (aW _ _ _)
theorem Uf (w:World):yd (CQ w) w.heap.size (nU 0 0) 27 :=
 (yd.new w (nU 0 0) 27).grown (ya (ya (aW _ _ none) (aW _ _ none)) (aW _ _ none)) (by simp)
theorem ykN (w:World) (ht:gD w) (hB:3<=w.heap.size):Mn w.heap.size (w.heap.size+1+1+1) (w.heap.size+1+1) Rf.gQ (CQ w) (.slice none 0 0) (.slice none 0 0) 0 (.slice none 0 0) (.slice none 0 0) (.slice none 0 0) (.slice (some ⟨w.heap.size+1,0,none⟩) 4 4) (.slice none 0 0) (.slice none 0 0):=by
 have b1:=yd.new (w.alloc (.cells (nU 0 0) 27)) #[.int .i64 2,.int .i64 2,.int .i64 2,.int .i64 2] 3;have b2:=yd.new ((w.alloc (.cells (nU 0 0) 27)).alloc (.cells #[.int .i64 2,.int .i64 2,.int .i64 2,.int .i64 2] 3)) #[.slice none 0 0,.slice none 0 0,.slice none 0 0,.int .i64 0,.slice (some ⟨w.heap.size+1,0,none⟩) 4 4,.slice none 0 0,.slice none 0 0] 40;have b3:=yd.new (((w.alloc (.cells (nU 0 0) 27)).alloc (.cells #[.int .i64 2,.int .i64 2,.int .i64 2,.int .i64 2] 3)).alloc (.cells #[.slice none 0 0,.slice none 0 0,.slice none 0 0,.int .i64 0,.slice (some ⟨w.heap.size+1,0,none⟩) 4 4,.slice none 0 0,.slice none 0 0] 40)) #[.pointer (some ⟨w.heap.size+1+1,0,none⟩),.slice none 0 0,.int .i64 1,.slice none 0 0,.int .i64 0,.int .i64 0,.int .i64 0,.int .i64 0] 46
 rw [wL] at b1;rw [wL,wL] at b2;rw [wL,wL,wL] at b3;refine ⟨b3,World.ownsRow_nil _ _ _ _,?_,⟨hB,by omega,by omega,by omega⟩,⟨by decide,by decide,by decide,by decide,by decide,by decide,by decide,by decide⟩,ht.grown (PZ w),by decide,by decide,by decide,by decide⟩;refine ⟨b2.grown (aW _ _ none) (by simp),World.ownsRow_nil _ _ _ _,World.ownsRow_nil _ _ _ _,World.ownsRow_nil _ _ _ _,⟨rfl,.inr ⟨w.heap.size+1,4,#[.int .i64 2,.int .i64 2,.int .i64 2,.int .i64 2],rfl,by omega,b1.grown (ya (aW _ _ none) (aW _ _ none)) (by simp),Nat.le_refl 4,by decide,rfl,rfl⟩⟩,World.ownsRow_nil _ _ _ _,World.ownsRow_nil _ _ _ _,?_⟩
 unfold Dw gI Value.ownBlock;simp
theorem yw.xE {V V':World} {g:Nat} {o:Lk.Obj} {ts:List TypeId} (h:yw V g o) (k:yG ts V V') (ht:40 ∉ ts/\3 ∉ ts/\50 ∉ ts/\54 ∉ ts):yw V' g o:=by
 obtain ⟨vt,vf,vd,va,vs,vr,b,h1,h2,h3,h4,h5,h6⟩:=h;exact ⟨vt,vf,vd,va,vs,vr,k _ _ _ ht.1 b,yh h1 k ht.2.1,yh h2 k ht.2.1,yh h3 k ht.2.1,yh h4 k ht.2.1,yh h5 k ht.2.2.1,yh h6 k ht.2.2.2⟩
theorem XZ {B m g Z:Nat} {d:Rf.Ds} {V V1:World} {vq vl vt vf vd va vs vr v:Value} {kk:Int} {rs:List Lk.Rel} (h:Mn B m g d V vq vl kk vt vf vd va vs vr) (hg:V.grownBy V1 none) (hv:V1.ownsRow Z 54 5 v rs.length (rs.flatMap dK)):yw (V1.setCell ⟨g,6,none⟩ v) g { d.obj with aj:=rs }:=by
 have h1:=h.grown hg;have ks:=tX h1.own.blk 6 v;exact ⟨vt,vf,vd,va,vs,v,by simpa using h1.own.blk.set 6 v,Bz (yh h1.own.text ks (by decide)),Bz (yh h1.own.far ks (by decide)),Bz (yh h1.own.data ks (by decide)),Bz (yh h1.own.align ks (by decide)),Bz (yh h1.own.syms ks (by decide)),Bz (yh hv ks (by decide))⟩
theorem Us {w V:World} (h:yd V w.heap.size (nU 0 0) 27) (g:w.grownBy V none) (fe fa:Nat):yd (((V.setCell ⟨w.heap.size,0,none⟩ (.int .i64 fe)).setCell ⟨w.heap.size,1,none⟩ (.int .i64 fa)).setCell ⟨w.heap.size,2,none⟩ (.string ⟨#[]⟩)) w.heap.size (nU fe fa) 27/\w.grownBy (((V.setCell ⟨w.heap.size,0,none⟩ (.int .i64 fe)).setCell ⟨w.heap.size,1,none⟩ (.int .i64 fa)).setCell ⟨w.heap.size,2,none⟩ (.string ⟨#[]⟩)) none/\yG [27] V (((V.setCell ⟨w.heap.size,0,none⟩ (.int .i64 fe)).setCell ⟨w.heap.size,1,none⟩ (.int .i64 fa)).setCell ⟨w.heap.size,2,none⟩ (.string ⟨#[]⟩)):=by
 have b0:=h.set 0 (.int .i64 fe);have b1:=b0.set 1 (.int .i64 fa);have b2:=b1.set 2 (.string ⟨#[]⟩);refine ⟨by simpa [nU] using b2,Dv g w.heap.size (Nat.le_refl _) [(0,.int .i64 fe),(1,.int .i64 fa),(2,.string ⟨#[]⟩)],((tX h 0 _).trans (tX b0 1 _) (fun _ x=>x)).trans (tX b1 2 _) (fun _ x=>x)⟩
structure Lp (s:ByteArray) (w:World) (k:Nat) (d:Rf.Ds) (wr:World):Prop where
 mn:Y5 w.heap.size (w.heap.size+1+1+1) (w.heap.size+1+1) d wr
 bl:Below w.heap.size (CQ w) wr
 kp:yG yW (CQ w) wr
 eq:∃ n,Rf.eD (sl s) (s.size+1) 0 Rf.gQ=Rf.eD (sl s) n k d/\s.size < n+k
 mo:(k=0/\d=Rf.gQ)\/∃ ao cap L,rJ w.heap.size (w.heap.size+1+1+1) (w.heap.size+1+1) ao cap L d wr
theorem Lp.done {s:ByteArray} {w:World} {k:Nat} {d:Rf.Ds} {wr:World} (h:Lp s w k d wr) (hx:¬ (k < s.size/\d.fe=0)):Rf.eD (sl s) (s.size+1) 0 Rf.gQ=d:=by
 obtain ⟨n,e,-⟩:=h.eq;rw [e]
 cases n with
 | zero=>rfl
 | succ n =>
  show (if k < (sl s).length/\d.fe=0 then _ else d)=d;rw [yx,if_neg hx]
theorem yfF (s:ByteArray) (w:World) (ht:gD w) (hB:3<=w.heap.size) :
  Calls Tryz.prog 6 #[.string s] w fun e w'=>yky (sl s) e w'/\w.grownBy w' none:=by
 have HT:=hid ht;clear ht;by_cases hl:1000 < s.size
 ·have d:decide (1000 < (s.size:Int))=true:=by simp; omega
  have RA:=hid (show (Rf.bV (sl s)).1=(1,0) by unfold Rf.bV; rw [yx,if_pos hl]);go_enter Tryz.func6,Tryz.ntmps6;go_wp2;refine bodyPost_ret (v:=.tuple #[.pointer none,qE 1 0]) ?_ rfl ⟨⟨1,0,.pointer none,rfl,by rw [RA.o],fun _=>⟨by rw [RA.o],rfl⟩,fun h=>by cases h⟩,aW _ _ _⟩;simp [results,Tryz.results6,go_sem,qE]
 ·have d:decide (1000 < (s.size:Int))=false:=by simp; omega
  have RA:=hid (show Rf.bV (sl s)=(((Rf.eD (sl s) (s.size+1) 0 Rf.gQ).fe,(Rf.eD (sl s) (s.size+1) 0 Rf.gQ).fa),As.finish (Rf.eD (sl s) (s.size+1) 0 Rf.gQ).obj) by unfold Rf.bV; rw [yx,if_neg hl]);have L0:=hid (show Lp s w 0 Rf.gQ (CQ w) from ⟨⟨_,_,_,_,_,_,_,_,_,ykN w HT.o hB⟩,Below.refl _ _,yG.refl _ _,⟨s.size+1,rfl,by omega⟩,.inl ⟨rfl,rfl⟩⟩);have SL:=hid (yx s);have hsz:=hl;go_enter Tryz.func6,Tryz.ntmps6;go_wp2
  go_loopw [5] (fun q wr=>∃ (k:Nat) (d:Rf.Ds),q = .int .i64 k/\k<=s.size+1/\Lp s w k d wr) (fun q _=>s.size+1 - (intOf q).toNat)
  case atStart=>exact ⟨0,Rf.gQ,rfl,by omega,L0.o⟩
  case round =>
   obtain ⟨k,dd,rfl,hk,hL⟩:=hrel;have LP:=hid hL;obtain ⟨vq,vl,kk,vt,vf,vd,va,vs,vr,hm⟩:=hL.mn;have MN:=hid hm;have c5:=hm.blk.cell 5;simp only [xI,bB,yml,bf] at c5;have hBW:=hm.size;clear hL hm L0;by_cases hgo:k < s.size/\dd.fe=0
   ·obtain ⟨hlt,hfe⟩:=hgo;have g1:decide ((k:Int) < (s.size:Int))=true:=by simp; omega
    have j1:(k:Int) < (s.size:Int):=by omega
    have g2:((dd.fe:Int) == 0)=true:=by simp [hfe]
    have TM:=Rf.xZ (sl s) k (by rw [SL.o]; exact hlt);have TE:=Rf.Ip (sl s) ((sl s).length+1 - k) k (by rw [SL.o]; omega);have TP:=hid (Rf.x9 (sl s) ((sl s).length+1 - k) k (by rw [SL.o]; omega) (by rw [SL.o]; omega) (by rw [SL.o]; omega));have TL:=hid (Rf.tJ (sl s) k (by rw [SL.o]; omega));have QH:=hid (ylb (sl s) (by rw [SL.o]; omega) ((sl s).length+1 - k) k (by rw [SL.o]; omega));have QI:=hid (ylJ (sl s) ((sl s).length+1 - k) k (by rw [SL.o]; omega));have NX:=hid (show ∀ n,s.size < n+k->∃ n',Rf.eD (sl s) n k dd=Rf.eD (sl s) n' (Rf.tokens (sl s) k).2 (Rf.jS (Rf.tokens (sl s) k).1 { dd with k:=0 })/\n=n'+1 from fun n hn=>by
     obtain ⟨n',rfl⟩:∃ n',n=n'+1:=⟨n - 1,by omega⟩
     refine ⟨n',?_,rfl⟩;show (if k < (sl s).length/\dd.fe=0 then _ else dd)=_;rw [SL.o,if_pos ⟨hlt,hfe⟩])
    have cT:=hid (fun W=>yia s k W (by omega) (by omega));rw [show Rf.aV (sl s) ((sl s).length+1 - k) k=Rf.tokens (sl s) k from rfl] at TE TP QH QI;generalize Rf.tokens (sl s) k=T at *;obtain ⟨L,q⟩:=T;dsimp only at TM TE TP TL QH QI NX cT;rw [SL.o] at TE;clear hfe;go_wp2_with fail;refine (cT.o _).mono ?_;rintro en V1 ⟨v,rfl,hrow,hg1⟩;obtain ⟨ao,cap,rfl⟩:=yi hrow;have ML:=hid ((MN.o.grown hg1).lay hrow TP.o TL.o QH.o);have MG:=hid (MN.o.grown hg1);have B1:=hid (LP.o.bl.trans ((Below.refl _ wr).grown hg1 hBW (by simp)));have K1:=hid (yG.trans (ts:=yW) (us:=[]) LP.o.kp (yG.none hg1) (by simp));have z3:=MG.o.blk.free 3
    have z4:=MG.o.blk.free 4;have y3:=MG.o.blk.cell 3;have y4:=MG.o.blk.cell 4;simp only [xI,bB,yml,bf] at y3 y4;have KM:=hid (show yG yW V1 ((V1.setCell ⟨w.heap.size+1+1+1,3,none⟩ (.slice ao L.length cap)).setCell ⟨w.heap.size+1+1+1,4,none⟩ (.int .i64 0)) from (yG.trans (ts:=yW) (us:=[46]) (fun i cs t ht hb=>tX MG.o.blk 3 _ i cs t (fun x=>ht (by simp at x; subst x; decide)) hb) (tX (MG.o.blk.set 3 _) 4 _) (by decide)));clear hrow hg1 c5 cT;go_wp2_with fail;refine (yiX _ _ _ ao cap L { dd with k:=0 } _ ⟨_,_,_,_,_,_,_,ML.o.1⟩ QI.o).mono ?_;rintro en V2 ⟨rfl,h2⟩;have LN:=hid (show Lp s w q (Rf.jS L { dd with k:=0 }) V2 from by
     obtain ⟨TG,vt2,vf2,Z9,ZY,vs2,Wh,hm2⟩:=h2.1;obtain ⟨n,e1,hn⟩:=LP.o.eq;obtain ⟨n',e2,hn'⟩:=NX.o n hn;exact ⟨⟨_,_,_,_,_,_,_,_,_,hm2.between⟩,(B1.o.trans ML.o.2).trans h2.2.1,(K1.o.trans KM.o (fun _ x=>x)).trans h2.2.2 (fun _ x=>x),⟨n',e1.trans e2,by omega⟩,.inr ⟨ao,cap,L,_,_,_,_,_,_,_,hm2⟩⟩)
    clear h2;go_wp2
    go_roundw
    case rel=>exact ⟨q,_,rfl,TE,LN.o⟩
    case measure=>simp [intOf]; omega
   ·have DN:=hid (LP.o.done hgo);have BF:=hid (LP.o.kp _ _ _ (by decide) (Uf w));have GW:=hid (LB (PZ w) LP.o.bl);by_cases hfe:dd.fe=0
    ·have hks:¬ k < s.size:=fun x=>hgo ⟨x,hfe⟩
     have g1:decide ((k:Int) < (s.size:Int))=false:=by simp; omega
     have g2:((dd.fe:Int) != 0)=false:=by simp [hfe]
     have RZ:=hid (show (Rf.bV (sl s)).1.1=0 by rw [RA.o,DN.o]; exact hfe);clear hgo hfe;rcases LP.o.mo with ⟨hk0,hd0⟩ | ⟨ao,cap,L,hmo⟩
     ·have Lf:(w.heap.size+1+1+1)≠(w.heap.size+1+1):=by omega
      have n1:w.heap.size≠w.heap.size+1+1+1:=by omega
      have n2:w.heap.size≠w.heap.size+1+1:=by omega
      have G8:w.heap.size<=w.heap.size+1+1:=by omega
      generalize hmb:w.heap.size+1+1+1=mb at *;generalize hgb:w.heap.size+1+1=gb at *;clear hmb hgb;have MT:=hid MN.o;have BT:=hid LP.o.bl;have KT:=hid LP.o.kp;have y5:=MN.o.own.blk.cell 5;have y0:=MN.o.blk.cell 0;have E0:dd.obj.syms=[]:=by rw [hd0]; rfl
      obtain ⟨Zh,Zn,hvs⟩:=yi MN.o.own.syms;rw [E0] at hvs;simp only [xI,bB,yml,bf,List.length_nil] at y5 y0 hvs;rw [hvs] at y5;have ES:=hid E0;clear hk0 hd0 E0 hvs;go_wp2_with fail
      go_loopw [8] (fun i w2=>i = .int .i64 0/\w2=wr) (fun _ _=>0)
      case atStart=>exact ⟨rfl,rfl⟩
      case round =>
       obtain ⟨rfl,rfl⟩:=hrel;have zA:=MT.o;obtain ⟨ar,cr,Ng⟩:=yi zA.own.aj;have o0:=zA.blk.cell 0;have r6:=zA.own.blk.cell 6;have ZR:=zA.own.blk.free 6;have row:=hid zA.own.aj;have Hg:=zA.sz.aj;simp only [xI,bB,yml,bf] at o0 r6;clear zA;rw [Ng] at r6 row;have cB:=hid (fun W (hW:wr.grownBy W none)=>WU ar cr dd.obj.aj W (Bz (row.o.kept hW (Decidable.em _))) Hg);have G0:=hid (LB (PZ w) BT.o);have FB:=hid (KT.o _ _ _ (by decide) (Uf w));clear row Ng;go_wp2_with fail
       refine wp_region_held_drew (S:=(fun w'=>w'.cell? ⟨mb,0,none⟩=some (.pointer (some ⟨gb,0,none⟩)))) (by kernel_rfl) o0 ?_
       intro hS
       iterate 10
        refine yH (v:=?_) rfl (by kernel_rfl) (fun _ _ _ h=>h) hS ?_ ?_
        rotate_left
        ·intro w' hw';have x0:w'.cell? ⟨mb,0,none⟩=some (.pointer (some ⟨gb,0,none⟩)):=hw';go_simp;with_reducible rfl
       refine wpAnyH_ready (rs:=[10]) (by kernel_rfl) (by simp) ?_
       refine AllReadyH.cons rfl (fun K hK=>?_) AllReadyH.nil
       go_simp
       refine hK.out _ _ (yb o0 (yc (World.grownBy.refl _ _) 1)) (fun hS2=>?_)
       clear hK K hS2
       refine wpAnyH_ready (rs:=[11]) (by kernel_rfl) (by simp) ?_
       refine AllReadyH.cons rfl (fun K hK=>?_) AllReadyH.nil
       go_simp
       go_wp2_with (go_at_call 12; refine (cB.o _ (yc (World.grownBy.refl _ _) 1)).mono ?_; rintro e w' ⟨v,rfl,hv,hgv⟩; obtain ⟨av,cv,rfl⟩:=yi hv; have zN:=ya (yc (World.grownBy.refl wr none) 1) hgv; have hq0:=yb o0 zN; have J6:w'.frozen? ⟨gb,6,none⟩=false:=((MT.o.own.blk.grown zN (by simp)).free 6); have RH:=yb r6 zN)
       refine hK.out _ _ hq0 (fun hS3=>?_)
       clear hK K
       iterate 2
        refine yH (v:=?_) rfl (by kernel_rfl) (fun _ _ _ h=>h) hS3 ?_ ?_
        rotate_left
        ·intro w' hw';go_simp;with_reducible rfl
       refine wpAnyH_ready (rs:=[14]) (by kernel_rfl) (by simp) ?_
       refine AllReadyH.cons rfl (fun K hK=>?_) AllReadyH.nil
       go_simp
       refine hK.out _ _ (by simp [World.cell?_setCell_far,Lf.symm,hq0]) (fun hS4=>?_)
       clear hK K hS4
       refine wpAnyH_done (by kernel_rfl) ?_ _
       have OF:=hid (XZ MT.o zN hv);have FG:=hid (FB.o.grown zN (by simp));have GA:=hid (yz (ya G0.o zN) (show w.heap.size<=gb from G8) 6 (.slice av (Rf.gF dd.obj.aj).length cv));have wU:=hid (FG.o.grown (yy w' gb 6 (.slice av (Rf.gF dd.obj.aj).length cv)) (by simpa using n2));have x0:=wU.o.cell 0;have x1:=wU.o.cell 1;have x2:=wU.o.cell 2;have f0:=wU.o.free 0;have f1:=wU.o.free 1;have f2:=wU.o.free 2;simp only [nU,bB,yml,bf] at x0 x1 x2;have FP:=hid (Us wU.o GA.o 0 0);have o9:(w'.setCell ⟨gb,6,none⟩ (.slice av (Rf.gF dd.obj.aj).length cv)).cell? ⟨mb,0,none⟩=some (.pointer (some ⟨gb,0,none⟩)):=by simp [World.cell?_setCell_far,Lf.symm,hq0]
       have OZ:=hid (OF.o.xE FP.o.2.2 (by decide));clear hv hgv zN hq0 J6 RH FG wU GA OF;generalize w'.setCell ⟨gb,6,none⟩ (.slice av (Rf.gF dd.obj.aj).length cv)=V9 at *;go_wp2;have e0:=FP.o.1.cell 0;have e1:=FP.o.1.cell 1;have e2:=FP.o.1.cell 2;simp only [nU,bB,yml,bf] at e0 e1 e2;refine bodyPost_ret (v:=.tuple #[.pointer (some ⟨gb,0,none⟩),qE 0 0]) ?_ rfl ⟨⟨0,0,.pointer (some ⟨gb,0,none⟩),rfl,RZ.o.symm,fun x=>absurd rfl x,fun _=>⟨rfl,gb,rfl,by rw [SL.o,DN.o]; rw [show Rf.Cu dd.obj={ dd.obj with aj:=Rf.gF dd.obj.aj } by unfold Rf.Cu; rw [show As.dL dd.obj.syms=dd.obj.syms by rw [ES.o]; rfl]]; exact OZ.o⟩⟩,FP.o.2.1⟩
       clear x0 x1 x2 f0 f1 f2;generalize World.setCell _ _ _=WF at *;simp [results,Tryz.results6,go_sem,qE,e0,e1,e2]
     ·obtain ⟨TG,vt2,vf2,Z9,ZY,vs2,Wh,hm2⟩:=hmo;have Lf:(w.heap.size+1+1+1)≠(w.heap.size+1+1):=by omega
      have n1:w.heap.size≠w.heap.size+1+1+1:=by omega
      have n2:w.heap.size≠w.heap.size+1+1:=by omega
      have G8:w.heap.size<=w.heap.size+1+1:=by omega
      generalize hmb:w.heap.size+1+1+1=mb at *;generalize hgb:w.heap.size+1+1=gb at *;clear hmb hgb;have D0:=hid (hm2.refl (ts:=yW));have h16:=hm2.sz.syms;clear hm2;go_wp2_with fail
      go_loopw [8] (fun i w2=>∃ j:Nat,j<=dd.obj.syms.length/\i = .int .i64 j/\yO w.heap.size mb gb ao cap L yW wr { dd with obj:={ dd.obj with syms:=qQ dd.obj.syms j } } w2) (fun i _=>dd.obj.syms.length - (intOf i).toNat)
      case atStart=>exact ⟨0,Nat.zero_le _,rfl,by rw [show qQ dd.obj.syms 0=dd.obj.syms by simp [qQ]]; exact D0.o⟩
      case round =>
       obtain ⟨j,hj,rfl,hd⟩:=hrel;have D:=hid hd;obtain ⟨Jg,Pz,Px,Pw,Pv,vs3,Ov,uV⟩:=hd.1;clear hd D0;by_cases hlt:j < dd.obj.syms.length
       ·have hlt':(j:Int) < (dd.obj.syms.length:Int):=by omega
        have hl2:(qQ dd.obj.syms j).length=dd.obj.syms.length:=P9 _ _;obtain ⟨sg,Zm,hvs,g5,k1,k2,k3,hfz,na,nb⟩:=uV.jf j (by show j < (qQ dd.obj.syms j).length; rw [hl2]; exact hlt);dsimp only at hvs g5 k1 k2 k3;have e0:(qQ dd.obj.syms j)[j]'(by rw [hl2]; exact hlt)=dd.obj.syms[j]:=Uv _ j hlt;rw [e0] at k1 k2 k3;have hcap:(qQ dd.obj.syms j).length<=Zm:=by
         have q:=uV.own.syms;rw [hvs] at q;exact (yZ q).1
        rw [hl2] at g5 hvs hcap;subst hvs;have o0:=yp uV.md 0;simp only [yr,bB,bf] at o0;have fz:=hfz (j * 4+1);have PS:=hid (fun (hy:iF (ze dd.obj.syms[j])=(iF dd.obj.syms[j]).set 1 (.int .i64 1))=>(uV.jW j 1 (by show j < (qQ dd.obj.syms j).length; rw [hl2]; exact hlt) (by omega) (.int .i64 1) (ze dd.obj.syms[j]) (by show _=(iF ((qQ dd.obj.syms j)[j]'_)).set 1 _; rw [e0]; exact hy)));have MS:=hid (Ub dd.obj.syms j hlt);have MM:=hid (Xl dd.obj.syms j hlt);have BO:=hid (show ze dd.obj.syms[j]=if dd.obj.syms[j].ah=0/\dd.obj.syms[j].bind=0 then ⟨dd.obj.syms[j].name,1,dd.obj.syms[j].ah,dd.obj.syms[j].off⟩ else dd.obj.syms[j] from rfl)
        clear uV hfz e0 hl2;by_cases z1:dd.obj.syms[j].ah=0
        ·have d1:(dd.obj.syms[j].ah == 0)=true:=by simp [z1]
         by_cases z2:dd.obj.syms[j].bind=0
         ·have d2:(dd.obj.syms[j].bind == 0)=true:=by simp [z2]
          have B1:=hid (show ze dd.obj.syms[j]=⟨dd.obj.syms[j].name,1,dd.obj.syms[j].ah,dd.obj.syms[j].off⟩ by rw [BO.o,if_pos ⟨z1,z2⟩]);have PF:=hid (PS.o (by rw [B1.o]; rfl));clear z1 z2 PS;go_wp2
          go_roundw
          case rel =>
           refine ⟨j+1,by omega,by go_num,?_⟩;rw [MS.o];exact D.o.after (us:=[50]) ⟨⟨_,_,_,_,_,_,_,PF.o.2.2⟩,PF.o.2.1,PF.o.1⟩ (by decide)
          case measure=>simp [intOf]; omega
         ·have d2:(dd.obj.syms[j].bind == 0)=false:=by simp [z2]
          have B1:=hid (show ze dd.obj.syms[j]=dd.obj.syms[j] by rw [BO.o,if_neg (fun c=>z2 c.2)]);clear z1 z2 PS;go_wp2
          go_roundw
          case rel=>exact ⟨j+1,by omega,by go_num,by rw [MM.o B1.o]; exact D.o⟩
          case measure=>simp [intOf]; omega
        ·have d1:(dd.obj.syms[j].ah == 0)=false:=by simp [z1]
         have B1:=hid (show ze dd.obj.syms[j]=dd.obj.syms[j] by rw [BO.o,if_neg (fun c=>z1 c.1)]);clear z1 PS;go_wp2
         go_roundw
         case rel=>exact ⟨j+1,by omega,by go_num,by rw [MM.o B1.o]; exact D.o⟩
         case measure=>simp [intOf]; omega
       ·obtain rfl:j=dd.obj.syms.length:=by omega
        have y0:=yp uV.md 0;obtain ⟨Zh,Zn,hvs⟩:=yi uV.own.syms;have y5:=uV.own.blk.cell 5;rw [hvs] at y5;dsimp only at y5;rw [P9] at y5;simp only [yr,bB,yml,bf] at y0 y5;have MT:=hid uV.between;have BT:=hid (LP.o.bl.trans D.o.2.1);have KT:=hid (LP.o.kp.trans D.o.2.2 (fun _ x=>x));rw [XB] at MT;have ES:=hid (show Rf.Cu dd.obj={ ({ dd with obj:={ dd.obj with syms:=As.dL dd.obj.syms } }:Rf.Ds).obj with aj:=Rf.gF ({ dd with obj:={ dd.obj with syms:=As.dL dd.obj.syms } }:Rf.Ds).obj.aj } from rfl);generalize ({ dd with obj:={ dd.obj with syms:=As.dL dd.obj.syms } }:Rf.Ds)=DT at *;clear uV D hvs;have zA:=MT.o
        obtain ⟨ar,cr,Ng⟩:=yi zA.own.aj;have o0:=zA.blk.cell 0;have r6:=zA.own.blk.cell 6;have ZR:=zA.own.blk.free 6;have row:=hid zA.own.aj;have Hg:=zA.sz.aj;simp only [xI,bB,yml,bf] at o0 r6;clear zA;rw [Ng] at r6 row;have cB:=hid (fun W (hW:wr.grownBy W none)=>WU ar cr DT.obj.aj W (Bz (row.o.kept hW (Decidable.em _))) Hg);have G0:=hid (LB (PZ w) BT.o);have FB:=hid (KT.o _ _ _ (by decide) (Uf w));clear row Ng;go_wp2_with fail
        refine wp_region_held_drew (S:=(fun w'=>w'.cell? ⟨mb,0,none⟩=some (.pointer (some ⟨gb,0,none⟩)))) (by kernel_rfl) o0 ?_
        intro hS
        iterate 10
         refine yH (v:=?_) rfl (by kernel_rfl) (fun _ _ _ h=>h) hS ?_ ?_
         rotate_left
         ·intro w' hw';have x0:w'.cell? ⟨mb,0,none⟩=some (.pointer (some ⟨gb,0,none⟩)):=hw';go_simp;with_reducible rfl
        refine wpAnyH_ready (rs:=[10]) (by kernel_rfl) (by simp) ?_
        refine AllReadyH.cons rfl (fun K hK=>?_) AllReadyH.nil
        go_simp
        refine hK.out _ _ (yb o0 (yc (World.grownBy.refl _ _) 1)) (fun hS2=>?_)
        clear hK K hS2
        refine wpAnyH_ready (rs:=[11]) (by kernel_rfl) (by simp) ?_
        refine AllReadyH.cons rfl (fun K hK=>?_) AllReadyH.nil
        go_simp
        go_wp2_with (go_at_call 12; refine (cB.o _ (yc (World.grownBy.refl _ _) 1)).mono ?_; rintro e w' ⟨v,rfl,hv,hgv⟩; obtain ⟨av,cv,rfl⟩:=yi hv; have zN:=ya (yc (World.grownBy.refl wr none) 1) hgv; have hq0:=yb o0 zN; have J6:w'.frozen? ⟨gb,6,none⟩=false:=((MT.o.own.blk.grown zN (by simp)).free 6); have RH:=yb r6 zN)
        refine hK.out _ _ hq0 (fun hS3=>?_)
        clear hK K
        iterate 2
         refine yH (v:=?_) rfl (by kernel_rfl) (fun _ _ _ h=>h) hS3 ?_ ?_
         rotate_left
         ·intro w' hw';go_simp;with_reducible rfl
        refine wpAnyH_ready (rs:=[14]) (by kernel_rfl) (by simp) ?_
        refine AllReadyH.cons rfl (fun K hK=>?_) AllReadyH.nil
        go_simp
        refine hK.out _ _ (by simp [World.cell?_setCell_far,Lf.symm,hq0]) (fun hS4=>?_)
        clear hK K hS4
        refine wpAnyH_done (by kernel_rfl) ?_ _
        have OF:=hid (XZ MT.o zN hv);have FG:=hid (FB.o.grown zN (by simp));have GA:=hid (yz (ya G0.o zN) (show w.heap.size<=gb from G8) 6 (.slice av (Rf.gF DT.obj.aj).length cv));have wU:=hid (FG.o.grown (yy w' gb 6 (.slice av (Rf.gF DT.obj.aj).length cv)) (by simpa using n2));have x0:=wU.o.cell 0;have x1:=wU.o.cell 1;have x2:=wU.o.cell 2;have f0:=wU.o.free 0;have f1:=wU.o.free 1;have f2:=wU.o.free 2;simp only [nU,bB,yml,bf] at x0 x1 x2;have FP:=hid (Us wU.o GA.o 0 0);have o9:(w'.setCell ⟨gb,6,none⟩ (.slice av (Rf.gF DT.obj.aj).length cv)).cell? ⟨mb,0,none⟩=some (.pointer (some ⟨gb,0,none⟩)):=by simp [World.cell?_setCell_far,Lf.symm,hq0]
        have OZ:=hid (OF.o.xE FP.o.2.2 (by decide));clear hv hgv zN hq0 J6 RH FG wU GA OF;generalize w'.setCell ⟨gb,6,none⟩ (.slice av (Rf.gF DT.obj.aj).length cv)=V9 at *;go_wp2;have e0:=FP.o.1.cell 0;have e1:=FP.o.1.cell 1;have e2:=FP.o.1.cell 2;simp only [nU,bB,yml,bf] at e0 e1 e2;refine bodyPost_ret (v:=.tuple #[.pointer (some ⟨gb,0,none⟩),qE 0 0]) ?_ rfl ⟨⟨0,0,.pointer (some ⟨gb,0,none⟩),rfl,RZ.o.symm,fun x=>absurd rfl x,fun _=>⟨rfl,gb,rfl,by rw [SL.o,DN.o]; rw [ES.o]; exact OZ.o⟩⟩,FP.o.2.1⟩;clear x0 x1 x2 f0 f1 f2;generalize World.setCell _ _ _=WF at *;simp [results,Tryz.results6,go_sem,qE,e0,e1,e2]
    ·have Lf:(w.heap.size+1+1+1)≠(w.heap.size+1+1):=by omega
     have n1:w.heap.size≠w.heap.size+1+1+1:=by omega
     have n2:w.heap.size≠w.heap.size+1+1:=by omega
     have G8:w.heap.size<=w.heap.size+1+1:=by omega
     generalize hmb:w.heap.size+1+1+1=mb at *;generalize hgb:w.heap.size+1+1=gb at *;clear hmb hgb;have g2:((dd.fe:Int) == 0)=false:=by simp; omega
     have g3:((dd.fe:Int) != 0)=true:=by simp; omega
     have c6:=MN.o.blk.cell 6;simp only [xI,bB,yml,bf] at c6;have FZ:=hid hfe;have x0:=BF.o.cell 0;have x1:=BF.o.cell 1;have x2:=BF.o.cell 2;have f0:=BF.o.free 0;have f1:=BF.o.free 1;have f2:=BF.o.free 2;simp only [nU,bB,yml,bf] at x0 x1 x2;have FP:=hid (Us BF.o GW.o dd.fe dd.fa);have RR:=hid (show (Rf.bV (sl s)).1=(dd.fe,dd.fa) by rw [RA.o,DN.o]);by_cases hlt:k < s.size
     ·have g1:decide ((k:Int) < (s.size:Int))=true:=by simp; omega
      have j1:(k:Int) < (s.size:Int):=by omega
      clear hgo hfe hlt;go_wp2_with fail;generalize w.heap.size=fb at *
      go_region_held3 (fun w'=>w'.cell? ⟨mb,5,none⟩=some (.int .i64 dd.fe)/\w'.cell? ⟨mb,6,none⟩=some (.int .i64 dd.fa))
       (simp [World.cell?_setCell_far,n1,c5,c6])
       (fail)
      go_wp2;have e0:=FP.o.1.cell 0;have e1:=FP.o.1.cell 1;have e2:=FP.o.1.cell 2;simp only [nU,bB,yml,bf] at e0 e1 e2;refine bodyPost_ret (v:=.tuple #[.pointer none,qE dd.fe dd.fa]) ?_ rfl ⟨⟨dd.fe,dd.fa,.pointer none,rfl,by rw [RR.o],fun _=>⟨by rw [RR.o],rfl⟩,fun x=>absurd x FZ.o⟩,yg FP.o.2.1⟩;clear x0 x1 x2 f0 f1 f2 c5 c6;generalize World.setCell _ _ _=WF at *;simp [results,Tryz.results6,go_sem,qE,e0,e1,e2]
     ·have g1:decide ((k:Int) < (s.size:Int))=false:=by simp; omega
      have j2:¬ (k:Int) < (s.size:Int):=by omega
      clear hgo hfe hlt g2;go_wp2_with fail;generalize w.heap.size=fb at *
      go_region_held3 (fun w'=>w'.cell? ⟨mb,5,none⟩=some (.int .i64 dd.fe)/\w'.cell? ⟨mb,6,none⟩=some (.int .i64 dd.fa))
       (simp [World.cell?_setCell_far,n1,c5,c6])
       (fail)
      go_wp2;have e0:=FP.o.1.cell 0;have e1:=FP.o.1.cell 1;have e2:=FP.o.1.cell 2;simp only [nU,bB,yml,bf] at e0 e1 e2;refine bodyPost_ret (v:=.tuple #[.pointer none,qE dd.fe dd.fa]) ?_ rfl ⟨⟨dd.fe,dd.fa,.pointer none,rfl,by rw [RR.o],fun _=>⟨by rw [RR.o],rfl⟩,fun x=>absurd x FZ.o⟩,yg FP.o.2.1⟩;clear x0 x1 x2 f0 f1 f2 c5 c6;generalize World.setCell _ _ _=WF at *;simp [results,Tryz.results6,go_sem,qE,e0,e1,e2]
end Go.Proofs.YtnkkepfcpjllmaaGreatDoor

namespace Go.Proofs.YtnkkepfcpjllmaaGreatDoor
namespace As
def rP (t:Tok):Prop:=t.kind=1->t.text≠[]/\(∀ c∈t.text,aI c=true)/\∀ c r,t.text=c :: r->aK c=false
theorem kZ:rP Tok.nil:=fun h=>(by cases h)
theorem Kh (s:List UInt8) (p:Nat):rP (next s p).1:=by
 unfold next;generalize skip blank s p=q;unfold gN
 cases g:s[q]? with
 | none=>exact fun h=>(by cases h)
 | some c =>
  simp only;split
  ·exact fun h=>(by cases h)
  split
  ·unfold gU;split
   ·exact kZ
   split
   ·exact kZ
   ·exact fun h=>(by cases h)
  split
  ·rename_i _ hd hw;intro _;obtain ⟨hl,e⟩:=List.getElem?_eq_some_iff.1 g;have dr:s.drop q=c :: s.drop (q+1):=by rw [Js hl,e]
   have tk:(s.drop q).takeWhile aI=c :: (s.drop (q+1)).takeWhile aI:=by rw [dr,List.takeWhile_cons,if_pos hw]
   refine ⟨by show (s.drop q).takeWhile aI≠[]; rw [tk]; exact List.cons_ne_nil _ _,fun x hx=>?_,fun x r hx=>?_⟩
   ·exact List.all_eq_true.1 (List.all_takeWhile (p:=aI) (l:=s.drop q)) x hx
   ·have:(s.drop q).takeWhile aI=x :: r:=hx
    rw [tk] at this;obtain rfl:c=x:=(List.cons.inj this).1;simpa using hd
  split
  ·exact fun h=>(by cases h)
  ·exact kZ
structure Q (st st':St):Prop where
 obj:st'.obj=st.obj
 ah:st'.ah=st.ah
 op:st'.op=st.op
 fe:st'.fe=0->st.fe=0
 tok:rP st.tok->rP st'.tok
theorem Q.refl (st:St):Q st st:=⟨rfl,rfl,rfl,id,id⟩
theorem Q.trans {a b c:St} (h:Q a b) (k:Q b c):Q a c:=⟨k.obj.trans h.obj,k.ah.trans h.ah,k.op.trans h.op,fun x=>h.fe (k.fe x),fun x=>k.tok (h.tok x)⟩
theorem dM (e a:Nat) (st:St):Q st (refuse e a st):=by
 unfold refuse failed;split
 ·exact Q.refl _
 ·rename_i h;exact ⟨rfl,rfl,rfl,fun _=>by simpa using h,fun _=>kZ⟩
theorem Jc {c:Prop} [Decidable c] {st a b:St} (h:Q st a) (k:Q st b):Q st (if c then a else b):=by split; exact h; exact k
theorem lG (c:Bool) (e a:Nat) (st:St):Q st (aJ c e a st):=Jc (dM _ _ _) (Q.refl _)
theorem gq (s:List UInt8) (st:St):Q st (advance s st):=by
 unfold advance;split
 ·exact Q.refl _
 split
 ·exact ⟨rfl,rfl,rfl,id,fun _=>Kh s st.p⟩
 ·have q:=dM (next s st.p).2.1.1 (next s st.p).2.1.2 { st with p:=(next s st.p).2.2 };exact ⟨q.obj,q.ah,q.op,q.fe,q.tok⟩
theorem sV (s:List UInt8) (st:St):Q st (aU s st).2:=by
 unfold aU;split
 ·exact gq _ _
 ·exact Q.refl _
theorem gZ (s c:List UInt8) (st:St):Q st (sign s c st):=Jc (gq _ _) (dM _ _ _)
theorem bJ (s:List UInt8) (st:St):Q st (register s st).2:=by
 unfold register;split
 ·split
  ·exact dM _ _ _
  ·exact gq _ _
 ·exact dM _ _ _
theorem Fa (w:List UInt8) (r:Nat) (h:dY w=some r):r < 32:=by
 unfold dY at h;split at h
 ·split at h
  ·rename_i c;have hd:=c.2;unfold aK at hd;simp only [Bool.and_eq_true,decide_eq_true_eq] at hd
   have:=Option.some.inj h
   omega
  ·cases h
 ·split at h
  ·rename_i c
   have:=Option.some.inj h
   omega
  ·cases h
 ·cases h
theorem iq (s:List UInt8) (st:St):(register s st).1 < 32:=by
 unfold register;split
 ·cases e:dY st.tok.text with
  | none=>exact (show 0 < 32 by omega)
  | some r=>exact Fa _ r e
 ·exact (show 0 < 32 by omega)
theorem o7 (s:List UInt8) (neg:Bool) (pos:Nat) (lo hi:Int) (st:St):Q st (aN s neg pos lo hi st).2:=by
 unfold aN;generalize (if neg=true then -(st.tok.n:Int) else (st.tok.n:Int))=v;split
 ·split
  ·exact dM _ _ _
  ·exact gq _ _
 ·exact dM _ _ _
theorem iL (s:List UInt8) (lo hi:Int) (st:St):Q st (number s lo hi st).2:=by
 unfold number;split
 ·exact (gq _ _).trans (o7 _ _ _ _ _ _)
 ·exact o7 _ _ _ _ _ _
theorem kV (s:List UInt8) (neg:Bool) (pos:Nat) (lo hi:Int) (st:St) (h:(aN s neg pos lo hi st).2.fe=0):lo<=(aN s neg pos lo hi st).1/\(aN s neg pos lo hi st).1<=hi:=by
 unfold aN at h ⊢;generalize (if neg=true then -(st.tok.n:Int) else (st.tok.n:Int))=v at *;have dn:∀ e a,e≠0->(refuse e a st).fe≠0:=fun e a he=>by
  unfold refuse failed;split
  ·rename_i x; simpa using x
  ·exact he
 by_cases c1:(st.tok.kind == 2)=true
 ·rw [if_pos c1] at h ⊢;by_cases c2:v < lo\/hi < v
  ·rw [if_pos c2] at h;exact absurd h (dn 8 pos (by decide))
  ·rw [if_neg c2];exact ⟨by show lo<=v; omega,by show v<=hi; omega⟩
 ·rw [if_neg c1] at h;exact absurd h (dn 3 _ (by decide))
theorem lD (s:List UInt8) (lo hi:Int) (st:St) (h:(number s lo hi st).2.fe=0):lo<=(number s lo hi st).1/\(number s lo hi st).1<=hi:=by
 unfold number at h ⊢;split
 ·rw [if_pos (by assumption)] at h; exact kV _ _ _ _ _ _ h
 ·rw [if_neg (by assumption)] at h; exact kV _ _ _ _ _ _ h
theorem qy (t:Tok) (st:St):Q st (aP t st):=((lG _ _ _ _).trans (lG _ _ _ _)).trans (lG _ _ _ _)
theorem EZ (s:List UInt8) (st:St):Q st (name s st).2:=by
 unfold name;split
 ·exact (qy _ _).trans (gq _ _)
 ·exact dM _ _ _
theorem vZ (s:List UInt8) (st:St):Q st (place s st).2:=((iL _ _ _ _).trans (gZ _ _ _)).trans ((bJ _ _).trans (gZ _ _ _))
def uS (n:List UInt8):Prop:=1<=n.length/\n.length<=6/\(∀ c∈n,lU (c.toNat:Int))/\∀ c r,n=c :: r->aK c=false
theorem u6 (s:List UInt8) (st:St) (ht:rP st.tok) (h:(name s st).2.fe=0):uS (name s st).1.text:=by
 have dn:∀ e a st,e≠0->(refuse e a st).fe≠0:=fun e a st he=>by
  unfold refuse failed;split
  ·rename_i x; simpa using x
  ·exact he
 unfold name at h ⊢;by_cases k:(st.tok.kind == 1)=true
 ·rw [if_pos k] at h ⊢;have k1:st.tok.kind=1:=by simpa using k
  obtain ⟨w1,w2,w3⟩:=ht k1;have f:=(gq s _).fe h;have ff:failed (aP st.tok st)=false:=by unfold failed; simp [f]
  have l6:=jI st.tok st ff;have hp:bX st.tok.text=false:=by
   unfold aP at ff;exact mG _ _ _ (by decide) _ (gJ _ _ _ _ (gJ _ _ _ _ ff))
  refine ⟨?_,l6,fun c hc=>?_,w3⟩
  ·cases e:st.tok.text with
   | nil=>exact absurd e w1
   | cons c r=>simp
  ·have iw:=w2 c hc;have np:¬ c.toNat=46:=by
    intro x;unfold bX at hp;rw [List.any_eq_false] at hp;exact hp c hc (by simp [x])
   unfold aI aK at iw;simp only [Bool.or_eq_true,Bool.and_eq_true,decide_eq_true_eq,beq_iff_eq] at iw;unfold lU;omega
 ·rw [if_neg k] at h;exact absurd h (dn 3 _ _ (by decide))
end As
end Go.Proofs.YtnkkepfcpjllmaaGreatDoor

namespace Go.Proofs.YtnkkepfcpjllmaaGreatDoor
namespace As
def tY (w:Int):Prop:=0<=w/\w<=4294967295
structure DZ (o:Lk.Obj) (y:Lk.Sym):Prop where
 name:uS y.name
 bind:0<=y.bind/\y.bind<=2
 ah:0<=y.ah/\y.ah<=4
 off:0<=y.off/\y.off % 4=0
 low:y.off<=4 * nC o y.ah
structure DX (o:Lk.Obj) (r:Lk.Rel):Prop where
 kind:yC r
 add:yk r
 sym:yS o r
 Zj:yQ o r
 ab:yv o r
 goes:yt r.kind (yF o r)
structure Iv (o:Lk.Obj):Prop where
 text:o.text.length<=1200
 far:o.far.length<=1200
 data:o.data.length<=64
 bss:0<=o.bss/\o.bss<=64
 EP:o.syms.length<=16
 EM:o.aj.length<=32
 align:o.align.length=4/\∀ x∈o.align,2<=x/\x<=4
 wt:∀ w∈o.text,tY w
 wf:∀ w∈o.far,tY w
 wd:∀ w∈o.data,tY w
 syms:∀ y∈o.syms,DZ o y
 uniq:o.syms.Pairwise fun a b=>a.name≠b.name
 aj:∀ r∈o.aj,DX o r
 order:o.aj.Pairwise fun a b=>a.ah=b.ah->a.off+4 * yo a<=b.off
 apart:∀ r∈o.aj,∀ y∈o.syms,y.ah=r.ah->y.off<=r.off\/r.off+4 * yo r<=y.off
theorem Es:Iv start.obj:=⟨by decide,by decide,by decide,by decide,by decide,by decide,by decide,fun _ h=>(by cases h),fun _ h=>(by cases h),fun _ h=>(by cases h),fun _ h=>(by cases h),List.Pairwise.nil,fun _ h=>(by cases h),List.Pairwise.nil,fun _ h=>(by cases h)⟩
theorem oo (o:Lk.Obj) (z:Nat):aA o z=nC o z:=by
 unfold aA nC ym;by_cases h4:z=4
 ·subst h4; rfl
 ·have h4':¬ (z:Int)=4:=by omega
  rw [if_neg h4,if_neg h4'];by_cases h1:z=1
  ·subst h1; rfl
  ·have h1':¬ (z:Int)=1:=by omega
   rw [if_neg h1,if_neg h1'];by_cases h2:z=2
   ·subst h2; rfl
   ·have h2':¬ (z:Int)=2:=by omega
    rw [if_neg h2,if_neg h2'];by_cases h3:z=3
    ·subst h3; rfl
    ·have h3':¬ (z:Int)=3:=by omega
     rw [if_neg h3,if_neg h3'];rfl
theorem mU (o:Lk.Obj) (ah:Nat) (ws:List Int) (z:Int):∃ vs,ym (aB o ah ws) z=ym o z ++ vs/\(z=ah->ah<=3->1<=ah->vs=ws):=by
 unfold aB ym;by_cases h1:ah=1
 ·subst h1;by_cases c:z=1
  ·subst c; exact ⟨ws,rfl,fun _ _ _=>rfl⟩
  ·exact ⟨[],by simp [c],fun x=>absurd x (by simpa using c)⟩
 by_cases h2:ah=2
 ·subst h2;by_cases c:z=2
  ·subst c; exact ⟨ws,rfl,fun _ _ _=>rfl⟩
  ·exact ⟨[],by simp [c],fun x=>absurd x (by simpa using c)⟩
 by_cases h3:ah=3
 ·subst h3;by_cases c:z=3
  ·subst c; exact ⟨ws,rfl,fun _ _ _=>rfl⟩
  ·exact ⟨[],by simp [c],fun x=>absurd x (by simpa using c)⟩
 by_cases h4:ah=4
 ·subst h4;exact ⟨[],by simp,fun _ x=>by omega⟩
 ·exact ⟨[],by simp [h1,h2,h3,h4],fun _ x y=>by omega⟩
theorem zF (o:Lk.Obj) (ah:Nat) (ws:List Int) (z:Int):nC o z<=nC (aB o ah ws) z:=by
 unfold nC;by_cases c:z=4
 ·rw [if_pos c,if_pos c];unfold aB
  (repeat' split) <;> simp <;> omega
 ·rw [if_neg c,if_neg c];obtain ⟨vs,e,-⟩:=mU o ah ws z;rw [e,iA];omega
theorem Ci (o:Lk.Obj) (ah:Nat) (ws:List Int) (r:Lk.Rel) (h:yv o r) (hs:0<=yo r):yF (aB o ah ws) r=yF o r:=by
 obtain ⟨vs,e,-⟩:=mU o ah ws r.ah;obtain ⟨h0,h1,h2⟩:=h;unfold yF;rw [e,List.drop_append_of_le_length (by omega),List.take_append_of_le_length (by simp; omega)]
theorem Ep (o:Lk.Obj) (ah:Nat) (ws:List Int) (h:Iv o) (hw:∀ w∈ws,tY w) (hl:¬ 4 * limit ah < 4 * aA o ah+4 * (ws.length:Int)):Iv (aB o ah ws):=by
 have sy:(aB o ah ws).syms=o.syms:=by unfold aB; (repeat' split) <;> rfl
 have rl:(aB o ah ws).aj=o.aj:=by unfold aB; (repeat' split) <;> rfl
 have al:(aB o ah ws).align=o.align:=by unfold aB; (repeat' split) <;> rfl
 have ro:∀ r∈o.aj,DX (aB o ah ws) r:=fun r hr=>by
  obtain ⟨k,a,s,b,ab,g⟩:=h.aj r hr;have sp:=yD a;have ea:=Ci o ah ws r ab (by omega);obtain ⟨vs,e,-⟩:=mU o ah ws r.ah;refine ⟨k,a,?_,?_,⟨ab.1,ab.2.1,?_⟩,?_⟩
  ·unfold yS at *; rw [sy]; exact s
  ·unfold yQ at *; rw [al]; exact b
  ·rw [e,iA]; have:=ab.2.2; omega
  ·rw [ea]; exact g
 have so:∀ y∈o.syms,DZ (aB o ah ws) y:=fun y hy=>by
  obtain ⟨a,b,c,d,e⟩:=h.syms y hy;exact ⟨a,b,c,d,by have:=zF o ah ws y.ah; omega⟩
 have ap:∀ (A:List Int),(∀ w∈A,tY w)->∀ w,w∈A\/w∈ws->tY w:=fun A hA w hm=>hm.elim (hA w) (hw w)
 refine ⟨?_,?_,?_,?_,by rw [sy]; exact h.EP,by rw [rl]; exact h.EM,by rw [al]; exact h.align,?_,?_,?_,by rw [sy]; exact so,by rw [sy]; exact h.uniq,by rw [rl]; exact ro,by rw [rl]; exact h.order,by rw [rl,sy]; exact h.apart⟩
 all_goals
  have h1:=h.text;have h2:=h.far;have h3:=h.data;have h4:=h.bss;have w1:=h.wt;have w2:=h.wf;have w3:=h.wd;unfold aA limit at hl;unfold aB;by_cases c1:ah=1
  ·subst c1; simp at hl ⊢; first | omega | assumption | exact ap _ w1
  by_cases c2:ah=2
  ·subst c2; simp at hl ⊢; first | omega | assumption | exact ap _ w2
  by_cases c3:ah=3
  ·subst c3; simp at hl ⊢; first | omega | assumption | exact ap _ w3
  by_cases c4:ah=4
  ·subst c4; simp at hl ⊢; first | omega | assumption
  ·simp [c1,c2,c3,c4]; first | omega | assumption
theorem Ka (o:Lk.Obj) (h:Iv o) (r:Lk.Rel) (hr:DX o r) (hn:o.aj.length < 32) (ho:∀ a∈o.aj,a.ah=r.ah->a.off+4 * yo a<=r.off) (hy:∀ y∈o.syms,y.ah=r.ah->y.off<=r.off):Iv { o with aj:=o.aj ++ [r] }:=by
 have keep:∀ q,DX o q->DX { o with aj:=o.aj ++ [r] } q:=fun q ⟨a,b,c,d,e,f⟩=>⟨a,b,c,d,e,f⟩
 refine ⟨h.text,h.far,h.data,h.bss,h.EP,by simp; omega,h.align,h.wt,h.wf,h.wd,fun y hy=>?_,h.uniq,fun q hq=>?_,?_,fun q hq y VN e=>?_⟩
 ·obtain ⟨a,b,c,d,e⟩:=h.syms y hy;exact ⟨a,b,c,d,e⟩
 ·rcases List.mem_append.1 hq with x | x
  ·exact keep q (h.aj q x)
  ·rw [List.mem_singleton] at x;rw [x];exact keep r hr
 ·rw [List.pairwise_append];refine ⟨h.order,List.pairwise_singleton _ _,fun a ha b hb e=>?_⟩;rw [List.mem_singleton] at hb;rw [hb] at e ⊢;exact ho a ha e
 ·rcases List.mem_append.1 hq with x | x
  ·exact h.apart q x y VN e
  ·rw [List.mem_singleton] at x;rw [x] at e ⊢;exact .inl (hy y VN e)
theorem Bq {o:Lk.Obj} {r:Lk.Rel} (h:yv o r):r.off+4 * yo r<=4 * ((ym o r.ah).length:Int):=by
 obtain ⟨a,b,c⟩:=h;omega
theorem qC (o:Lk.Obj) (z:Nat) (h:z≠4):((ym o z).length:Int)=aA o z:=by
 rw [oo];unfold nC;rw [if_neg (by omega)]
theorem Hr (o:Lk.Obj) (ah:Nat) (kind sy add:Int) (ws:List Int) (h:Iv o) (hs:1<=ah/\ah<=3) (hw:∀ w∈ws,tY w) (hl:¬ 4 * limit ah < 4 * aA o ah+4 * (ws.length:Int)) (hn:o.aj.length < 32)
  (k:yC ⟨ah,4 * aA o ah,kind,sy,add⟩) (a:yk ⟨ah,4 * aA o ah,kind,sy,add⟩) (s:yS o ⟨ah,4 * aA o ah,kind,sy,add⟩) (b:yQ o ⟨ah,4 * aA o ah,kind,sy,add⟩) (hsp:(ws.length:Int)=yo ⟨ah,4 * aA o ah,kind,sy,add⟩) (g:yt kind ws) :
  Iv (aB { o with aj:=o.aj ++ [⟨ah,4 * aA o ah,kind,sy,add⟩] } ah ws):=by
 have i2:=Ep o ah ws h hw hl;have Oo:(aB o ah ws).syms=o.syms:=by unfold aB; (repeat' split) <;> rfl
 have rl:(aB o ah ws).aj=o.aj:=by unfold aB; (repeat' split) <;> rfl
 have al:(aB o ah ws).align=o.align:=by unfold aB; (repeat' split) <;> rfl
 have e:aB { o with aj:=o.aj ++ [⟨ah,4 * aA o ah,kind,sy,add⟩] } ah ws={ aB o ah ws with aj:=(aB o ah ws).aj ++ [⟨ah,4 * aA o ah,kind,sy,add⟩] }:=by
  unfold aB
  (repeat' split) <;> rfl
 rw [e];obtain ⟨vs,ew,ev⟩:=mU o ah ws (ah:Int);have ev:=ev rfl hs.2 hs.1;subst ev;have wl:=qC o ah (by omega);refine Ka _ i2 _ ⟨k,a,?_,?_,⟨?_,?_,?_⟩,?_⟩ (by rw [rl]; exact hn) (fun q hq eq=>?_) (fun y hy eq=>?_)
 ·unfold yS at *; rw [Oo]; exact s
 ·unfold yQ at *; rw [al]; exact b
 ·show 0<=4 * aA o ah;omega
 ·show 4 * aA o ah % 4=0;omega
 ·show 4 * aA o ah / 4+yo _<=((ym (aB o ah vs) ah).length:Int)
  rw [ew,iA,<- hsp];omega
 ·show yt kind (yF (aB o ah vs) ⟨ah,4 * aA o ah,kind,sy,add⟩);have ab:yF (aB o ah vs) ⟨ah,4 * aA o ah,kind,sy,add⟩=vs:=by
   unfold yF;show ((ym (aB o ah vs) ah).drop (4 * aA o ah / 4).toNat).take _=vs;rw [ew,show (4 * aA o ah / 4).toNat=(ym o ah).length by omega,List.drop_left' rfl,<- hsp];exact List.take_of_length_le (by omega)
  rw [ab];exact g
 ·rw [rl] at hq;have ro:=Bq (h.aj q hq).ab;have eq':q.ah=(ah:Int):=eq;rw [eq'] at ro;show _<=4 * aA o ah;omega
 ·rw [Oo] at hy;have lo:=(h.syms y hy).low;have eq':y.ah=(ah:Int):=eq;rw [eq',<- oo] at lo;exact lo
theorem GY {ys:List Lk.Sym} {n:List UInt8} (h:eH ys n=none):∀ y∈ys,y.name≠n:=by
 unfold eH at h;rw [List.findIdx?_eq_none_iff] at h;intro y hy e
 have:=h y hy
 simp [e] at this
theorem GX {ys:List Lk.Sym} {n:List UInt8} {i:Nat} (h:eH ys n=some i):i < ys.length:=by
 unfold eH at h;rw [List.findIdx?_eq_some_iff_getElem] at h;exact h.1
theorem Kc (o:Lk.Obj) (n:List UInt8) (h:Iv o) (hn:uS n) (hl:o.syms.length < 16) (hf:eH o.syms n=none):Iv { o with syms:=o.syms ++ [⟨n,0,0,0⟩] }:=by
 refine ⟨h.text,h.far,h.data,h.bss,by simp; omega,h.EM,h.align,h.wt,h.wf,h.wd,fun y hy=>?_,?_,fun r hr=>?_,h.order,fun r hr y hy e=>?_⟩
 ·rcases List.mem_append.1 hy with x | x
  ·obtain ⟨a,b,c,d,e⟩:=h.syms y x;exact ⟨a,b,c,d,e⟩
  ·rw [List.mem_singleton] at x;rw [x];exact ⟨hn,(show (0:Int)<=0/\(0:Int)<=2 by decide),(show (0:Int)<=0/\(0:Int)<=4 by decide),(show (0:Int)<=0/\(0:Int) % 4=0 by decide),by show (0:Int)<=4 * 0; omega⟩
 ·rw [List.pairwise_append];refine ⟨h.uniq,List.pairwise_singleton _ _,fun a ha b hb=>?_⟩;rw [List.mem_singleton] at hb;rw [hb];exact GY hf a ha
 ·obtain ⟨k,a,s,b,ab,g⟩:=h.aj r hr;refine ⟨k,a,?_,b,ab,g⟩;unfold yS at *;split
  ·rw [if_pos (by assumption)] at s; exact s
  ·rw [if_neg (by assumption)] at s;show 0<=r.sym/\r.sym < ((o.syms ++ [_]).length:Int);simp;omega
 ·rcases List.mem_append.1 hy with x | x
  ·exact h.apart r hr y x e
  ·rw [List.mem_singleton] at x;rw [x] at e;have k:=(h.aj r hr).kind;unfold yC at k;have e':(0:Int)=r.ah:=e;omega
theorem Er (o:Lk.Obj) (i:Nat) (f:Lk.Sym->Lk.Sym) (h:Iv o) (hn:∀ y,(f y).name=y.name) (hs:∀ y,DZ o y->DZ o (f y)) (ha:∀ r∈o.aj,∀ y∈o.syms,(f y).ah=r.ah->(f y).off<=r.off\/r.off+4 * yo r<=(f y).off):Iv { o with syms:=o.syms.modify i f }:=by
 have len:(o.syms.modify i f).length=o.syms.length:=by simp
 refine ⟨h.text,h.far,h.data,h.bss,by rw [len]; exact h.EP,h.EM,h.align,h.wt,h.wf,h.wd,fun y hy=>?_,?_,fun r hr=>?_,h.order,fun r hr y hy e=>?_⟩
 ·obtain ⟨x,hx,e⟩:=mem_modify o.syms i f y hy;have s:DZ o y:=by
   rcases e with e | e
   ·rw [e]; exact h.syms x hx
   ·rw [e]; exact hs x (h.syms x hx)
  obtain ⟨a,b,c,d,e⟩:=s;exact ⟨a,b,c,d,e⟩
 ·have em:(o.syms.modify i f).map (·.name)=o.syms.map (·.name):=by
   apply List.ext_getElem?;intro j;rw [List.getElem?_map,List.getElem?_map,List.getElem?_modify]
   cases o.syms[j]? with
   | none=>rfl
   | some y=>by_cases c:i=j <;> simp [c,hn]
  have p:(o.syms.map (·.name)).Pairwise (·≠·):=List.pairwise_map.2 h.uniq;rw [<- em] at p;exact List.pairwise_map.1 p
 ·obtain ⟨k,a,s,b,ab,g⟩:=h.aj r hr;refine ⟨k,a,?_,b,ab,g⟩;unfold yS at *;rw [len];exact s
 ·obtain ⟨x,hx,c⟩:=mem_modify o.syms i f y hy;rcases c with c | c
  ·rw [c] at e ⊢; exact h.apart r hr x hx e
  ·rw [c] at e ⊢; exact ha r hr x hx e
end As
end Go.Proofs.YtnkkepfcpjllmaaGreatDoor

namespace Go.Proofs.YtnkkepfcpjllmaaGreatDoor
namespace As
theorem dn (e a:Nat) (st:St) (he:e≠0):(refuse e a st).fe≠0:=by
 unfold refuse failed;split
 ·rename_i x; simpa using x
 ·exact he
structure P (st:St):Prop where
 tok:rP st.tok
 iv:st.fe=0->Iv st.obj
 ah:st.fe=0->1<=st.ah/\st.ah<=4
theorem P.q {st st':St} (h:P st) (k:Q st st'):P st':=⟨k.tok h.tok,fun x=>by rw [k.obj]; exact h.iv (k.fe x),fun x=>by rw [k.ah]; exact h.ah (k.fe x)⟩
theorem P.down {st:St} (ht:rP st.tok) (h:st.fe≠0):P st:=⟨ht,fun x=>absurd x h,fun x=>absurd x h⟩
theorem nP {c:Prop} [Decidable c] {a b:St} (h:P a) (k:P b):P (if c then a else b):=by split; exact h; exact k
theorem kK (t:Tok) (st:St) (h:P st) (hn:st.fe=0->uS t.text):P (au t st).2/\((au t st).2.fe=0->(au t st).1.1 < (au t st).2.obj.syms.length/\st.fe=0)/\(au t st).2.ah=st.ah/\(au t st).2.op=st.op:=by
 unfold au;by_cases f:st.fe=0
 ·have hf:failed st=false:=by unfold failed; simp [f]
  rw [hf];simp only [Bool.false_eq_true,if_false]
  cases e:eH st.obj.syms t.text with
  | some i=>exact ⟨h,fun _=>⟨GX e,f⟩,rfl,rfl⟩
  | none =>
   simp only;split
   ·have q:=dM 11 t.pos st;exact ⟨h.q q,fun x=>absurd x (dn 11 t.pos st (by decide)),q.ah,q.op⟩
   ·rename_i c;exact ⟨⟨h.tok,fun _=>Kc st.obj t.text (h.iv f) (hn f) (by omega) e,h.ah⟩,fun _=>⟨by show st.obj.syms.length < (st.obj.syms ++ [_]).length; simp,f⟩,rfl,rfl⟩
 ·have hf:failed st=true:=by unfold failed; simp [f]
  rw [hf];exact ⟨h,fun x=>absurd x f,rfl,rfl⟩
theorem oU (s:List UInt8) (st:St) (h:P st):P (symbol s st).2/\((symbol s st).2.fe=0->(symbol s st).1 < (symbol s st).2.obj.syms.length)/\(symbol s st).2.ah=st.ah/\(symbol s st).2.op=st.op/\((symbol s st).2.fe=0->st.fe=0):=by
 have q:=EZ s st;obtain ⟨a,b,c,d⟩:=kK (name s st).1 (name s st).2 (h.q q) (fun x=>u6 s st h.tok x);exact ⟨a,fun x=>(b x).1,c.trans q.ah,d.trans q.op,fun x=>q.fe (b x).2⟩
theorem oV (s:List UInt8) (st:St) (h:P st):P (target s st).2/\((target s st).2.fe=0->(target s st).1.1 < (target s st).2.obj.syms.length/\-2048<=(target s st).1.2/\(target s st).1.2<=2047)/\(target s st).2.ah=st.ah/\(target s st).2.op=st.op/\((target s st).2.fe=0->st.fe=0):=by
 obtain ⟨a,b,c,d,e⟩:=oU s st h;unfold target;simp only;split
 ·have q:=(gq s (symbol s st).2).trans (iL s 0 2047 _);exact ⟨a.q q,fun x=>⟨by show (symbol s st).1 < _; rw [q.obj]; exact b (q.fe x),by have:=lD s 0 2047 _ x; exact ⟨by show -2048<=(number s 0 2047 _).1; omega,this.2⟩⟩,q.ah.trans c,q.op.trans d,fun x=>e (q.fe x)⟩
 split
 ·have q:=(gq s (symbol s st).2).trans (iL s 0 2048 _);exact ⟨a.q q,fun x=>⟨by show (symbol s st).1 < _; rw [q.obj]; exact b (q.fe x),by have:=lD s 0 2048 _ x; exact ⟨by show -2048<=-(number s 0 2048 _).1; omega,by show -(number s 0 2048 _).1<=2047; omega⟩⟩,q.ah.trans c,q.op.trans d,fun x=>e (q.fe x)⟩
 ·exact ⟨a,fun x=>⟨b x,by show (-2048:Int)<=0; decide,by show (0:Int)<=2047; decide⟩,c,d,e⟩
theorem jV (ws:List Int) (st:St) (h:P st) (hw:st.fe=0->∀ w∈ws,tY w):P (lay ws st):=by
 unfold lay;split
 ·exact h.q (dM _ _ _)
 rename_i c;split
 ·exact h
 ·exact ⟨h.tok,fun x=>Ep st.obj st.ah ws (h.iv x) (hw x) c,h.ah⟩
theorem kY (kind:Int) (sy:Nat) (add:Int) (ws:List Int) (st:St) (h:P st) (hs:st.fe=0->st.ah<=3) (hw:st.fe=0->∀ w∈ws,tY w)
  (k:st.fe=0->∀ off,yC ⟨st.ah,off,kind,sy,add⟩/\yk ⟨st.ah,off,kind,sy,add⟩/\yS st.obj ⟨st.ah,off,kind,sy,add⟩/\yQ st.obj ⟨st.ah,off,kind,sy,add⟩/\(ws.length:Int)=yo ⟨st.ah,off,kind,sy,add⟩/\yt kind ws):P (bG kind sy add ws st):=by
 unfold bG;simp only;have q:=lG (decide (32<=st.obj.aj.length)) 12 st.op.pos st;split
 ·exact h.q q
 rename_i c;have f:(aJ (decide (32<=st.obj.aj.length)) 12 st.op.pos st).fe=0:=by unfold failed at c; simpa using c
 have nr:¬ 32<=st.obj.aj.length:=by
  intro x;have e:aJ (decide (32<=st.obj.aj.length)) 12 st.op.pos st=refuse 12 st.op.pos st:=by unfold aJ; rw [decide_eq_true x]; rfl
  rw [e] at f;exact dn 12 _ _ (by decide) f
 have e:aJ (decide (32<=st.obj.aj.length)) 12 st.op.pos st=st:=by unfold aJ; rw [decide_eq_false nr]; rfl
 rw [e] at f ⊢;obtain ⟨k1,k2,k3,k4,k5,k6⟩:=k f (4 * aA st.obj st.ah);have sc:=h.ah f;unfold lay;simp only;split
 ·have q:=dM 13 st.op.pos { st with obj:={ st.obj with aj:=st.obj.aj ++ [⟨st.ah,4 * aA st.obj st.ah,kind,sy,add⟩] } };exact P.down (q.tok h.tok) (dn 13 _ _ (by decide))
 rename_i c2;split
 ·rename_i c3
  have:failed st=true:=c3
  unfold failed at this;simp [f] at this
 ·exact ⟨h.tok,fun _=>Hr st.obj st.ah kind sy add ws (h.iv f) ⟨sc.1,hs f⟩ (hw f) c2 (by omega) k1 k2 k3 k4 k5 k6,h.ah⟩
end As
end Go.Proofs.YtnkkepfcpjllmaaGreatDoor
