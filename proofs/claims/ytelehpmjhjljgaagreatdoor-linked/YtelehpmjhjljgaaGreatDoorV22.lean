
import Derived.Test.YtelehpmjhjljgaaGreatDoorV21
import Derived.Deep.RegionWith
import Derived.Deep.CutRange
set_option maxHeartbeats 16000000
set_option maxRecDepth 100000
namespace Go.Proofs.YtelehpmjhjljgaaGreatDoor
open Go.RowKit
theorem mQ.put {W0 V w3:World} {R:Nat} {base fl x:Int} {ws:List Int} {v v':Value} (h:mQ W0 R base fl ws v V) (hown:w3.ownsRow W0.heap.size 3 1 v' (ws.length+1) (ws.map (Value.int .i64) ++ [.int .i64 x])) (hg:V.grownBy w3 v.ownBlock) (hat:v'.ownBlock=v.ownBlock\/v'.ownBlock=some V.heap.size) :
  (mQ W0 R base fl (ws ++ [x]) v' (w3.setCell ⟨R,2,none⟩ v')/\qU V (w3.setCell ⟨R,2,none⟩ v') R v v')/\ye w3 R #[.int .i64 base,.int .i64 fl,v] 113/\w3.cell? ⟨R,2,none⟩=some v/\w3.frozen? ⟨R,2,none⟩=false/\w3.cell? ⟨R,1,none⟩=some (.int .i64 fl):=by
 have b3:=yy h.blk hg (aW.own h.row) (by decide);exact ⟨h.step hown hg hat,b3,b3.cell 2,b3.free 2,b3.cell 1⟩
theorem ylm (W0:World) (g:Nat) (o:Lk.Obj) (ah:Int) (w:World) (h:yq W0 g o) (hg:W0.grownBy w none) :
  Calls Tryz.prog 82 #[.pointer (some ⟨g,0,none⟩),.int .i64 ah] w fun e w'=>∃ ao cap,e = .returned (.slice ao (yh o ah).length cap)/\(ym W0 ao (yh o ah)/\(yh o ah).length<=cap/\cap<=maxLen)/\w'=w:=by
 obtain ⟨at_,ct,af,cf,ad,cd,aa,ca,gF,cs,ar,cr,hb,h1,h2,h3,-⟩:=h.open;have hb2:=hb.grown hg (by simp);have k0:=hb2.cell 0;have k1:=hb2.cell 1;have k2:=hb2.cell 2;have q1:=hid (ym.aB h1);have q2:=hid (ym.aB h2);have q3:=hid (ym.aB h3);have z1:=hid (yZ h1);have z2:=hid (yZ h2);have z3:=hid (yZ h3);clear h hb hb2 h1 h2 h3 hg;unfold yh;by_cases e1:ah=1
 ·subst e1;go_enter Tryz.func82,Tryz.ntmps82;go_wp2;go_ret;exact ⟨at_,ct,rfl,⟨q1.o,z1.o⟩,rfl⟩
 by_cases e2:ah=2
 ·subst e2;go_enter Tryz.func82,Tryz.ntmps82;go_wp2;go_ret;exact ⟨af,cf,rfl,⟨q2.o,z2.o⟩,rfl⟩
 by_cases e3:ah=3
 ·subst e3;go_enter Tryz.func82,Tryz.ntmps82;go_wp2;go_ret;exact ⟨ad,cd,rfl,⟨q3.o,z3.o⟩,rfl⟩
 ·rw [if_neg e1,if_neg e2,if_neg e3];have d1:(ah == 1)=false:=beq_eq_false_iff_ne.2 e1;have d2:(ah == 2)=false:=beq_eq_false_iff_ne.2 e2;have d3:(ah == 3)=false:=beq_eq_false_iff_ne.2 e3;clear e1 e2 e3;go_enter Tryz.func82,Tryz.ntmps82;go_wp2;go_ret;exact ⟨none,0,rfl,⟨fun h=>by simp at h,by simp,by simp⟩,rfl⟩
theorem yoh (W0:World) (bl:List Nat) (ms:List Ln.Mod) (b g:Nat) (m:Ln.Mod) (ah:Int) (R:Nat) (base fl:Int) (ws:List Int) (v:Value) (w:World) (ht:fZ W0) (h:Av W0 bl ms) (hm:yN W0 bl b g m) (hn:yO bl.length m) (hv:yp m.obj) (hd:R9 ms m) (hr:mQ W0 R base fl ws v w) (hb0:0<=base) (hb1:base<=1200000000) (hl:ws.length<=300090000) (ha:Ln.address m ah 0<=1200100000) :
  Calls Tryz.prog 49 #[aP R,aP b,.int .i64 ah] w fun e w'=>e = .returned (.tuple #[])/\∃ v',mQ W0 R base fl (Ln.jP ms m ah base fl ws) v' w'/\qU w w' R v v':=by
 obtain ⟨i0,hi,hz0,hz1,hz2⟩:=info_parts Tryz.fP;have HT:=hid ht;have HH:=hid h;have HM:=hid hm;have HR:=hid hr;have cA:=hid (fun (off:Int) W (hg:W0.grownBy W none) h0 h1=>QJ bl b g bl.length m ah off W (HM.o.kept hg) hn h0 h1);have cL:=hid (fun (off x:Int) W (hg:W0.grownBy W none) h0 h1=>ylu bl ms b g m ah off x W (HT.o.grown hg) (HH.o.kept hg) (HM.o.kept hg) hn hv hd h0 h1);have cW:Hd (∀ W,W0.grownBy W none->Calls Tryz.prog 82 #[.pointer (some ⟨g,0,none⟩),.int .i64 ah] W fun e w'=>∃ ao cap,e = .returned (.slice ao (yh m.obj ah).length cap)/\(ym W0 ao (yh m.obj ah)/\(yh m.obj ah).length<=cap/\cap<=maxLen)/\w'=W):=fun W hg=>by
  obtain ⟨v1,v2,v3,v4,q0,q1,-⟩:=hm;exact ylm W0 g m.obj ah W q1 hg
 have CB:=hid (fun W (hg:W0.grownBy W none)=>show W.cell? ⟨b,0,none⟩=some (.pointer (some ⟨g,0,none⟩)) from by
  obtain ⟨v1,v2,v3,v4,q0,-⟩:=hm;exact (q0.grown hg (by simp)).cell 0)
 have hwl:=Mj hv ah;have Om:=hid (Yj hv ah);have EA:=hid (show Ln.jP ms m ah base fl ws=Ln.gB base fl (Ln.address m ah 0) ws ++ Ln.aU ms m ah 0 ((yh m.obj ah).drop 0) from rfl);generalize Ln.jP ms m ah base fl ws=AT at *;generalize yh m.obj ah=xs at *;have Vl:=hid (cA.o 0 w HR.o.gr (by omega) (by omega));generalize Ln.address m ah 0=bg at *;clear ht h hm hr hn hv hd;unfold aP at *;go_enter Tryz.func49,Tryz.ntmps49;go_wp2_with fail;refine Vl.o.mono ?_;rintro e w' ⟨rfl,hw⟩;rw [hw];clear hw w' Vl;go_wp2
 go_loopg [] ((bg - base - 4 * (ws.length:Int)).toNat) (fun k wr=>∃ (acc:List Int) (v1:Value),mQ W0 R base fl acc v1 wr/\qU w wr R v v1/\Ln.gB base fl bg ws=Ln.gB base fl bg acc/\acc.length<=300090000/\(bg - base - 4 * (acc.length:Int)).toNat<=k)
 case atStart=>exact ⟨ws,v,HR.o,qU.refl _ _ _,rfl,by omega,Nat.le_refl _⟩
 case round =>
  obtain ⟨acc,v1,hra,hrt,Wd,hal,PZ⟩:=hrel;obtain ⟨av,cv,rfl⟩:=yj hra.row;have HG:=hid hra;have HT1:=hid hrt;have KT:=hid Wd;clear hra hrt Wd HR;have c0:wr.cell? ⟨R,0,none⟩=some (.int .i64 base):=HG.o.blk.cell 0;have c1:wr.cell? ⟨R,1,none⟩=some (.int .i64 fl):=HG.o.blk.cell 1;have c2:wr.cell? ⟨R,2,none⟩=some (.slice av acc.length cv):=HG.o.blk.cell 2;have w1:IntKind.i64.wrap (4 * (acc.length:Int))=4 * acc.length:=IntWalk.i64_in _ ⟨by omega,by omega⟩;have w2:IntKind.i64.wrap (base+4 * (acc.length:Int))=base+4 * acc.length:=IntWalk.i64_in _ ⟨by omega,by omega⟩;by_cases hlt:base+4 * (acc.length:Int) < bg
  ·have EG:=hid (show Ln.gB base fl bg ws=Ln.gB base fl bg (acc ++ [fl]) from KT.o.trans (yng hlt));have hb2:base+4 * (acc.length:Int) < bg:=hlt;have d1:decide (base+4 * (acc.length:Int) < bg)=true:=by simpa using hlt
   clear hlt KT;go_wp2
   go_quiet (fail)
   have Dv:=hid (HG.o.kept (yd (World.grownBy.refl wr none) nq));have IB:=hid (HT1.o.grown (yd (World.grownBy.refl wr none) nq));go_wp2;clear c0 c1 c2 HG HT1;generalize wr.drewN nq=wr at *;have HG:=Dv;have HT1:=IB;have c0:wr.cell? ⟨R,0,none⟩=some (.int .i64 base):=HG.o.blk.cell 0;have c1:wr.cell? ⟨R,1,none⟩=some (.int .i64 fl):=HG.o.blk.cell 1;have c2:wr.cell? ⟨R,2,none⟩=some (.slice av acc.length cv):=HG.o.blk.cell 2;clear Dv IB;have A7:=yf (aH wr (.cells #[.int .i64 fl] 3) none);have H7:=hid (HG.o.kept A7);have RT:=hid (HT1.o.grown A7);have hA:=hid H7.o.row;have n2:(wr.alloc (.cells #[.int .i64 fl] 3)).drew.cell? ⟨R,2,none⟩=some (.slice av acc.length cv):=H7.o.blk.cell 2
   have hN:Hd (∀ j u,[Value.int .i64 fl][j]?=some u->(wr.alloc (.cells #[.int .i64 fl] 3)).drew.cell? ((⟨wr.heap.size,0,none⟩:Addr).add j)=some u):=World.news_of_block (heap_alloc_new wr (.cells #[.int .i64 fl] 3));have iY:Hd (∀ u∈[Value.int .i64 fl],u.oneCell'=true):=by intro u hu; simp at hu; subst hu; rfl
   have h63:Hd (acc.length+1<=maxLen):=by show _<=_; unfold maxLen; omega
   have hby:Hd ((acc.length+1) * 8<=140737488355328):=by show _<=_; omega
   have hbs:Hd (W0.heap.size<=(wr.alloc (.cells #[.int .i64 fl] 3)).drew.heap.size):=H7.o.gr.size;have SA:Hd ((wr.alloc (.cells #[.int .i64 fl] 3)).drew.cell? ⟨R,1,none⟩=some (.int .i64 fl)):=H7.o.blk.cell 1;have STEP:=hid (fun (v':Value) (w3:World) (hown':w3.ownsRow W0.heap.size 3 1 v' (acc.length+1) (acc.map (Value.int .i64) ++ [.int .i64 fl])) (hg:(wr.alloc (.cells #[.int .i64 fl] 3)).drew.grownBy w3 (Value.ownBlock (.slice av acc.length cv))) (hat:v'.ownBlock=Value.ownBlock (.slice av acc.length cv)\/v'.ownBlock=some (wr.alloc (.cells #[.int .i64 fl] 3)).drew.heap.size)=>H7.o.put hown' hg hat)
   clear A7 H7 HG HT1 c0;refine wp_region_held_drew (S:=(fun w'=>w'.cell? ⟨R,1,none⟩=some (.int .i64 fl))) (by kernel_rfl) c1 ?_;intro hS
   iterate 4
    refine yU (v:=?_) rfl (by kernel_rfl) (fun _ _ _ h=>h) hS ?_ ?_
    rotate_left
    ·intro w' hw'; have x2:=hw'; go_simp; with_reducible rfl
   refine fD (i:=5) (v:=?_) rfl ?_ hS ?_
   rotate_left
   ·intro w' hw'; have x2:=hw'; go_simp; with_reducible rfl
   refine fD (i:=6) (v:=?_) rfl ?_ hS ?_
   rotate_left
   ·intro w' hw'; have x2:=hw'; go_simp; with_reducible rfl
   refine fD (i:=7) (v:=?_) rfl ?_ hS ?_
   rotate_left
   ·intro w' hw'; have x2:=hw'; go_simp; with_reducible rfl
   refine fD (i:=8) (v:=?_) rfl ?_ hS ?_
   rotate_left
   ·intro w' hw'; have x2:=hw'; go_simp; with_reducible rfl
   refine wpAnyH_ready (rs:=[4,9]) (by kernel_rfl) (by simp) ?_;refine AllReadyH.cons rfl (fun K hK=>?_) (AllReadyH.cons rfl (fun K hK=>?_) AllReadyH.nil);go_simp;refine hK.out _ _ hS (fun hS2=>?_);clear hK K;refine wpAnyH_ready (rs:=[9]) (by kernel_rfl) (by simp) ?_
   rotate_left
   go_simp;refine hK.out _ _ SA.o (fun hS2=>?_);clear hK K;refine wpAnyH_ready (rs:=[4]) (by kernel_rfl) (by simp) ?_
   all_goals
    refine AllReadyH.cons rfl (fun K hK=>?_) AllReadyH.nil;go_simp;refine hK.out _ _ SA.o (fun iZ=>?_);clear hK K hS2 iZ;refine wpAnyH_ready (rs:=[10]) (by kernel_rfl) (by simp) ?_;refine AllReadyH.cons rfl (fun K hK=>?_) AllReadyH.nil;refine EK _ (.tmp 30) (.tmp 35) 35 rfl W0.heap.size 3 i0 (.int .i64 0) 1 8 Tryz.underlying35 hi hz0 hz1 hz2 rfl (by decide) (.slice av acc.length cv) acc.length (acc.map (Value.int .i64)) (by kernel_rfl) hA.o ⟨wr.heap.size,0,none⟩ 1 1 [.int .i64 fl] (by kernel_rfl) rfl hN.o iY.o h63.o hby.o hbs.o ?_;intro v' w3 hown' hgrow _ hat
    obtain ⟨jN,cv',rfl⟩:=yj hown';obtain ⟨⟨t1,t2⟩,t3,t4,t5,t6⟩:=STEP.o _ _ hown' hgrow hat
    have T1:=hid t1;have T2:=hid t2;have T3:Hd ((w3.setCell ⟨R,2,none⟩ (.slice jN (acc.length+1) cv')).cell? ⟨R,1,none⟩=some (.int .i64 fl)):=t1.blk.cell 1;refine hK.out _ _ t6 (fun nD=>?_);clear hK K hown' hgrow t1 t2 t6 hat
    refine fD (i:=11) (v:=?_) rfl ?_ nD ?_
    rotate_left
    ·intro w' hw'; have x2:=hw'; go_simp; with_reducible rfl
    refine fD (i:=12) (v:=?_) rfl ?_ nD ?_
    rotate_left
    ·intro w' hw'; have x2:=hw'; go_simp; with_reducible rfl
    refine wpAnyH_ready (rs:=[13]) (by kernel_rfl) (by simp) ?_;refine AllReadyH.cons rfl (fun K hK=>?_) AllReadyH.nil;go_simp;refine hK.out _ _ T3.o (fun hS5=>?_);clear hK K;refine wpAnyH_done (by kernel_rfl) ?_ _
    try simp only [ni,mh,kT,kI,fu,fC,eX]
    clear hA hN iY h63 hby hbs c2 n2 t3 t4 t5 nD hS5 hS STEP SA T3;go_wp2
    go_roundg (gk - 1)
    case measure=>omega
    case rel=>exact ⟨acc ++ [fl],_,T1.o,RT.o.trans T2.o,EG.o,by rw [fE,o7]; omega,by rw [fE,o7]; omega⟩
  ·have EG:=hid (show Ln.gB base fl bg ws=acc from KT.o.trans (ynf hlt));have d1:decide (base+4 * (acc.length:Int) < bg)=false:=by simpa using hlt
   clear hlt KT;go_wp2
   go_quiet (fail)
   have Dv:=hid (HG.o.kept (yd (World.grownBy.refl wr none) nq));have IB:=hid (HT1.o.grown (yd (World.grownBy.refl wr none) nq));have kb:=CB.o _ Dv.o.gr;go_wp2_with fail;refine (cW.o _ Dv.o.gr).mono ?_;rintro e w' ⟨aw,cw,rfl,⟨hin,-,-⟩,hw⟩;rw [hw];clear hw w' cW kb c0 c1 c2 HG HT1 w1 w2;have HI:=hid hin;clear hin;generalize wr.drewN nq=U at *;go_wp2
   go_loopw [46] (fun i wr=>∃ (k:Nat) (pz:List Int) (v2:Value),k<=xs.length/\i = .int .i64 k/\mQ W0 R base fl pz v2 wr/\qU w wr R v v2/\AT=pz ++ Ln.aU ms m ah k (xs.drop k)/\pz.length<=300090000+k) (fun i _=>xs.length - (intOf i).toNat)
   case atStart=>exact ⟨0,acc,_,Nat.zero_le _,rfl,Dv.o,IB.o,by rw [EA.o,EG.o],by omega⟩
   case round =>
    obtain ⟨k,pz,v2,hk,rfl,hra,hrt,Jw,aag⟩:=hrel;obtain ⟨av2,cv2,rfl⟩:=yj hra.row;have HG:=hid hra;have HT1:=hid hrt;have HA2:=hid Jw;clear hra hrt Jw Dv IB;by_cases hlt:k < xs.length
    ·have g1:(k:Int) < (xs.length:Int):=by omega
     obtain ⟨sg,off,rfl,hc⟩:=HI.o (by omega);have ck:=yc (hc k hlt) HG.o.gr;clear hc;have P2:=hid (HA2.o.trans (by rw [WC ms m ah xs k hlt]));have xr:=Om.o _ (dM hlt);have w4:IntKind.i64.wrap (4 * (k:Int))=4 * k:=IntWalk.i64_in _ ⟨by omega,by omega⟩;have w5:IntKind.i64.wrap (4 * (k:Int)+4)=4 * k+4:=IntWalk.i64_in _ ⟨by omega,by omega⟩;have Vm:=hid (cA.o (4 * k) wr HG.o.gr (by omega) (by omega));have Vn:=hid (cA.o (4 * k+4) wr HG.o.gr (by omega) (by omega));have Jk:=hid (cL.o (4 * k) xs[k] wr HG.o.gr xr.1 xr.2);generalize Ln.linked ms m ah (4 * k) xs[k]=y at *;generalize Ln.address m ah (4 * k)=a1 at *
     generalize Ln.address m ah (4 * k+4)=a2 at *;generalize xs[k]=x at *;go_wp2_with fail;refine Vm.o.mono ?_;rintro e w' ⟨rfl,hw⟩;rw [hw];clear hw w' Vm;go_wp2_with fail;refine Vn.o.mono ?_;rintro e w' ⟨rfl,hw⟩;rw [hw];clear hw w' Vn;by_cases hy:a1 < a2
     ·have d2:decide (a1 < a2)=true:=by simpa using hy
      have P3:=hid (show AT=(pz ++ [y]) ++ Ln.aU ms m ah (k+1) (xs.drop (k+1)) by rw [P2.o,if_pos hy]; simp);clear hy P2;go_wp2_with fail;refine Jk.o.mono ?_;rintro e W5 ⟨rfl,h5⟩;have A6:=ya h5 (aH W5 (.cells #[.int .i64 y] 3) none);have KX:=hid (HG.o.kept h5);have Ik:=hid (HG.o.kept A6);have HT6:=hid (HT1.o.grown A6);have c2:W5.cell? ⟨R,2,none⟩=some (.slice av2 pz.length cv2):=KX.o.blk.cell 2;clear h5 A6 Jk HG HT1 ck;go_wp2_with (at_builtin; refine wpList_append_own_at _ rfl _ _ 35 rfl W0.heap.size 3 i0 (.int .i64 0) 1 8 Tryz.underlying35 hi hz0 hz1 hz2 rfl (by decide) _ _ _ rfl Ik.o.row ⟨W5.heap.size,0,none⟩ 1 1 [.int .i64 y] rfl rfl (cell_one_new _ _ _) (by intro u hu; simp at hu; subst hu; rfl) (by unfold maxLen; omega) (by omega) Ik.o.gr.size ?_; intro v' w3 hown' hgrow _ hat; obtain ⟨jN,cv',rfl⟩:=yj hown'; obtain ⟨⟨t1,t2⟩,t3,t4,t5,t6⟩:=Ik.o.put hown' hgrow hat; have T1:=hid t1; have T2:=hid (HT6.o.trans t2); clear hown' hgrow hat t1 t2 t3 t6)
      go_roundw
      case rel=>exact ⟨k+1,pz ++ [y],_,by omega,by go_num,T1.o,T2.o,P3.o,by rw [fE,o7]; omega⟩
      case measure=>simp [intOf]; omega
     ·have d2:decide (a1 < a2)=false:=by simpa using hy
      have P3:=hid (show AT=pz ++ Ln.aU ms m ah (k+1) (xs.drop (k+1)) by rw [P2.o,if_neg hy]);clear hy P2;go_wp2
      go_roundw
      case rel=>exact ⟨k+1,pz,_,by omega,by go_num,HG.o,HT1.o,P3.o,by omega⟩
      case measure=>simp [intOf]; omega
    ·obtain rfl:k=xs.length:=by omega
     have g3:decide ((xs.length:Int) < (xs.length:Int))=false:=by simp
     have P2:=hid (show AT=pz by rw [HA2.o,List.drop_length]; simp [Ln.aU]);go_wp2
     go_end0
     rw [P2.o];exact ⟨rfl,_,HG.o,HT1.o⟩
namespace Ln
def image (ms:List Mod) (st:fQ) (bt bf bd no:Int):Im.lC:=⟨bK ms st,bt,bf,bd,region ms 1 bt 19 ms [],region ms 2 bf 19 ms [],region ms 3 bd 0 ms [],no⟩
end Ln
theorem QT (ms:List Ln.Mod) (ah base fl:Int):∀ (l:List Ln.Mod) (k:Nat) (ws:List Int) (h:k < l.length),Ln.region ms ah base fl (l.take (k+1)) ws=Ln.jP ms l[k] ah base fl (Ln.region ms ah base fl (l.take k) ws):=by
 intro l
 induction l with
 | nil=>intro k ws h; simp at h
 | cons m l ih =>
  intro k ws h
  cases k with
  | zero=>rfl
  | succ k =>
   simp only [gL] at h;rw [List.take_succ_cons,List.take_succ_cons];unfold Ln.region;exact ih k _ (by omega)
theorem ymS {m:Ln.Mod} (ms:List Ln.Mod) (hv:yp m.obj) (ah base fl:Int) (ws:List Int) (hb:0<=base) (ha:Ln.address m ah 0<=1200100000) (k:Nat) (h:ws.length<=300025001+1200 * k):(Ln.jP ms m ah base fl ws).length<=300025001+1200 * (k+1):=by
 have a:=yiC ms m ah (yh m.obj ah) 0;have b:=Mj hv ah;unfold Ln.jP;rw [fE,Kw];omega
def Ca (u v:Value):Prop:=∀ k,u.ownBlock=some k->v.ownBlock≠some k
theorem Ca.symm {u v:Value} (h:Ca u v):Ca v u:=fun k e c=>h k c e
structure jk (W0:World) (R1 R2 R3:Nat) (b1 f1 b2 f2 b3 f3:Int) (l1 l2 l3:List Int) (v1 v2 v3:Value) (W:World):Prop where
 a:mQ W0 R1 b1 f1 l1 v1 W
 b:mQ W0 R2 b2 f2 l2 v2 W
 c:mQ W0 R3 b3 f3 l3 v3 W
 n12:R1≠R2
 n13:R1≠R3
 n23:R2≠R3
 xP:Ca v1 v2
 J3:Ca v1 v3
 J5:Ca v2 v3
section
variable {W0 W W':World} {R1 R2 R3:Nat} {b1 f1 b2 f2 b3 f3:Int} {l1 l2 l3 l':List Int} {v1 v2 v3 v':Value}
theorem jk.kept (h:jk W0 R1 R2 R3 b1 f1 b2 f2 b3 f3 l1 l2 l3 v1 v2 v3 W) (hg:W.grownBy W' none):jk W0 R1 R2 R3 b1 f1 b2 f2 b3 f3 l1 l2 l3 v1 v2 v3 W' :=
 ⟨h.a.kept hg,h.b.kept hg,h.c.kept hg,h.n12,h.n13,h.n23,h.xP,h.J3,h.J5⟩
theorem jk.one (h:jk W0 R1 R2 R3 b1 f1 b2 f2 b3 f3 l1 l2 l3 v1 v2 v3 W) (g:mQ W0 R1 b1 f1 l' v' W') (t:qU W W' R1 v1 v'):jk W0 R1 R2 R3 b1 f1 b2 f2 b3 f3 l' l2 l3 v' v2 v3 W':=by
 obtain ⟨x1,x2⟩:=h.b.other h.a t g.gr h.n12.symm h.xP.symm;obtain ⟨y1,y2⟩:=h.c.other h.a t g.gr h.n13.symm h.J3.symm;exact ⟨g,x1,y1,h.n12,h.n13,h.n23,Ca.symm x2,Ca.symm y2,h.J5⟩
theorem jk.two (h:jk W0 R1 R2 R3 b1 f1 b2 f2 b3 f3 l1 l2 l3 v1 v2 v3 W) (g:mQ W0 R2 b2 f2 l' v' W') (t:qU W W' R2 v2 v'):jk W0 R1 R2 R3 b1 f1 b2 f2 b3 f3 l1 l' l3 v1 v' v3 W':=by
 obtain ⟨x1,x2⟩:=h.a.other h.b t g.gr h.n12 h.xP;obtain ⟨y1,y2⟩:=h.c.other h.b t g.gr h.n23.symm h.J5.symm;exact ⟨x1,g,y1,h.n12,h.n13,h.n23,x2,h.J3,Ca.symm y2⟩
theorem jk.three (h:jk W0 R1 R2 R3 b1 f1 b2 f2 b3 f3 l1 l2 l3 v1 v2 v3 W) (g:mQ W0 R3 b3 f3 l' v' W') (t:qU W W' R3 v3 v'):jk W0 R1 R2 R3 b1 f1 b2 f2 b3 f3 l1 l2 l' v1 v2 v' W':=by
 obtain ⟨x1,x2⟩:=h.a.other h.c t g.gr h.n13 h.J3;obtain ⟨y1,y2⟩:=h.b.other h.c t g.gr h.n23 h.J5;exact ⟨x1,y1,g,h.n12,h.n13,h.n23,h.xP,x2,y2⟩
end
theorem mQ.img {W0 W:World} {R I o:Nat} {base fl:Int} {ws:List Int} {v u:Value} {cs:Array Value} (h:mQ W0 R base fl ws v W) (hb:ye W I cs 117) (hI:W0.heap.size<=I):mQ W0 R base fl ws v (W.setCell ⟨I,o,none⟩ u):=by
 have gs:=yi W I o u;exact ⟨yD h.gr gs (by intro k e; simp at e; omega),h.lo,yy h.blk gs (aW.blk hb) (by decide),yw h.row gs (aW.blk hb) (by decide)⟩
theorem jk.img {W0 W:World} {R1 R2 R3 I o:Nat} {b1 f1 b2 f2 b3 f3:Int} {l1 l2 l3:List Int} {v1 v2 v3 u:Value} {cs:Array Value} (h:jk W0 R1 R2 R3 b1 f1 b2 f2 b3 f3 l1 l2 l3 v1 v2 v3 W) (hb:ye W I cs 117) (hI:W0.heap.size<=I):jk W0 R1 R2 R3 b1 f1 b2 f2 b3 f3 l1 l2 l3 v1 v2 v3 (W.setCell ⟨I,o,none⟩ u) :=
 ⟨h.a.img hb hI,h.b.img hb hI,h.c.img hb hI,h.n12,h.n13,h.n23,h.xP,h.J3,h.J5⟩
theorem ynL (W:World) (bt bf bd:Int):jk W W.heap.size (W.heap.size+1) (W.heap.size+2) bt 19 bf 19 bd 0 [] [] [] (.slice none 0 0) (.slice none 0 0) (.slice none 0 0) (((W.alloc (.cells #[.int .i64 bt,.int .i64 19,.slice none 0 0] 113)).alloc (.cells #[.int .i64 bf,.int .i64 19,.slice none 0 0] 113)).alloc (.cells #[.int .i64 bd,.int .i64 0,.slice none 0 0] 113)):=by
 have s1:(W.alloc (.cells #[.int .i64 bt,.int .i64 19,.slice none 0 0] 113)).heap.size=W.heap.size+1:=Array.size_push _;have s2:((W.alloc (.cells #[.int .i64 bt,.int .i64 19,.slice none 0 0] 113)).alloc (.cells #[.int .i64 bf,.int .i64 19,.slice none 0 0] 113)).heap.size=W.heap.size+2:=by
  rw [show ((W.alloc (.cells #[.int .i64 bt,.int .i64 19,.slice none 0 0] 113)).alloc (.cells #[.int .i64 bf,.int .i64 19,.slice none 0 0] 113)).heap.size=(W.alloc (.cells #[.int .i64 bt,.int .i64 19,.slice none 0 0] 113)).heap.size+1 from Array.size_push _,s1]
 have g1:=aH W (.cells #[.int .i64 bt,.int .i64 19,.slice none 0 0] 113) none;have g2:=aH (W.alloc (.cells #[.int .i64 bt,.int .i64 19,.slice none 0 0] 113)) (.cells #[.int .i64 bf,.int .i64 19,.slice none 0 0] 113) none;have g3:=aH ((W.alloc (.cells #[.int .i64 bt,.int .i64 19,.slice none 0 0] 113)).alloc (.cells #[.int .i64 bf,.int .i64 19,.slice none 0 0] 113)) (.cells #[.int .i64 bd,.int .i64 0,.slice none 0 0] 113) none;have x1:=ye.new W #[.int .i64 bt,.int .i64 19,.slice none 0 0] 113;have x2:=ye.new (W.alloc (.cells #[.int .i64 bt,.int .i64 19,.slice none 0 0] 113)) #[.int .i64 bf,.int .i64 19,.slice none 0 0] 113
 have x3:=ye.new ((W.alloc (.cells #[.int .i64 bt,.int .i64 19,.slice none 0 0] 113)).alloc (.cells #[.int .i64 bf,.int .i64 19,.slice none 0 0] 113)) #[.int .i64 bd,.int .i64 0,.slice none 0 0] 113;rw [s1] at x2;rw [s2] at x3;have G:=ya (ya g1 g2) g3;refine ⟨⟨G,Nat.le_refl _,(x1.grown g2 (by simp)).grown g3 (by simp),World.ownsRow_nil _ _ _ _⟩,⟨G,by omega,x2.grown g3 (by simp),World.ownsRow_nil _ _ _ _⟩,⟨G,by omega,x3,World.ownsRow_nil _ _ _ _⟩,by omega,by omega,by omega,?_,?_,?_⟩
 all_goals (intro k e; simp [Value.ownBlock] at e)
theorem ylU (W0:World) (P:Nat) (bt bf bd:Int) (vm:Value) (bl gl:List Nat) (ms:List Ln.Mod) (st:Ln.fQ) (no:Int) (W:World) (ht:fZ W) (h:ProgAt W0 P bt bf bd vm bl gl ms st no W) (hn:∀ m∈ms,yO bl.length m) (hv:∀ m∈ms,yp m.obj) (hlow:∀ m∈ms,nY m) (CP:∀ m∈ms,∀ s∈m.means,ko s) (hst:Ns bl.length st) (JA:bl.length<=48)
  (hbt:0<=bt/\bt<=1073741824) (hbf:0<=bf/\bf<=1073741824) (hbd:0<=bd/\bd<=1073741824) :
  Calls Tryz.prog 24 #[aP P] W fun e W'=>∃ I,e = .returned (aP I)/\tO W' I (Ln.image ms st bt bf bd no)/\W.grownBy W' none:=by
 obtain ⟨am,cm,rfl⟩:=yj h.row;have HP:=hid h;have RN:=hid (ynL W bt bf bd);have MA:=hid (h.uF hn);have LO:=hid h.fT;have cX:=hid (fun (k:Nat) (hk:k < ms.length) (b g:Nat) (hm:yN W bl b g ms[k]) (ah:Int) (R:Nat) (base fl:Int) (ws:List Int) (v:Value) (w:World) (hr:mQ W R base fl ws v w) (hb0:0<=base) (hb1:base<=1200000000) (hl:ws.length<=300090000)=>yoh W bl ms b g ms[k] ah R base fl ws v w ht MA.o hm (hn _ (dM hk)) (hv _ (dM hk)) (yjo hlow ms[k] (CP _ (dM hk)) (hlow _ (dM hk)) (hv _ (dM hk))) hr hb0 hb1 hl (Me (hlow _ (dM hk)) ah 0 (by omega) (by omega)).2);have LE:=hid (fun (k:Nat) (hk:k < ms.length) (ah base fl:Int) (ws:List Int) (hb:0<=base) (h:ws.length<=300025001+1200 * k)=>ymS ms (hv _ (dM hk)) ah base fl ws hb (Me (hlow _ (dM hk)) ah 0 (by omega) (by omega)).2 k h)
 have FZ:=hid (fun V (hg:W.grownBy V none)=>Ww bl ms st V (MA.o.kept hg) hst);have c0:W.cell? ⟨P,0,none⟩=some (.int .i64 bt):=h.blk.cell 0;have c1:W.cell? ⟨P,1,none⟩=some (.int .i64 bf):=h.blk.cell 1;have c2:W.cell? ⟨P,2,none⟩=some (.int .i64 bd):=h.blk.cell 2;have c3:W.cell? ⟨P,3,none⟩=some (.slice am bl.length cm):=h.blk.cell 3;have g1:=aH W (.cells #[.int .i64 bt,.int .i64 19,.slice none 0 0] 113) none;have g2:=aH (W.alloc (.cells #[.int .i64 bt,.int .i64 19,.slice none 0 0] 113)) (.cells #[.int .i64 bf,.int .i64 19,.slice none 0 0] 113) none;have g3:=aH ((W.alloc (.cells #[.int .i64 bt,.int .i64 19,.slice none 0 0] 113)).alloc (.cells #[.int .i64 bf,.int .i64 19,.slice none 0 0] 113)) (.cells #[.int .i64 bd,.int .i64 0,.slice none 0 0] 113) none
 have C1:=hid (yc c1 g1);have C2:=hid (yc c2 (ya g1 g2));have C3:=hid (yc c3 (ya (ya g1 g2) g3));have s1:(W.alloc (.cells #[.int .i64 bt,.int .i64 19,.slice none 0 0] 113)).heap.size=W.heap.size+1:=Array.size_push _;have s2:((W.alloc (.cells #[.int .i64 bt,.int .i64 19,.slice none 0 0] 113)).alloc (.cells #[.int .i64 bf,.int .i64 19,.slice none 0 0] 113)).heap.size=W.heap.size+2:=by
  rw [show ((W.alloc (.cells #[.int .i64 bt,.int .i64 19,.slice none 0 0] 113)).alloc (.cells #[.int .i64 bf,.int .i64 19,.slice none 0 0] 113)).heap.size=(W.alloc (.cells #[.int .i64 bt,.int .i64 19,.slice none 0 0] 113)).heap.size+1 from Array.size_push _,s1]
 clear h hn hv hlow CP hst ht g1 g2 g3 c1 c2 c3;unfold aP at *;go_enter Tryz.func24,Tryz.ntmps24
 go_upto_region 2 with fail
 clear c0;generalize W.alloc (.cells #[.int .i64 bt,.int .i64 19,.slice none 0 0] 113)=W1 at *;have c1:=C1.o;clear C1
 go_upto_region 3 with fail
 clear c1;generalize W1.alloc (.cells #[.int .i64 bf,.int .i64 19,.slice none 0 0] 113)=W2 at *;have c2:=C2.o;clear C2
 go_upto_region 4 with fail
 clear c2;generalize W2.alloc (.cells #[.int .i64 bd,.int .i64 0,.slice none 0 0] 113)=W3 at *;have c3:=C3.o;go_wp2;clear c3 C3 s1 s2;generalize Py:W.heap.size=R1 at *;generalize hR2:R1+1=R2 at *;generalize hR3:R1+2=R3 at *;clear Py hR2 hR3
 go_loopw [32] (fun i wr=>∃ (k:Nat) (l1 l2 l3:List Int) (v1 v2 v3:Value),k<=bl.length/\i = .int .i64 k/\jk W R1 R2 R3 bt 19 bf 19 bd 0 l1 l2 l3 v1 v2 v3 wr/\l1=Ln.region ms 1 bt 19 (ms.take k) []/\l2=Ln.region ms 2 bf 19 (ms.take k) []/\l3=Ln.region ms 3 bd 0 (ms.take k) []/\(l1.length<=300025001+1200 * k/\l2.length<=300025001+1200 * k/\l3.length<=300025001+1200 * k)) (fun i _=>bl.length - (intOf i).toNat)
 case atStart=>exact ⟨0,[],[],[],_,_,_,Nat.zero_le _,rfl,RN.o,rfl,rfl,rfl,by simp,by simp,by simp⟩
 case round =>
  obtain ⟨k,l1,l2,l3,v1,v2,v3,hk,rfl,hrs,e1,e2,e3,hl1,hl2,hl3⟩:=hrel;have HR:=hid hrs;have E1:=hid e1;have E2:=hid e2;have E3:=hid e3;clear hrs e1 e2 e3 RN;by_cases hlt:k < bl.length
  ·have hko:k < ms.length:=by rw [LO.o]; exact hlt
   have hkg:k < gl.length:=by rw [HP.o.gX]; exact hlt
   obtain ⟨sg,off,hsg,hsc⟩:=HP.o.iA.ptrs (by omega);have ck:=yc (hsc k hlt) HR.o.a.gr;have HM:yN W bl bl[k] (gl[k]'hkg) ms[k]:=HP.o.mods k hlt;have g1:(k:Int) < (bl.length:Int):=by omega
   have T1:=hid (QT ms 1 bt 19 ms k [] hko);have T2:=hid (QT ms 2 bf 19 ms k [] hko);have T3:=hid (QT ms 3 bd 0 ms k [] hko);have L1:=LE.o k hko 1 bt 19 l1 (by omega) hl1;have L2:=LE.o k hko 2 bf 19 l2 (by omega) hl2;have L3:=LE.o k hko 3 bd 0 l3 (by omega) hl3;have cY:=hid (fun ah R base fl ws v w hr hb0 hb1 hl=>cX.o k hko bl[k] (gl[k]'hkg) HM ah R base fl ws v w hr hb0 hb1 hl);rw [<- E1.o] at T1;rw [<- E2.o] at T2;rw [<- E3.o] at T3;subst hsg;clear hsc HM;generalize ms[k]=m at *;generalize hbk:bl[k]=bk at *;clear hbk;unfold aP at *;go_wp2_with fail;refine (cY.o 1 R1 bt 19 l1 v1 wr HR.o.a (by omega) (by omega) (by omega)).mono ?_
   rintro e U1 ⟨rfl,u1,ra,rt⟩;have HR1:=hid (HR.o.one ra rt);clear ra rt HR ck;go_wp2_with fail;refine (cY.o 2 R2 bf 19 l2 v2 U1 HR1.o.b (by omega) (by omega) (by omega)).mono ?_;rintro e U2 ⟨rfl,u2,ra,rt⟩;have HR2:=hid (HR1.o.two ra rt);clear ra rt HR1;go_wp2_with fail;refine (cY.o 3 R3 bd 0 l3 v3 U2 HR2.o.c (by omega) (by omega) (by omega)).mono ?_;rintro e U3 ⟨rfl,u3,ra,rt⟩;have HR3:=hid (HR2.o.three ra rt);clear ra rt HR2;go_wp2
   go_roundw
   case rel=>exact ⟨k+1,_,_,_,_,_,_,by omega,by go_num,HR3.o,T1.o.symm,T2.o.symm,T3.o.symm,L1,L2,L3⟩
   case measure=>simp [intOf]; omega
  ·obtain rfl:k=bl.length:=by omega
   have g3:decide ((bl.length:Int) < (bl.length:Int))=false:=by simp
   rw [List.take_of_length_le (by rw [LO.o]; exact Nat.le_refl _)] at E1 E2 E3;have BP:=hid (HP.o.blk.grown HR.o.a.gr (by simp));have FIN:=hid (show Ln.image ms st bt bf bd no=⟨Ln.bK ms st,bt,bf,bd,l1,l2,l3,no⟩ by rw [E1.o,E2.o,E3.o]; rfl);obtain ⟨sm,ss,so⟩:=st;unfold mU at FZ;dsimp only at *;generalize Ln.bK ms ⟨sm,ss,so⟩=sa at *;generalize kW bl sm=q at *;have c0:wr.cell? ⟨P,0,none⟩=some (.int .i64 bt):=BP.o.cell 0;have c1:wr.cell? ⟨P,1,none⟩=some (.int .i64 bf):=BP.o.cell 1;have c2:wr.cell? ⟨P,2,none⟩=some (.int .i64 bd):=BP.o.cell 2;have c4:wr.cell? ⟨P,4,none⟩=some (.pointer q):=BP.o.cell 4
   have c5:wr.cell? ⟨P,5,none⟩=some (.int .i64 ss):=BP.o.cell 5;have c6:wr.cell? ⟨P,6,none⟩=some (.int .i64 so):=BP.o.cell 6;have c7:wr.cell? ⟨P,7,none⟩=some (.int .i64 no):=BP.o.cell 7;have KD:=hid (fun W2 (hq:wr.drew.grownBy W2 none)=>show W2.cell? ⟨P,0,none⟩=some (.int .i64 bt)/\W2.cell? ⟨P,1,none⟩=some (.int .i64 bf)/\W2.cell? ⟨P,2,none⟩=some (.int .i64 bd)/\W2.cell? ⟨P,4,none⟩=some (.pointer q)/\W2.cell? ⟨P,5,none⟩=some (.int .i64 ss)/\W2.cell? ⟨P,6,none⟩=some (.int .i64 so)/\W2.cell? ⟨P,7,none⟩=some (.int .i64 no) from (fun (b:ye W2 P _ 105)=>⟨b.cell 0,b.cell 1,b.cell 2,b.cell 4,b.cell 5,b.cell 6,b.cell 7⟩) ((uV BP.o).grown hq (by simp)))
   go_wp2
   go_region_held3 (fun w'=>w'.cell? ⟨P,0,none⟩=some (.int .i64 bt)/\w'.cell? ⟨P,1,none⟩=some (.int .i64 bf)/\w'.cell? ⟨P,2,none⟩=some (.int .i64 bd)/\w'.cell? ⟨P,4,none⟩=some (.pointer q)/\w'.cell? ⟨P,5,none⟩=some (.int .i64 ss)/\w'.cell? ⟨P,6,none⟩=some (.int .i64 so)/\w'.cell? ⟨P,7,none⟩=some (.int .i64 no))
    (go_keep)
    (first | (go_at_call 50; refine (FZ.o _ (yf HR.o.a.gr)).mono ?_; rintro e w' ⟨rfl,hq⟩; obtain ⟨s0,s1,s2,s4,s5,s6,s7⟩:=KD.o _ hq))
   have GA:=ya (ya (yf (World.grownBy.refl wr none)) hq) (aH w' (.cells #[.int .i64 sa,.int .i64 bt,.int .i64 bf,.int .i64 bd,.slice none 0 0,.slice none 0 0,.slice none 0 0,.int .i64 no] 117) none);have H6:=hid (HR.o.kept GA);have B6:=hid (ye.new w' #[.int .i64 sa,.int .i64 bt,.int .i64 bf,.int .i64 bd,.slice none 0 0,.slice none 0 0,.slice none 0 0,.int .i64 no] 117);have hI:=hid (show W.heap.size<=w'.heap.size from Nat.le_trans HR.o.a.gr.size (ya (yf (World.grownBy.refl wr none)) hq).size);clear GA hq HR KD BP c0 c1 c2 c4 c5 c6 c7 s0 s1 s2 s4 s5 s6 s7;generalize w'.alloc (.cells #[.int .i64 sa,.int .i64 bt,.int .i64 bf,.int .i64 bd,.slice none 0 0,.slice none 0 0,.slice none 0 0,.int .i64 no] 117)=W6 at *
   generalize w'.heap.size=I at *;obtain ⟨a1,k1,rfl⟩:=yj H6.o.a.row;obtain ⟨a2,k2,rfl⟩:=yj H6.o.b.row;obtain ⟨a3,k3,rfl⟩:=yj H6.o.c.row;have B7:=hid (show ye (W6.setCell ⟨I,4,none⟩ (.slice a1 l1.length k1)) I #[.int .i64 sa,.int .i64 bt,.int .i64 bf,.int .i64 bd,.slice a1 l1.length k1,.slice none 0 0,.slice none 0 0,.int .i64 no] 117 by simpa using B6.o.set 4 (.slice a1 l1.length k1));have H7:=hid (show jk W R1 R2 R3 bt 19 bf 19 bd 0 l1 l2 l3 _ _ _ (W6.setCell ⟨I,4,none⟩ (.slice a1 l1.length k1)) from H6.o.img B6.o hI.o);have B8:=hid (show ye ((W6.setCell ⟨I,4,none⟩ (.slice a1 l1.length k1)).setCell ⟨I,5,none⟩ (.slice a2 l2.length k2)) I #[.int .i64 sa,.int .i64 bt,.int .i64 bf,.int .i64 bd,.slice a1 l1.length k1,.slice a2 l2.length k2,.slice none 0 0,.int .i64 no] 117 by simpa using B7.o.set 5 (.slice a2 l2.length k2))
   have H8:=hid (show jk W R1 R2 R3 bt 19 bf 19 bd 0 l1 l2 l3 _ _ _ ((W6.setCell ⟨I,4,none⟩ (.slice a1 l1.length k1)).setCell ⟨I,5,none⟩ (.slice a2 l2.length k2)) from H7.o.img B7.o hI.o);have r1:W6.cell? ⟨R1,2,none⟩=some (.slice a1 l1.length k1):=H6.o.a.blk.cell 2;have i4:W6.cell? ⟨I,4,none⟩=some (.slice none 0 0):=B6.o.cell 4;have f4:W6.frozen? ⟨I,4,none⟩=false:=B6.o.free 4
   go_upto_region 13 with fail
   clear r1 i4 f4 H6 B6;generalize W6.setCell ⟨I,4,none⟩ (.slice a1 l1.length k1)=W7 at *;have r1:W7.cell? ⟨R2,2,none⟩=some (.slice a2 l2.length k2):=H7.o.b.blk.cell 2;have i4:W7.cell? ⟨I,5,none⟩=some (.slice none 0 0):=B7.o.cell 5;have f4:W7.frozen? ⟨I,5,none⟩=false:=B7.o.free 5
   go_upto_region 14 with fail
   clear r1 i4 f4 H7 B7;generalize W7.setCell ⟨I,5,none⟩ (.slice a2 l2.length k2)=W8 at *;have B9:=hid (show ye (W8.setCell ⟨I,6,none⟩ (.slice a3 l3.length k3)) I #[.int .i64 sa,.int .i64 bt,.int .i64 bf,.int .i64 bd,.slice a1 l1.length k1,.slice a2 l2.length k2,.slice a3 l3.length k3,.int .i64 no] 117 by simpa using B8.o.set 6 (.slice a3 l3.length k3));have H9:=hid (show jk W R1 R2 R3 bt 19 bf 19 bd 0 l1 l2 l3 _ _ _ (W8.setCell ⟨I,6,none⟩ (.slice a3 l3.length k3)) from H8.o.img B8.o hI.o);have r1:W8.cell? ⟨R3,2,none⟩=some (.slice a3 l3.length k3):=H8.o.c.blk.cell 2;have i4:W8.cell? ⟨I,6,none⟩=some (.slice none 0 0):=B8.o.cell 6
   have f4:W8.frozen? ⟨I,6,none⟩=false:=B8.o.free 6;go_wp2;clear r1 i4 f4 H8 B8;generalize W8.setCell ⟨I,6,none⟩ (.slice a3 l3.length k3)=W9 at *;go_ret;refine ⟨I,rfl,?_,H9.o.a.gr⟩;rw [FIN.o];exact ⟨_,_,_,B9.o,EJ H9.o.a.row,EJ H9.o.b.row,EJ H9.o.c.row⟩
namespace Ln
def dI (kind d:Int):Bool:=if kind=2 then decide (-4096<=d) && decide (d<=4095) else if kind=3 then decide (-1048576<=d) && decide (d<=1048575) else true
def eH (o:Lk.Obj) (i:Int):List UInt8:=if i < 0 then [] else match o.syms[i.toNat]? with
 | none=>[]
 | some y=>y.name
def bM (ms:List Mod) (m:Mod) (i:Nat):List Lk.Rel->Option nW
 | []=>none
 | r :: rs=>if dI r.kind (distance ms m r) then bM ms m i rs else some ⟨37,i,eH m.obj r.sym⟩
def jf (ms:List Mod):Nat->List Mod->nW
 | _,[]=>ok
 | i,m :: r=>match bM ms m i m.obj.aj with
  | some f=>f
  | none=>jf ms (i+1) r
def aQ (ms:List Mod):nW:=jf ms 0 ms
end Ln
theorem Xv (ms:List Ln.Mod) (m:Ln.Mod) (i:Nat) (rs:List Lk.Rel) (j:Nat) (h:j < rs.length):Ln.bM ms m i (rs.drop j)=if Ln.dI rs[j].kind (Ln.distance ms m rs[j]) then Ln.bM ms m i (rs.drop (j+1)) else some ⟨37,i,Ln.eH m.obj rs[j].sym⟩:=by
 rw [jg h];rfl
theorem Xu (ms l:List Ln.Mod) (k:Nat) (h:k < l.length):Ln.jf ms k (l.drop k)=match Ln.bM ms l[k] k l[k].obj.aj with
  | some f=>f
  | none=>Ln.jf ms (k+1) (l.drop (k+1)):=by
 rw [jg h];rfl
theorem ykn (kind d:Int) (w:World) :
  Calls Tryz.prog 86 #[.int .i64 kind,.int .i64 d] w fun e w'=>e = .returned (.bool (Ln.dI kind d))/\w'=w:=by
 have R:=hid (show Ln.dI kind d=if kind=2 then decide (-4096<=d) && decide (d<=4095) else if kind=3 then decide (-1048576<=d) && decide (d<=1048575) else true from rfl);by_cases e2:kind=2
 ·subst e2;by_cases a:-4096<=d
  ·have d1:decide (-4096<=d)=true:=by simpa using a
   have E:=hid (show Ln.dI 2 d=decide (d<=4095) by rw [R.o]; simp [a]);clear a;go_enter Tryz.func86,Tryz.ntmps86;go_wp2;go_ret;exact ⟨by rw [E.o]; rfl,rfl⟩
  ·have d1:decide (-4096<=d)=false:=by simpa using a
   have E:=hid (show Ln.dI 2 d=false by rw [R.o]; simp [a]);clear a;go_enter Tryz.func86,Tryz.ntmps86;go_wp2;go_ret;exact ⟨by rw [E.o]; rfl,rfl⟩
 ·by_cases e3:kind=3
  ·subst e3;clear e2;by_cases a:-1048576<=d
   ·have d1:decide (-1048576<=d)=true:=by simpa using a
    have E:=hid (show Ln.dI 3 d=decide (d<=1048575) by rw [R.o]; simp [a]);clear a;go_enter Tryz.func86,Tryz.ntmps86;go_wp2;go_ret;exact ⟨by rw [E.o]; rfl,rfl⟩
   ·have d1:decide (-1048576<=d)=false:=by simpa using a
    have E:=hid (show Ln.dI 3 d=false by rw [R.o]; simp [a]);clear a;go_enter Tryz.func86,Tryz.ntmps86;go_wp2;go_ret;exact ⟨by rw [E.o]; rfl,rfl⟩
  ·have E:=hid (show Ln.dI kind d=true by rw [R.o,if_neg e2,if_neg e3]);have d2:(kind == 2)=false:=by simpa using e2
   have d3:(kind == 3)=false:=by simpa using e3
   clear e2 e3;go_enter Tryz.func86,Tryz.ntmps86;go_wp2;go_ret;exact ⟨by rw [E.o]; rfl,rfl⟩
theorem yhN (bl:List Nat) (b g:Nat) (m:Ln.Mod) (i:Int) (w:World) (h:yN w bl b g m) (hs:m.obj.syms.length<=65535) :
  Calls Tryz.prog 87 #[aP b,.int .i64 i] w fun e w'=>e = .returned (.string (bs (Ln.eH m.obj i)))/\w'=w:=by
 obtain ⟨v1,v2,v3,v4,q0,q1,-⟩:=h;obtain ⟨at_,ct,af,cf,ad,cd,aa,ca,gF,cs,ar,cr,hb,-,-,-,-,p5,-⟩:=q1.open;have S:=yI.aB p5;have k5:=hb.cell 5;simp only [dH,dL,dK] at k5;have k0:w.cell? ⟨b,0,none⟩=some (.pointer (some ⟨g,0,none⟩)):=q0.cell 0;clear q0 q1 hb p5;have R:=hid (show Ln.eH m.obj i=if i < 0 then [] else match m.obj.syms[i.toNat]? with
  | none=>[]
  | some y=>y.name from rfl)
 generalize m.obj.syms=ys at *;unfold aP;by_cases h0:i < 0
 ·have d0:decide (i < 0)=true:=by simpa using h0
  have E:=hid (show Ln.eH m.obj i=[] by rw [R.o,if_pos h0]);clear h0;go_enter Tryz.func87,Tryz.ntmps87;go_wp2;go_ret;exact ⟨by rw [E.o]; rfl,rfl⟩
 ·obtain ⟨k,rfl⟩:∃ k:Nat,i=(k:Int):=⟨i.toNat,by omega⟩
  have d0:decide ((k:Int) < 0)=false:=by simp
  clear h0;by_cases hlt:k < ys.length
  ·have d1:decide ((ys.length:Int)<=(k:Int))=false:=by simp; omega
   obtain ⟨sg,hsg,hgs,hcs⟩:=S (by omega);subst hsg;obtain ⟨q0,q1,q2,q3⟩:=hcs k hlt;clear hcs;have E:=hid (show Ln.eH m.obj k=ys[k].name by rw [R.o,if_neg (by omega),Int.toNat_natCast,gy hlt]);generalize ys[k]=y at *;go_enter Tryz.func87,Tryz.ntmps87;go_wp2;go_ret;exact ⟨by rw [E.o]; rfl,rfl⟩
  ·have d1:decide ((ys.length:Int)<=(k:Int))=true:=by simp; omega
   have E:=hid (show Ln.eH m.obj k=[] by rw [R.o,if_neg (by omega),Int.toNat_natCast,List.getElem?_eq_none (by omega)]);go_enter Tryz.func87,Tryz.ntmps87;go_wp2;go_ret;exact ⟨by rw [E.o]; rfl,rfl⟩
theorem yhA (W0:World) (P:Nat) (bt bf bd:Int) (vm:Value) (bl gl:List Nat) (ms:List Ln.Mod) (st:Ln.fQ) (no:Int) (W:World) (h:ProgAt W0 P bt bf bd vm bl gl ms st no W) (hn:∀ m∈ms,yO bl.length m) :
  Calls Tryz.prog 52 #[aP P] W fun e W'=>e = .returned (bJ (Ln.aQ ms))/\W.grownBy W' none:=by
 obtain ⟨am,cm,rfl⟩:=yj h.row;have HP:=hid h;have c3:W.cell? ⟨P,3,none⟩=some (.slice am bl.length cm):=h.blk.cell 3;have hbl:=h.few;have LO:=hid h.fT;have HN:=hid hn;have G0:=hid (aH W (.cells #[.int .i64 0,.int .i64 0,.string ⟨#[]⟩] 32) none);have B0:=hid (ye.new W #[.int .i64 0,.int .i64 0,.string ⟨#[]⟩] 32);have c3':=yc c3 G0.o;clear h hn c3;unfold aP;go_enter Tryz.func52,Tryz.ntmps52;go_wp2;generalize W.alloc (.cells #[.int .i64 0,.int .i64 0,.string ⟨#[]⟩] 32)=W1 at *;clear c3'
 go_loopw [12] (fun i wr=>∃ k:Nat,k<=bl.length/\i = .int .i64 k/\Ln.aQ ms=Ln.jf ms k (ms.drop k)/\W1.grownBy wr none) (fun i _=>bl.length - (intOf i).toNat)
 case atStart=>exact ⟨0,Nat.zero_le _,rfl,rfl,World.grownBy.refl _ _⟩
 case round =>
  obtain ⟨k,hk,rfl,hf,hgr⟩:=hrel;have HF:=hid hf;have HG:=hid hgr;clear hf hgr;by_cases hlt:k < bl.length
  ·have hko:k < ms.length:=by rw [LO.o]; exact hlt
   have hkg:k < gl.length:=by rw [HP.o.gX]; exact hlt
   have PR:=HP.o.kept (ya G0.o HG.o);obtain ⟨sg,off,hsg,hsc⟩:=PR.iA.ptrs (by omega);have ck:=hsc k hlt;have HM:yN wr bl bl[k] (gl[k]'hkg) ms[k]:=PR.mods k hlt;have MN:=HN.o _ (dM hko);have MA:=hid (PR.uF HN.o);have TR:=hid HM;obtain ⟨v1,v2,v3,v4,q0,q1,-⟩:=HM;obtain ⟨at_,ct,af,cf,ad,cd,aa,ca,gF,cs,ar,cr,hb,-,-,-,-,-,p6⟩:=q1.open;have S:=hid (lX.aB p6);have k6:=hb.cell 6;simp only [dH,dL,dK] at k6;have k0:wr.cell? ⟨bl[k],0,none⟩=some (.pointer (some ⟨gl[k]'hkg,0,none⟩)):=q0.cell 0;have hrl:=MN.aj.1;have hsy:=HP.o.syms _ (dM hko);have FD:=hid (Xu ms ms k hko);have cD:=hid (fun W2 (hg:wr.grownBy W2 none) r (hr:r∈ms[k].obj.aj)=>Ma bl ms bl[k] (gl[k]'hkg) ms[k] r W2 (MA.o.kept hg) (TR.o.kept hg) MN (MN.aj.2 r hr).2.1 (MN.aj.2 r hr).2.2)
   have cS:=hid (fun W2 (hg:wr.grownBy W2 none) i=>yhN bl bl[k] (gl[k]'hkg) ms[k] i W2 (TR.o.kept hg) hsy);subst hsg;clear hsc q0 q1 hb p6 PR MN hsy;generalize (gl[k]'hkg)=gk at *;generalize bl[k]=bk at *;generalize ms[k]=m at *;have g1:(k:Int) < (bl.length:Int):=by omega
   unfold aP bY at *;go_wp2;generalize wr=U at *;clear ck k0 k6
   go_loopw [25] (fun i wr=>∃ j:Nat,j<=m.obj.aj.length/\i = .int .i64 j/\Ln.bM ms m k m.obj.aj=Ln.bM ms m k (m.obj.aj.drop j)/\U.grownBy wr none) (fun i _=>m.obj.aj.length - (intOf i).toNat)
   case atStart=>exact ⟨0,Nat.zero_le _,rfl,rfl,World.grownBy.refl _ _⟩
   case round =>
    obtain ⟨j,hj,rfl,hf2,dN⟩:=hrel;have iq:=hid hf2;have HG2:=hid dN;clear hf2 dN;by_cases hlt2:j < m.obj.aj.length
    ·obtain ⟨sg2,zN,hgs,hcs⟩:=S.o.grown HG2.o (by omega);subst zN;obtain ⟨q0,q1,q2,q3,q4⟩:=hcs j hlt2;clear hcs;have g2:(j:Int) < (m.obj.aj.length:Int):=by omega
     have FI:=hid (show Ln.bM ms m k m.obj.aj=_ from iq.o.trans (Xv ms m k m.obj.aj j hlt2));have cE:=hid (fun W2 hg=>cD.o W2 hg m.obj.aj[j] (dM hlt2));have hn2:m.obj.aj.length=m.obj.aj.length:=rfl;generalize m.obj.aj[j]=r at *;have BX:=hid (ye.new wr #[.int .i64 r.ah,.int .i64 r.off,.int .i64 r.kind,.int .i64 r.sym,.int .i64 r.addend] 83);have GA:=hid (aH wr (.cells #[.int .i64 r.ah,.int .i64 r.off,.int .i64 r.kind,.int .i64 r.sym,.int .i64 r.addend] 83) none);have GW:=hid (ya HG2.o GA.o);have Vt:=hid (fun d W2=>ykn r.kind d W2);generalize Ln.distance ms m r=ds at *
     go_upto_region 7 with fail
     clear q0 q1 q2 q3 q4;generalize wr.alloc (.cells #[.int .i64 r.ah,.int .i64 r.off,.int .i64 r.kind,.int .i64 r.sym,.int .i64 r.addend] 83)=W2 at *;generalize wr.heap.size=L at *;have c0:W2.cell? ⟨L,0,none⟩=some (.int .i64 r.ah):=BX.o.cell 0;have c1:W2.cell? ⟨L,1,none⟩=some (.int .i64 r.off):=BX.o.cell 1;have c2:W2.cell? ⟨L,2,none⟩=some (.int .i64 r.kind):=BX.o.cell 2;have c3:W2.cell? ⟨L,3,none⟩=some (.int .i64 r.sym):=BX.o.cell 3;have c4:W2.cell? ⟨L,4,none⟩=some (.int .i64 r.addend):=BX.o.cell 4;have BD:=hid (fun W (hq:W2.drew.grownBy W none)=>show ye W L #[.int .i64 r.ah,.int .i64 r.off,.int .i64 r.kind,.int .i64 r.sym,.int .i64 r.addend] 83 from (uV BX.o).grown hq (by simp))
     go_region_held3 (fun w'=>w'.cell? ⟨L,0,none⟩=some (.int .i64 r.ah)/\w'.cell? ⟨L,1,none⟩=some (.int .i64 r.off)/\w'.cell? ⟨L,2,none⟩=some (.int .i64 r.kind)/\w'.cell? ⟨L,3,none⟩=some (.int .i64 r.sym)/\w'.cell? ⟨L,4,none⟩=some (.int .i64 r.addend))
      (go_keep)
      (first | (go_at_call 80; refine (cE.o _ (yf GW.o)).mono ?_; rintro e w' ⟨rfl,hq⟩; have bq:=BD.o _ hq; have s0:=bq.cell 0; have s1:=bq.cell 1; have s2:=bq.cell 2; have s3:=bq.cell 3; have s4:=bq.cell 4; simp only [dH,dL,dK] at s0 s1 s2 s3 s4) | (go_at_call 86; refine (Vt.o _ _).mono ?_; rintro e w2 ⟨rfl,hw⟩; rw [hw]; clear hw w2))
     have GQ:=hid (ya (yf GW.o) hq);have BQ:=hid bq;clear hq bq c0 c1 c2 c3 c4 s0 s1 s2 s3 s4 cE Vt GA;generalize hrb:Ln.dI r.kind ds=rb at *;have HRB:=hid hrb;clear hrb
     cases rb
     ·have E:=hid (show Ln.aQ ms=⟨37,k,Ln.eH m.obj r.sym⟩ by rw [HF.o,FD.o,FI.o]; rfl);have BR:=hid (B0.o.grown (ya HG.o GQ.o) (by simp));have Vv:=hid (cS.o _ GQ.o r.sym);generalize Ln.eH m.obj r.sym=nm at *;have c3:w'.cell? ⟨L,3,none⟩=some (.int .i64 r.sym):=BQ.o.cell 3;have z0:w'.cell? ⟨W.heap.size,0,none⟩=some (.int .i64 0):=BR.o.cell 0;have z1:w'.cell? ⟨W.heap.size,1,none⟩=some (.int .i64 0):=BR.o.cell 1;have z2:w'.cell? ⟨W.heap.size,2,none⟩=some (.string ⟨#[]⟩):=BR.o.cell 2;have f0:=BR.o.free 0;have f1:=BR.o.free 1;have f2:=BR.o.free 2;go_wp2_with fail;refine Vv.o.mono ?_;rintro e w2 ⟨rfl,hw⟩
      rw [hw];clear hw w2 Vv c3;go_wp2;have F:=((BR.o.set 0 (.int .i64 37)).set 1 (.int .i64 k)).set 2 (.string (bs nm));have h0:=F.cell 0;have h1:=F.cell 1;have h2:=F.cell 2;simp only [fu,fC,eX,dH,dL,dK] at h0 h1 h2;refine bodyPost_ret (v:=bJ ⟨37,k,nm⟩) ?_ rfl ⟨by rw [E.o],yx (ya G0.o (ya HG.o GQ.o)) _ (Nat.le_refl _) _ _ _⟩;clear F z0 z1 z2 f0 f1 f2;generalize World.setCell _ _ _=WF at *;simp [results,Tryz.results52,go_sem,bJ,h0,h1,h2]
     ·have E:=hid (show Ln.bM ms m k m.obj.aj=Ln.bM ms m k (m.obj.aj.drop (j+1)) from FI.o);go_wp2
      go_roundw
      case rel=>exact ⟨j+1,by omega,by go_num,E.o,GQ.o⟩
      case measure=>simp [intOf]; omega
    ·obtain rfl:j=m.obj.aj.length:=by omega
     have E:=hid (show Ln.bM ms m k m.obj.aj=none by rw [iq.o,List.drop_length]; rfl);have g3:decide ((m.obj.aj.length:Int) < (m.obj.aj.length:Int))=false:=by simp
     go_wp2
     go_roundw
     case rel=>exact ⟨k+1,by omega,by go_num,by rw [HF.o,FD.o,E.o],ya HG.o HG2.o⟩
     case measure=>simp [intOf]; omega
  ·obtain rfl:k=bl.length:=by omega
   have E:=hid (show Ln.aQ ms=Ln.ok by rw [HF.o,<- LO.o,List.drop_length]; rfl);have g3:decide ((bl.length:Int) < (bl.length:Int))=false:=by simp
   have BR:=hid (B0.o.grown HG.o (by simp));have z0:wr.cell? ⟨W.heap.size,0,none⟩=some (.int .i64 0):=BR.o.cell 0;have z1:wr.cell? ⟨W.heap.size,1,none⟩=some (.int .i64 0):=BR.o.cell 1;have z2:wr.cell? ⟨W.heap.size,2,none⟩=some (.string ⟨#[]⟩):=BR.o.cell 2;have f0:=BR.o.free 0;have f1:=BR.o.free 1;have f2:=BR.o.free 2;go_wp2;have F:=((BR.o.set 0 (.int .i64 0)).set 1 (.int .i64 0)).set 2 (.string ⟨#[]⟩);have h0:=F.cell 0;have h1:=F.cell 1;have h2:=F.cell 2;simp only [fu,fC,eX,dH,dL,dK] at h0 h1 h2;refine bodyPost_ret (v:=bJ Ln.ok) ?_ rfl ⟨by rw [E.o],yx (ya G0.o HG.o) _ (Nat.le_refl _) _ _ _⟩;clear F z0 z1 z2 f0 f1 f2
   generalize World.setCell _ _ _=WF at *;simp [results,Tryz.results52,go_sem,bJ,Ln.ok,bs,h0,h1,h2]
namespace Im
def mH (m:lC):Int:=m.text+4 * (m.T.length:Int)
def mG (m:lC):Int:=m.far+4 * (m.F.length:Int)
def mF (m:lC):Int:=m.data+4 * ((m.D.length:Int)+m.noughts)
def Fits (m:lC):Prop:=(mH m<=1073741824/\mG m<=1073741824/\mF m<=1073741824)/\(¬ gG m.text (mH m) m.far (mG m)/\¬ gG m.text (mH m) m.data (mF m)/\¬ gG m.far (mG m) m.data (mF m))
end Im
def ku (a b:Int):Array Value:=#[.int .i64 a,.int .i64 b]
theorem xR (w:World) (a b:Int):ye ((w.alloc (.cells (ku a b) 157)).alloc (.cells (ku a b) 157)).drew w.heap.size (ku a b) 157 /\
  ye ((w.alloc (.cells (ku a b) 157)).alloc (.cells (ku a b) 157)).drew (w.heap.size+1) (ku a b) 157/\w.grownBy ((w.alloc (.cells (ku a b) 157)).alloc (.cells (ku a b) 157)).drew none:=by
 have b1:=ye.new w (ku a b) 157;have b2:=ye.new (w.alloc (.cells (ku a b) 157)) (ku a b) 157;rw [show (w.alloc (.cells (ku a b) 157)).heap.size=w.heap.size+1 from Array.size_push _] at b2;exact ⟨(b1.grown (aH _ _ none) (by simp)).drewN 1,b2.drewN 1,yf (ya (aH _ _ none) (aH _ _ none))⟩
theorem yhK (g:Nat) (m:Im.lC) (w:World) (h:tO w g m) (ht:Im.pq m) :
  Calls Tryz.prog 51 #[.pointer (some ⟨g,0,none⟩)] w fun e w'=>yg e (Im.Fits m)/\w.grownBy w' none:=by
 obtain ⟨at_,ct,af,cf,ad,cd,hb,q1,q2,q3⟩:=h.open;have HB:=hid hb;have hl:=ht.lens;have hn:=ht.noughts;have r1:=ht.text;have r2:=ht.far;have r3:=ht.data;have cT:=hid (fun W=>QF m.text m.T.length W ht.text.1 ht.text.2 (by omega) (by omega));have cF:=hid (fun W=>QF m.far m.F.length W ht.far.1 ht.far.2 (by omega) (by omega));have cD:=hid (fun W=>QF m.data (m.D.length+m.noughts) W ht.data.1 ht.data.2 (by omega) (by omega));have F0:=hid (show Im.Fits m↔(Im.mH m<=1073741824/\Im.mG m<=1073741824/\Im.mF m<=1073741824)/\(¬ Im.gG m.text (Im.mH m) m.far (Im.mG m)/\¬ Im.gG m.text (Im.mH m) m.data (Im.mF m)/\¬ Im.gG m.far (Im.mG m) m.data (Im.mF m)) from Iff.rfl)
 generalize Im.Fits m=Q at *;have ww:IntKind.i64.wrap ((m.D.length:Int)+m.noughts)=(m.D.length:Int)+m.noughts:=IntWalk.i64_in _ ⟨by omega,by omega⟩;clear h ht hb q1 q2 q3;have k1:=HB.o.cell 1;have k4:=HB.o.cell 4;simp only [dH,dL,dK] at k1 k4;have hlt:=HB.o.lt;have hne:g≠w.heap.size:=by omega
 go_enter Tryz.func51,Tryz.ntmps51
 go_upto_region 1 with fail
 go_cut [3] from 6 to 16 (fun v wx=>∃ r,v = .pointer (some ⟨r,0,none⟩)/\ye wx r (ku m.text (Im.mH m)) 157/\w.grownBy wx none)
 case first =>
  go_region_with (go_at_call 84; refine (cT.o _).mono ?_; rintro e w' ⟨rfl,rfl⟩)
  all_goals (go_wp2_with fail; go_meet; first | exact ⟨w.heap.size,rfl,(xR w m.text (Im.mH m)).1,(xR w m.text (Im.mH m)).2.2⟩ | exact ⟨w.heap.size+1,rfl,(xR w m.text (Im.mH m)).2.1,(xR w m.text (Im.mH m)).2.2⟩)
 case rest =>
 obtain ⟨ra,rfl,b1,g1⟩:=hcut;clear k1 k4 hlt hne cT;generalize wc=W1 at *;have HB1:=hid (HB.o.grown g1 (by simp));have P1:=hid b1;have G1:=hid g1;clear b1 g1 HB;have k2:=HB1.o.cell 2;have k5:=HB1.o.cell 5;simp only [dH,dL,dK] at k2 k5;have hlt:=HB1.o.lt;have hne:g≠W1.heap.size:=by omega
 go_upto_region 2 with fail
 go_cut [4] from 17 to 27 (fun v wx=>∃ r,v = .pointer (some ⟨r,0,none⟩)/\ye wx r (ku m.far (Im.mG m)) 157/\W1.grownBy wx none)
 case first =>
  go_region_with (go_at_call 84; refine (cF.o _).mono ?_; rintro e w' ⟨rfl,rfl⟩)
  all_goals (go_wp2_with fail; go_meet; first | exact ⟨W1.heap.size,rfl,(xR W1 m.far (Im.mG m)).1,(xR W1 m.far (Im.mG m)).2.2⟩ | exact ⟨W1.heap.size+1,rfl,(xR W1 m.far (Im.mG m)).2.1,(xR W1 m.far (Im.mG m)).2.2⟩)
 case rest =>
 obtain ⟨rb,rfl,b1,g1⟩:=hcut;clear k2 k5 hlt hne cF;generalize wc=W2 at *;have HB2:=hid (HB1.o.grown g1 (by simp));have UH:=hid (P1.o.grown g1 (by simp));have P2:=hid b1;have G2:=hid (ya G1.o g1);clear b1 g1 HB1 P1 G1;have k3:=HB2.o.cell 3;have k6:=HB2.o.cell 6;have k7:=HB2.o.cell 7;simp only [dH,dL,dK] at k3 k6 k7;have hlt:=HB2.o.lt;have hne:g≠W2.heap.size:=by omega
 go_upto_region 3 with fail
 go_cut [5] from 28 to 43 (fun v wx=>∃ r,v = .pointer (some ⟨r,0,none⟩)/\ye wx r (ku m.data (Im.mF m)) 157/\W2.grownBy wx none)
 case first =>
  go_region_with (go_at_call 84; refine (cD.o _).mono ?_; rintro e w' ⟨rfl,rfl⟩)
  all_goals (go_wp2_with fail; go_meet; first | exact ⟨W2.heap.size,rfl,(xR W2 m.data (Im.mF m)).1,(xR W2 m.data (Im.mF m)).2.2⟩ | exact ⟨W2.heap.size+1,rfl,(xR W2 m.data (Im.mF m)).2.1,(xR W2 m.data (Im.mF m)).2.2⟩)
 case rest =>
 obtain ⟨rc,rfl,b1,g1⟩:=hcut;clear k3 k6 k7 hlt hne cD;generalize wc=W3 at *;have B1:=hid (UH.o.grown g1 (by simp));have B2:=hid (P2.o.grown g1 (by simp));have B3:=hid b1;have G:=hid (ya G2.o g1);clear b1 g1 HB2 UH P2 G2;generalize Im.mH m=eT at *;generalize Im.mG m=eF at *;generalize Im.mF m=eD at *;have a0:=B1.o.cell 0;have a1:=B1.o.cell 1;have c0:=B2.o.cell 0;have c1:=B2.o.cell 1;have d0:=B3.o.cell 0;have d1:=B3.o.cell 1;simp only [ku,dH,dL,dK] at a0 a1 c0 c1 d0 d1;by_cases z1:1073741824 < eT
 ·have e1:decide (1073741824 < eT)=true:=by simpa using z1
  have N:=hid (show ¬ Q from fun q=>by have:=(F0.o.1 q).1.1; omega);clear z1;go_wp2;go_ret;exact ⟨yg.no N.o,G.o⟩
 ·have e1:decide (1073741824 < eT)=false:=by simpa using z1
  by_cases z2:1073741824 < eF
  ·have e2:decide (1073741824 < eF)=true:=by simpa using z2
   have N:=hid (show ¬ Q from fun q=>by have:=(F0.o.1 q).1.2.1; omega);clear z1 z2;go_wp2;go_ret;exact ⟨yg.no N.o,G.o⟩
  ·have e2:decide (1073741824 < eF)=false:=by simpa using z2
   by_cases z3:1073741824 < eD
   ·have e3:decide (1073741824 < eD)=true:=by simpa using z3
    have N:=hid (show ¬ Q from fun q=>by have:=(F0.o.1 q).1.2.2; omega);clear z1 z2 z3;go_wp2;go_ret;exact ⟨yg.no N.o,G.o⟩
   ·have e3:decide (1073741824 < eD)=false:=by simpa using z3
    have LE:=hid (show eT<=1073741824/\eF<=1073741824/\eD<=1073741824 by omega);clear z1 z2 z3;go_wp2_with fail;refine (RY m.text eT m.far eF W3).mono ?_;rintro e V1 ⟨t1,h1⟩;have G1:=hid (ya G.o h1);replace a0:=yc a0 h1;replace a1:=yc a1 h1;replace c0:=yc c0 h1;replace c1:=yc c1 h1;replace d0:=yc d0 h1;replace d1:=yc d1 h1;rcases t1.split with ⟨rfl,p1⟩ | ⟨rfl,p1⟩ <;> clear t1 h1
    ·go_wp2_with fail;refine (RY m.text eT m.data eD V1).mono ?_;rintro e V2 ⟨t2,h2⟩;have G2:=hid (ya G1.o h2);replace a0:=yc a0 h2;replace a1:=yc a1 h2;replace c0:=yc c0 h2;replace c1:=yc c1 h2;replace d0:=yc d0 h2;replace d1:=yc d1 h2;rcases t2.split with ⟨rfl,p2⟩ | ⟨rfl,p2⟩ <;> clear t2 h2
     ·go_wp2_with fail;refine (RY m.far eF m.data eD V2).mono ?_;rintro e V3 ⟨t3,h3⟩;have G3:=hid (ya G2.o h3);rcases t3.split with ⟨rfl,p3⟩ | ⟨rfl,p3⟩ <;> clear t3 h3
      ·go_wp2;go_ret;exact ⟨yg.yes (F0.o.2 ⟨LE.o,p1.o,p2.o,p3.o⟩),G3.o⟩
      ·go_wp2;go_ret;exact ⟨yg.no fun q=>(F0.o.1 q).2.2.2 p3.o,G3.o⟩
     ·go_wp2;go_ret;exact ⟨yg.no fun q=>(F0.o.1 q).2.2.1 p2.o,G2.o⟩
    ·go_wp2;go_ret;exact ⟨yg.no fun q=>(F0.o.1 q).2.1 p1.o,G1.o⟩
end Go.Proofs.YtelehpmjhjljgaaGreatDoor
