
import Derived.Test.YtnkkepfcpjllmaaGreatDoorU16
set_option maxHeartbeats 16000000
set_option maxRecDepth 100000
namespace Go.Proofs.YtnkkepfcpjllmaaGreatDoor
open Go.RowKit
theorem Mo.obj {B m g:Nat} {ao:Option Addr} {cap:Nat} {L:List Rf.Tk} {d:Rf.Ds} {W:World} {vq vt vf vd va vs vr:Value} (h:Mo B m g ao cap L d W vq vt vf vd va vs vr):yw W g d.obj :=
 ⟨vt,vf,vd,va,vs,vr,h.own.blk,Bz h.own.text,Bz h.own.far,Bz h.own.data,Bz h.own.align,Bz h.own.syms,Bz h.own.aj⟩
def mJ (d:Rf.Ds):List Int:=if d.ah=1 then d.obj.text else if d.ah=2 then d.obj.far else if d.ah=3 then d.obj.data else List.replicate d.obj.bss.toNat 0
theorem UH (d:Rf.Ds) (h:Ch d) (hs:1<=d.ah/\d.ah<=4):((mJ d).length:Int)=As.aA d.obj d.ah/\(mJ d).length<=1200:=by
 obtain ⟨h1,h2,h3,h4,-⟩:=h;unfold mJ As.aA;rcases (show d.ah=1\/d.ah=2\/d.ah=3\/d.ah=4 by omega) with e | e | e | e <;> simp [e] <;> omega
theorem Qe (g:Nat) (o:Lk.Obj) (w:World) (h:yw w g o) (hz:0<=o.bss/\o.bss<=64) :
  Calls Tryz.prog 15 #[.pointer (some ⟨g,0,none⟩)] w fun e w'=>∃ B at_ ct af cf ad cd Z,e = .returned (.slice (some ⟨B,0,none⟩) 5 5)/\yd w' B #[.slice none 0 0,.slice at_ o.text.length ct,.slice af o.far.length cf,.slice ad o.data.length cd,.slice (some ⟨Z,0,none⟩) o.bss.toNat o.bss.toNat] 36/\yE w' at_ ct o.text/\yE w' af cf o.far/\yE w' ad cd o.data/\yE w' (some ⟨Z,0,none⟩) o.bss.toNat (List.replicate o.bss.toNat 0)/\w.grownBy w' none:=by
 obtain ⟨i0,hi,hz0,hz1,hz2⟩:=info_parts Tryz.iC;obtain ⟨at_,ct,af,cf,ad,cd,aa,ca,gu,cs,ar,cr,hb,h1,h2,h3,-⟩:=h.open;have k3:=hb.cell 3;have HB:=hid hb;have I1:=hid (yE.aF h1);have I2:=hid (yE.aF h2);have I3:=hid (yE.aF h3);clear h hb h1 h2 h3;obtain ⟨n,hn⟩:=Int.eq_ofNat_of_zero_le hz.1;have HN:=hid hn;have Ry:n<=64:=by omega
 rw [hn] at k3;clear hn hz;go_enter Tryz.func15,Tryz.ntmps15;go_wp2_with (first | (refine wpList_make_full _ rfl _ _ 36 rfl w.heap.size 3 i0 (.int .i64 0) 1 Tryz.underlying36 hi hz0 hz1 .i64 .i64 (n:Int) (n:Int) n rfl rfl rfl rfl (by rw [hz2]; omega) (by unfold maxLen; omega) (Nat.le_refl _) ?_; intro w1 hown hgrow))
 have HO:=hid hown;have HG:=hid hgrow;have hb1:=HB.o.grown hgrow (by simp);have c0:=hb1.cell 0;have c1:=hb1.cell 1;have c2:=hb1.cell 2;clear hown hgrow hb1 k3;go_wp2
 go_region
 go_wp2;go_ret;have G2:=yg (aW w1 (.cells #[.slice none 0 0,.slice at_ o.text.length ct,.slice af o.far.length cf,.slice ad o.data.length cd,.slice (some ⟨w.heap.size,0,none⟩) n n] 36) none);have e:o.bss.toNat=n:=by rw [HN.o]; simp
 have G3:=ya HG.o G2;refine ⟨w1.heap.size,at_,ct,af,cf,ad,cd,w.heap.size,rfl,?_,I1.o.grown G3,I2.o.grown G3,I3.o.grown G3,?_,G3⟩
 ·rw [e];exact yd.new w1 _ _
 ·rw [e];have hz:yE w1 (some ⟨w.heap.size,0,none⟩) n (List.replicate n 0):=by
   refine yE.aF (base:=w.heap.size) (n:=n) (cap:=n) (ws:=List.replicate n 0) ?_;have h:=HO.o;have e2:(madeCells (Value.int .i64 0).cells (n * 1)).toList=(List.replicate n (0:Int)).map (Value.int .i64):=by
    rw [Nat.mul_one];show (madeCells #[Value.int .i64 0] n).toList=_;rw [toList_madeCells_one];simp
   rw [e2] at h;exact h
  exact hz.grown G2
theorem Xh (B m g:Nat) (ao:Option Addr) (cap:Nat) (L:List Rf.Tk) (d:Rf.Ds) (W:World) (h:rJ B m g ao cap L d W) :
  Calls Tryz.prog 51 #[.pointer (some ⟨m,0,none⟩)] W fun e W'=>(∃ eP cap',e = .returned (.slice eP (mJ d).length cap')/\yE W' eP cap' (mJ d))/\W.grownBy W' none:=by
 obtain ⟨vq,vt,vf,vd,va,vs,vr,h⟩:=h;have cS:=hid (Qe g d.obj W h.obj h.sz.bss);have H:=hid h;have c0:=yp h.md 0;have c2:=yp h.md 2;simp only [yr,bB,yml,bf] at c0 c2;have hs:=h.md.ok.ah;clear h;go_enter Tryz.func51,Tryz.ntmps51;go_wp2_with fail;refine cS.o.mono ?_;rintro e V1 ⟨Bs,at_,ct,af,cf,ad,cd,Z,rfl,hS,w1,w2,w3,w4,hg⟩;have G:=hid hg;have W1:=hid w1;have W2:=hid w2;have W3:=hid w3;have W4:=hid w4;have k2:=yb c2 hg;clear hg c0 c2 cS w1 w2 w3 w4;rcases (show d.ah=1\/d.ah=2\/d.ah=3\/d.ah=4 by omega) with e | e | e | e
 ·have eW:=hid (show mJ d=d.obj.text by unfold mJ; simp [e]);have q:=hS.cell 1;simp only [bB,yml,bf] at q;rw [e] at k2;clear hS e hs;go_wp2;go_ret;rw [eW.o];exact ⟨⟨at_,ct,rfl,W1.o⟩,G.o⟩
 ·have eW:=hid (show mJ d=d.obj.far by unfold mJ; simp [e]);have q:=hS.cell 2;simp only [bB,yml,bf] at q;rw [e] at k2;clear hS e hs;go_wp2;go_ret;rw [eW.o];exact ⟨⟨af,cf,rfl,W2.o⟩,G.o⟩
 ·have eW:=hid (show mJ d=d.obj.data by unfold mJ; simp [e]);have q:=hS.cell 3;simp only [bB,yml,bf] at q;rw [e] at k2;clear hS e hs;go_wp2;go_ret;rw [eW.o];exact ⟨⟨ad,cd,rfl,W3.o⟩,G.o⟩
 ·have eW:=hid (show mJ d=List.replicate d.obj.bss.toNat 0 by unfold mJ; simp [e]);have q:=hS.cell 4;simp only [bB,yml,bf] at q;rw [e] at k2;clear hS e hs;go_wp2;go_ret;rw [eW.o];exact ⟨⟨some ⟨Z,0,none⟩,d.obj.bss.toNat,by rw [List.length_replicate]; rfl,W4.o⟩,G.o⟩
section
variable {B m g:Nat} {ao:Option Addr} {cap:Nat} {L:List Rf.Tk} {d:Rf.Ds} {W V W' w3:World} {vq vt vf vd va vs vr v v':Value} {ts:List TypeId}
theorem Mo.newObj {o':Lk.Obj} {Wm VW VU VT vs' VY:Value} (h:Mo B m g ao cap L d V vq vt vf vd va vs vr) (kp:yG ts V W') (hts:46 ∉ ts/\4 ∉ ts/\69 ∉ ts) (bl:Below B V W') (ho:qD B W' m g o' Wm VW VU VT vs' VY) (hz:Ch { d with obj:=o' }):Mo B m g ao cap L { d with obj:=o' } W' vq Wm VW VU VT vs' VY:=by
 have tk:=Uo h.md.toks h.tb kp hts.2.2;exact ⟨⟨kp _ _ _ hts.1 h.md.blk,tk.1,h.md.ne,⟨h.md.ok.k,h.md.ok.len,h.md.ok.toks,h.md.ok.fe,h.md.ok.fa,h.md.ok.op,h.md.ok.ah⟩⟩,tk.2,yh h.said kp hts.2.1,ho,h.lo,hz,Ow h.tabs bl h.lo.1⟩
theorem Mo.Ke {ob:Obj} (h:Mo B m g ao cap L d W vq vt vf vd va vs vr) (ys:List Lk.Rel) (hl:ys.length<=32) (hown:w3.ownsRow B 54 5 v' ys.length (ys.flatMap dK)) (hg:(W.alloc ob).grownBy w3 vr.ownBlock) :
  yG [54] W w3/\yd w3 g #[vt,vf,vd,.int .i64 d.obj.bss,va,vs,vr] 40/\yG [54,40] W (w3.setCell ⟨g,6,none⟩ v')/\Below B W (w3.setCell ⟨g,6,none⟩ v')/\Mo B m g ao cap L { d with obj:={ d.obj with aj:=ys } } (w3.setCell ⟨g,6,none⟩ v') vq vt vf vd va vs v':=by
 have k3:=OO h.own.aj hg;have bm:=k3 _ _ _ (by decide) h.md.blk;have bg:=k3 _ _ _ (by decide) h.own.blk;have ks:=tX bg 6 v';have k4:yG [54,40] W (w3.setCell ⟨g,6,none⟩ v'):=yG.trans (ts:=[54,40]) (fun i cs t ht hb=>k3 i cs t (by simp at ht ⊢; exact ht.1) hb) ks (by simp);have hB:=h.size;have bl:=Ox h.own.aj hB hg;have Ph:Below B w3 (w3.setCell ⟨g,6,none⟩ v'):=zh 6 v' (by have:=h.lo; omega) (Nat.le_trans hB bl.size);have nZ:(w3.setCell ⟨g,6,none⟩ v').ownsRow B 54 5 v' ys.length (ys.flatMap dK):=yh hown ks (by decide);have pR:yd (w3.setCell ⟨g,6,none⟩ v') g #[vt,vf,vd,.int .i64 d.obj.bss,va,vs,v'] 40:=by simpa using bg.set 6 v'
 have rt:=yh h.own.text k4 (by decide);have Fb:=yh h.own.far k4 (by decide);have rd:=yh h.own.data k4 (by decide);have ra:=yh h.own.align k4 (by decide);have rs:=yh h.own.syms k4 (by decide);have Mt:=ks _ _ _ (by decide) bm;have no:∀ {e:TypeId} {size n:Nat} {u:Value} {xs:List Value},(w3.setCell ⟨g,6,none⟩ v').ownsRow B e size u n xs->e≠54->∀ k,v'.ownBlock=some k->u.ownBlock≠some k:=fun hu he k hk hk'=>by
  rcases hu.2 with ⟨rfl,_⟩ | ⟨g',cap,cur,rfl,_,hg',_⟩
  ·simp [Value.ownBlock] at hk'
  ·obtain rfl:g'=k:=by simpa [Value.ownBlock] using hk'
   exact Iw nZ hk hg' (fun x=>he x.symm)
 refine ⟨k3,bg,k4,bl.trans Ph,h.newObj k4 (by decide) (bl.trans Ph) ⟨pR,rt,Fb,rd,ra,rs,nZ,?_⟩ ⟨h.sz.text,h.sz.far,h.sz.data,h.sz.bss,h.sz.align,h.sz.syms,hl,h.sz.said⟩⟩;refine h.own.apart.set (i:=7) (v:=vr) (v':=v') rfl fun k hk=>?_
 by_cases c:vr.ownBlock=some k
 ·exact .inl c
 ·refine .inr fun u hu=>?_
  simp only [List.mem_cons,List.not_mem_nil,or_false] at hu;rcases hu with rfl | rfl | rfl | rfl | rfl | rfl | rfl | rfl
  ·intro x;obtain rfl:m=k:=by simpa [gI,Value.ownBlock] using x
   exact Iw nZ hk Mt (by decide)
  ·intro x;obtain rfl:g=k:=by simpa [gI,Value.ownBlock] using x
   exact Iw nZ hk pR (by decide)
  ·exact no rt (by decide) k hk
  ·exact no Fb (by decide) k hk
  ·exact no rd (by decide) k hk
  ·exact no ra (by decide) k hk
  ·exact no rs (by decide) k hk
  ·exact c
theorem Mo.newText (h:Mo B m g ao cap L d W vq vt vf vd va vs vr) (hg:W.grownBy V none) (ys:List Int) (hl:ys.length<=1200) (hown:V.ownsRow B 3 1 v' ys.length (ys.map (Value.int .i64))) (hf:∀ k,v'.ownBlock=some k->W.heap.size<=k) :
  yd V g #[vt,vf,vd,.int .i64 d.obj.bss,va,vs,vr] 40/\yG [40] W (V.setCell ⟨g,0,none⟩ v')/\Below B W (V.setCell ⟨g,0,none⟩ v')/\Mo B m g ao cap L { d with obj:={ d.obj with text:=ys } } (V.setCell ⟨g,0,none⟩ v') vq v' vf vd va vs vr:=by
 have bg:=h.own.blk.grown hg (by simp);have ks:=tX bg 0 v';have k4:yG [40] W (V.setCell ⟨g,0,none⟩ v'):=(yG.none hg).trans ks (fun _ x=>x);have hB:=h.size;have bl:Below B W (V.setCell ⟨g,0,none⟩ v'):=((Below.refl B W).grown hg hB (by simp)).trans (zh 0 v' (by have:=h.lo; omega) (Nat.le_trans hB hg.size));have nZ:(V.setCell ⟨g,0,none⟩ v').ownsRow B 3 1 v' ys.length (ys.map (Value.int .i64)):=yh hown ks (by decide);have pR:yd (V.setCell ⟨g,0,none⟩ v') g #[v',vf,vd,.int .i64 d.obj.bss,va,vs,vr] 40:=by simpa using bg.set 0 v'
 have row:∀ {e:TypeId} {size n j:Nat} {u:Value} {xs:List Value},[gI m,gI g,vt,vf,vd,va,vs,vr][j]?=some u->e≠40->W.ownsRow B e size u n xs->(V.setCell ⟨g,0,none⟩ v').ownsRow B e size u n xs:=fun _ he hu=>yh hu k4 (by simpa using he)
 refine ⟨bg,k4,bl,h.newObj k4 (by decide) bl ⟨pR,nZ,row (j:=3) rfl (by decide) h.own.far,row (j:=4) rfl (by decide) h.own.data,row (j:=5) rfl (by decide) h.own.align,row (j:=6) rfl (by decide) h.own.syms,row (j:=7) rfl (by decide) h.own.aj,?_⟩ ⟨hl,h.sz.far,h.sz.data,h.sz.bss,h.sz.align,h.sz.syms,h.sz.aj,h.sz.said⟩⟩;refine h.own.apart.set (i:=2) (v:=vt) (v':=v') rfl fun k hk=>.inr fun u hu M9=>?_
 have:=h.own.Pp h.md.blk.lt u hu k M9
 have:=hf k hk
 omega
theorem Mo.vT (h:Mo B m g ao cap L d W vq vt vf vd va vs vr) (hg:W.grownBy V none) (ys:List Int) (hl:ys.length<=1200) (hown:V.ownsRow B 3 1 v' ys.length (ys.map (Value.int .i64))) (hf:∀ k,v'.ownBlock=some k->W.heap.size<=k) :
  yd V g #[vt,vf,vd,.int .i64 d.obj.bss,va,vs,vr] 40/\yG [40] W (V.setCell ⟨g,1,none⟩ v')/\Below B W (V.setCell ⟨g,1,none⟩ v')/\Mo B m g ao cap L { d with obj:={ d.obj with far:=ys } } (V.setCell ⟨g,1,none⟩ v') vq vt v' vd va vs vr:=by
 have bg:=h.own.blk.grown hg (by simp);have ks:=tX bg 1 v';have k4:yG [40] W (V.setCell ⟨g,1,none⟩ v'):=(yG.none hg).trans ks (fun _ x=>x);have hB:=h.size;have bl:Below B W (V.setCell ⟨g,1,none⟩ v'):=((Below.refl B W).grown hg hB (by simp)).trans (zh 1 v' (by have:=h.lo; omega) (Nat.le_trans hB hg.size));have nZ:(V.setCell ⟨g,1,none⟩ v').ownsRow B 3 1 v' ys.length (ys.map (Value.int .i64)):=yh hown ks (by decide);have pR:yd (V.setCell ⟨g,1,none⟩ v') g #[vt,v',vd,.int .i64 d.obj.bss,va,vs,vr] 40:=by simpa using bg.set 1 v'
 have row:∀ {e:TypeId} {size n j:Nat} {u:Value} {xs:List Value},[gI m,gI g,vt,vf,vd,va,vs,vr][j]?=some u->e≠40->W.ownsRow B e size u n xs->(V.setCell ⟨g,1,none⟩ v').ownsRow B e size u n xs:=fun _ he hu=>yh hu k4 (by simpa using he)
 refine ⟨bg,k4,bl,h.newObj k4 (by decide) bl ⟨pR,row (j:=2) rfl (by decide) h.own.text,nZ,row (j:=4) rfl (by decide) h.own.data,row (j:=5) rfl (by decide) h.own.align,row (j:=6) rfl (by decide) h.own.syms,row (j:=7) rfl (by decide) h.own.aj,?_⟩ ⟨h.sz.text,hl,h.sz.data,h.sz.bss,h.sz.align,h.sz.syms,h.sz.aj,h.sz.said⟩⟩;refine h.own.apart.set (i:=3) (v:=vf) (v':=v') rfl fun k hk=>.inr fun u hu M9=>?_
 have:=h.own.Pp h.md.blk.lt u hu k M9
 have:=hf k hk
 omega
theorem Mo.ru (h:Mo B m g ao cap L d W vq vt vf vd va vs vr) (hg:W.grownBy V none) (ys:List Int) (hl:ys.length<=64) (hown:V.ownsRow B 3 1 v' ys.length (ys.map (Value.int .i64))) (hf:∀ k,v'.ownBlock=some k->W.heap.size<=k) :
  yd V g #[vt,vf,vd,.int .i64 d.obj.bss,va,vs,vr] 40/\yG [40] W (V.setCell ⟨g,2,none⟩ v')/\Below B W (V.setCell ⟨g,2,none⟩ v')/\Mo B m g ao cap L { d with obj:={ d.obj with data:=ys } } (V.setCell ⟨g,2,none⟩ v') vq vt vf v' va vs vr:=by
 have bg:=h.own.blk.grown hg (by simp);have ks:=tX bg 2 v';have k4:yG [40] W (V.setCell ⟨g,2,none⟩ v'):=(yG.none hg).trans ks (fun _ x=>x);have hB:=h.size;have bl:Below B W (V.setCell ⟨g,2,none⟩ v'):=((Below.refl B W).grown hg hB (by simp)).trans (zh 2 v' (by have:=h.lo; omega) (Nat.le_trans hB hg.size));have nZ:(V.setCell ⟨g,2,none⟩ v').ownsRow B 3 1 v' ys.length (ys.map (Value.int .i64)):=yh hown ks (by decide);have pR:yd (V.setCell ⟨g,2,none⟩ v') g #[vt,vf,v',.int .i64 d.obj.bss,va,vs,vr] 40:=by simpa using bg.set 2 v'
 have row:∀ {e:TypeId} {size n j:Nat} {u:Value} {xs:List Value},[gI m,gI g,vt,vf,vd,va,vs,vr][j]?=some u->e≠40->W.ownsRow B e size u n xs->(V.setCell ⟨g,2,none⟩ v').ownsRow B e size u n xs:=fun _ he hu=>yh hu k4 (by simpa using he)
 refine ⟨bg,k4,bl,h.newObj k4 (by decide) bl ⟨pR,row (j:=2) rfl (by decide) h.own.text,row (j:=3) rfl (by decide) h.own.far,nZ,row (j:=5) rfl (by decide) h.own.align,row (j:=6) rfl (by decide) h.own.syms,row (j:=7) rfl (by decide) h.own.aj,?_⟩ ⟨h.sz.text,h.sz.far,hl,h.sz.bss,h.sz.align,h.sz.syms,h.sz.aj,h.sz.said⟩⟩;refine h.own.apart.set (i:=4) (v:=vd) (v':=v') rfl fun k hk=>.inr fun u hu M9=>?_
 have:=h.own.Pp h.md.blk.lt u hu k M9
 have:=hf k hk
 omega
theorem Mo.zV (h:Mo B m g ao cap L d W vq vt vf vd va vs vr) (n:Int) (hn:0<=n/\n<=64) :
  yG [40] W (W.setCell ⟨g,3,none⟩ (.int .i64 n))/\Below B W (W.setCell ⟨g,3,none⟩ (.int .i64 n))/\Mo B m g ao cap L { d with obj:={ d.obj with bss:=n } } (W.setCell ⟨g,3,none⟩ (.int .i64 n)) vq vt vf vd va vs vr:=by
 have ks:=tX h.own.blk 3 (.int .i64 n);have bl:Below B W (W.setCell ⟨g,3,none⟩ (.int .i64 n)):=zh 3 _ (by have:=h.lo; omega) h.size;have pR:yd (W.setCell ⟨g,3,none⟩ (.int .i64 n)) g #[vt,vf,vd,.int .i64 n,va,vs,vr] 40:=by simpa using h.own.blk.set 3 (.int .i64 n)
 exact ⟨ks,bl,h.newObj ks (by decide) bl ⟨pR,yh h.own.text ks (by decide),yh h.own.far ks (by decide),yh h.own.data ks (by decide),yh h.own.align ks (by decide),yh h.own.syms ks (by decide),yh h.own.aj ks (by decide),h.own.apart⟩ ⟨h.sz.text,h.sz.far,h.sz.data,hn,h.sz.align,h.sz.syms,h.sz.aj,h.sz.said⟩⟩
theorem LC {W w1 w2:World} {v1 v2:Value} (h1:W.grownBy w1 none) (h2:w1.grownBy w2 v1.ownBlock) (a1:v1.ownBlock=none\/v1.ownBlock=some W.heap.size) (a2:v2.ownBlock=v1.ownBlock\/v2.ownBlock=some w1.heap.size):W.grownBy w2 none/\∀ k,v2.ownBlock=some k->W.heap.size<=k:=by
 refine ⟨⟨h2.os.trans h1.os,h2.tape.trans h1.tape,h2.output.trans h1.output,Nat.le_trans h1.size h2.size,fun k hk _=>?_⟩,fun k hk=>?_⟩
 ·rw [h2.block k (Nat.lt_of_lt_of_le hk h1.size) (fun e=>by
   rcases a1 with a | a
   ·rw [a] at e; cases e
   ·rw [a] at e;simp at e;omega),h1.block k hk (by simp)]
 ·have:=h1.size
  rcases a2 with a | a
  ·rcases a1 with b | b
   ·rw [a,b] at hk; cases hk
   ·rw [a,b] at hk;simp at hk;omega
  ·rw [a] at hk;simp at hk;omega
end
theorem yU {P:Program} {w:World} {ops:Array Oper} {rest:List Oper} {o:Oper} {a:Act} {Q:Exit->Act->World->Prop} (hgd:o.guard=none) (s x:Operand) (t:TypeId)
  (ho:o.op = .call { callee:=.builtin .append,args:=#[s,x],argTypes:=#[t,t] })
  (base:Nat) (i:TypeInfo) (ht:P.underlying t=some (.slice 3)) (hi:P.info? 3=some i) (hz:i.zero=some (.int .i64 0))
  (hsize:i.size=1) (hby:i.bytes=8)
  (v:Value) (n:Nat) (xs:List Value) (hs:a.eval s=v) (hown:w.ownsRow base 3 1 v n xs)
  (ao:Option Addr) (cap:Nat) (ws:List Int) (hx:a.eval x = .slice ao ws.length cap) (hw:yE w ao cap ws)
  (h63:n+ws.length<=65535) (hbase:base<=w.heap.size)
  (h:∀ v' w',w'.ownsRow base 3 1 v' (n+ws.length) (xs ++ ws.map (Value.int .i64))->w.grownBy w' v.ownBlock->(v'.ownBlock=v.ownBlock\/v'.ownBlock=some w.heap.size)->wpList P ops Q rest (a.put o.dst v') w'):wpList P ops Q (o :: rest) a w :=
 wpList_plain hgd fun _ hK=>PI w s x t ho base i ht hi hz hsize hby v n xs hs hown ao cap ws hx hw h63 hbase fun v' w' h1 h2 h3=>hK _ _ (h v' w' h1 h2 h3)
theorem yE.xE {W V:World} {ao:Option Addr} {cap:Nat} {ws:List Int} {ts:List TypeId} (h:yE W ao cap ws) (k:yG ts W V) (ht:3 ∉ ts):yE V ao cap ws:=h.kept fun i cs hb _=>k i cs _ ht hb
theorem LU (W:World) (B:Nat) (e:TypeId) (size:Nat):W.ownsRow B e size (.slice none 0 0) 0 []:=⟨by simp,.inl ⟨rfl,rfl⟩⟩
abbrev rC:List TypeId:=[46,40,54]
theorem Gg (B m g:Nat) (ao:Option Addr) (cap:Nat) (L:List Rf.Tk) (d:Rf.Ds) (kind sym:Nat) (num add:Int) (ar:Option Addr) (nr cr:Nat) (aw:Option Addr) (cw:Nat) (ws:List Int) (W:World) (h:rJ B m g ao cap L d W) (hs4:d.ah≠4) (hw:yE W aw cw ws) (hn:ws.length<=4096) :
  Calls Tryz.prog 75 #[.pointer (some ⟨m,0,none⟩),.int .i64 kind,.agg #[.slice ar nr cr,.int .i64 num,.int .i64 sym,.int .i64 add],.slice aw ws.length cw] W fun en W'=>en = .returned (.tuple #[])/\yO B m g ao cap L rC W (Rf.lay kind sym add ws d) W':=by
 obtain ⟨i0,hi,hz0,hz1,hz2⟩:=info_parts Tryz.iC;obtain ⟨i2,hi2,hx0,hx1,hx2⟩:=info_parts Tryz.q8;obtain ⟨vq,vt,vf,vd,va,vs,vr,h⟩:=h;obtain ⟨arr,ME,rfl⟩:=yi h.own.aj;have h32:=h.sz.aj;have SZ:=UH d h.sz h.md.ok.ah;have GA:=hid (aW W (.cells #[.slice ar nr cr,.int .i64 num,.int .i64 sym,.int .i64 add] 98) none);have H0:=hid h;have zP:=h.md.ok.ah;have hop:=h.md.ok.op;have cW:=hid (fun (V:World) (hV:rJ B m g ao cap L d V)=>Xh B m g ao cap L d V hV);have Vw:=hid hw;clear h hw;have RS:=hid (show Rf.lay kind sym add ws d=(let d1:=Rf.aH (decide (0 < kind/\d.obj.aj.length=32)) 12 d.op d
  if d1.fe=0 then
   let d2:Rf.Ds:=if 0 < kind then { d1 with obj:={ d1.obj with aj:=d1.obj.aj ++ [⟨d1.ah,4 * As.aA d1.obj d1.ah,kind,sym,add⟩] } } else d1
   if Rf.top d.ah < As.aA d.obj d.ah+ws.length then Rf.bad 13 d.op d2 else { d2 with obj:=As.aB d2.obj d2.ah ws }
  else d1) from rfl)
 generalize Rf.lay kind sym add ws d=X at *;obtain ⟨ki,hki⟩:∃ ki:Int,ki=(kind:Int):=⟨_,rfl⟩
 rw [<- hki];have KI:=hid hki;clear hki;go_enter Tryz.func75,Tryz.ntmps75;go_wp2_with fail;refine (cW.o _ ⟨_,_,_,_,_,_,_,H0.o.grown GA.o⟩).mono ?_;rintro e V1 ⟨⟨eP,cap',rfl,hwd⟩,hg1⟩;have G1:=hid (ya GA.o hg1);have H:=hid (H0.o.grown G1.o);have OW:=hid hwd;have WD:=hid (Vw.o.grown G1.o);have GB:=hid ((yd.new W #[.slice ar nr cr,.int .i64 num,.int .i64 sym,.int .i64 add] 98).grown hg1 (by simp));have DD:=hid (H0.o.refl (ts:=rC) |>.grown G1.o);generalize W.heap.size=gk at *;clear hg1 hwd Vw G1 GA cW H0;have SL:=hid SZ.1;have hl:=SZ.2;clear SZ;have SI:=hid (show mJ d=if d.ah=1 then d.obj.text else if d.ah=2 then d.obj.far else d.obj.data by unfold mJ; split; rfl; split; rfl; rw [if_pos (by omega)])
 generalize mJ d=old at *;have c0:=yp H.o.md 0;have c2:=yp H.o.md 2;have c5:=yp H.o.md 5;have c7:=yp H.o.md 7;have g6:=H.o.own.blk.cell 6;have b2:=GB.o.cell 2;have b3:=GB.o.cell 3;simp only [yr,bB,yml,bf] at c0 c2 c5 c7 g6 b2 b3;by_cases hf:d.fe=0
 ·have f1:((d.fe:Int) == 0)=true:=by simp [hf]
  have f2:((d.fe:Int) != 0)=false:=by simp [hf]
  by_cases hk0:0 < kind
  ·have e1:decide ((0:Int) < ki)=true:=by rw [KI.o]; simp; omega
   by_cases h3:d.obj.aj.length=32
   ·have e2:((d.obj.aj.length:Int) == 32)=true:=by simp [h3]
    have cB:=hid (yL m g _ ao cap L d 12 d.op V1 H.o.md (by decide) hop);have RF:=hid (show X=Rf.bad 12 d.op d by
     rw [RS.o];simp only [Rf.aH,hk0,h3,and_self,decide_true,if_true];rw [if_neg (Rf.bH 12 d.op (by decide) d)])
    have BF:Hd (Rf.bad 12 d.op d={ d with fe:=12,fa:=d.op }):=by show Rf.bad 12 d.op d=_; unfold Rf.bad; rw [if_pos hf]
    clear hf h3 RS hk0 b2 b3 c2 OW WD;go_wp2_with fail;refine cB.o.mono ?_;rintro e V3 ⟨rfl,h3⟩;have M3:=hid (DD.o.after (H.o.dW (ts:=rC) h3 (yq _ _ _).2 (yq _ _ _).1 (by simp)) (fun t ht=>ht));have k5:=yp h3.1 5;rw [BF.o] at k5;simp only [yr,bB,yml,bf] at k5;clear h3 cB c5 c7 g6;go_wp2
    (try simp only [Exit.inBlock,Exit.then]); refine bodyPost_ret (results_none rfl _ _ _) rfl ?_
    rw [RF.o];exact ⟨rfl,M3.o⟩
   ·have e2:((d.obj.aj.length:Int) == 32)=false:=by simp; omega
    have hn32:d.obj.aj.length+1<=32:=by omega
    have RF:=hid (show X=(let d2:Rf.Ds:={ d with obj:={ d.obj with aj:=d.obj.aj ++ [⟨d.ah,4 * As.aA d.obj d.ah,kind,sym,add⟩] } }
     if Rf.top d.ah < As.aA d.obj d.ah+ws.length then Rf.bad 13 d.op d2 else { d2 with obj:=As.aB d2.obj d2.ah ws }) by
     rw [RS.o];simp only [Rf.aH,h3,and_false,decide_false,Bool.false_eq_true,if_false,hf,hk0,if_true])
    rw [<- SL.o] at RF;clear hf h3 RS hk0;have FL:Hd ((d.obj.aj ++ [(⟨d.ah,4 * (old.length:Int),kind,sym,add⟩:Lk.Rel)]).flatMap dK=d.obj.aj.flatMap dK ++ [.int .i64 d.ah,.int .i64 (4 * (old.length:Int)),.int .i64 ki,.int .i64 sym,.int .i64 add]/\(d.obj.aj ++ [(⟨d.ah,4 * (old.length:Int),kind,sym,add⟩:Lk.Rel)]).length=d.obj.aj.length+1):=⟨by rw [List.flatMap_append,KI.o]; rfl,by simp⟩
    have FIN:=hid (fun (w3:World) (v':Value) (ho:w3.ownsRow B 54 5 v' (d.obj.aj.length+1) (d.obj.aj.flatMap dK ++ [.int .i64 d.ah,.int .i64 (4 * (old.length:Int)),.int .i64 ki,.int .i64 sym,.int .i64 add])) (hg:(V1.alloc (.cells #[.int .i64 d.ah,.int .i64 (4 * (old.length:Int)),.int .i64 ki,.int .i64 sym,.int .i64 add] 54)).grownBy w3 (Value.ownBlock (.slice arr d.obj.aj.length ME)))=>H.o.Ke (d.obj.aj ++ [⟨d.ah,4 * (old.length:Int),kind,sym,add⟩]) (v':=v') (by rw [FL.o.2]; exact hn32) (by rw [FL.o.1,FL.o.2]; exact ho) hg);have w4:IntKind.i64.wrap (4 * (old.length:Int))=4 * (old.length:Int):=IntWalk.i64_in _ ⟨by omega,by omega⟩
    go_wp2;have GA:=hid (aW V1 (.cells #[.int .i64 d.ah,.int .i64 (4 * (old.length:Int)),.int .i64 ki,.int .i64 sym,.int .i64 add] 54) none);have KY:Hd (V1.grownBy (V1.alloc (.cells #[.int .i64 d.ah,.int .i64 (4 * (old.length:Int)),.int .i64 ki,.int .i64 sym,.int .i64 add] 54)).drew none):=yg GA.o;have hA:Hd ((V1.alloc (.cells #[.int .i64 d.ah,.int .i64 (4 * (old.length:Int)),.int .i64 ki,.int .i64 sym,.int .i64 add] 54)).drew.ownsRow B 54 5 (.slice arr d.obj.aj.length ME) d.obj.aj.length (d.obj.aj.flatMap dK)):=(H.o.own.aj.alloc _).drew;have hN:Hd (∀ j u,([.int .i64 d.ah,.int .i64 (4 * (old.length:Int)),.int .i64 ki,.int .i64 sym,.int .i64 add]:List Value)[j]?=some u->(V1.alloc (.cells #[.int .i64 d.ah,.int .i64 (4 * (old.length:Int)),.int .i64 ki,.int .i64 sym,.int .i64 add] 54)).drew.cell? ((⟨V1.heap.size,0,none⟩:Addr).add j)=some u):=World.news_of_block (heap_alloc_new V1 (.cells #[.int .i64 d.ah,.int .i64 (4 * (old.length:Int)),.int .i64 ki,.int .i64 sym,.int .i64 add] 54))
    have mh:Hd (∀ u∈([.int .i64 d.ah,.int .i64 (4 * (old.length:Int)),.int .i64 ki,.int .i64 sym,.int .i64 add]:List Value),u.oneCell'=true):=by intro u hu; simp at hu; rcases hu with rfl | rfl | rfl | rfl | rfl <;> rfl
    have h63:Hd (d.obj.aj.length+1<=maxLen):=by show _<=_; unfold maxLen; omega
    have hby:Hd ((d.obj.aj.length+1) * 40<=140737488355328):=by show _<=_; omega
    have hbs:Hd (B<=(V1.alloc (.cells #[.int .i64 d.ah,.int .i64 (4 * (old.length:Int)),.int .i64 ki,.int .i64 sym,.int .i64 add] 54)).drew.heap.size):=by have:=H.o.size; show _<=_; simp; omega
    refine wp_region_held_drew (S:=(fun w'=>w'.cell? ⟨m,0,none⟩=some (.pointer (some ⟨g,0,none⟩))/\w'.cell? ⟨m,2,none⟩=some (.int .i64 d.ah)/\w'.cell? ⟨g,6,none⟩=some (.slice arr d.obj.aj.length ME)/\w'.cell? ⟨gk,2,none⟩=some (.int .i64 sym)/\w'.cell? ⟨gk,3,none⟩=some (.int .i64 add))) (by kernel_rfl) ⟨c0,c2,g6,b2,b3⟩ ?_;intro hS
    iterate 20
     refine yH (v:=?_) rfl (by kernel_rfl) (fun _ _ _ h=>h) hS ?_ ?_
     rotate_left
     ·intro w' hw'; obtain ⟨x0,x1,x2,x3,x4⟩:=hw'; go_simp; with_reducible rfl
    refine wpAnyH_ready (rs:=[20]) (by kernel_rfl) (by simp) ?_;refine AllReadyH.cons rfl (fun K hK=>?_) AllReadyH.nil;go_simp;refine hK.out _ _ ⟨yb c0 KY.o,yb c2 KY.o,yb g6 KY.o,yb b2 KY.o,yb b3 KY.o⟩ (fun hS2=>?_);clear hK K hS2;refine wpAnyH_ready (rs:=[21]) (by kernel_rfl) (by simp) ?_;refine AllReadyH.cons rfl (fun K hK=>?_) AllReadyH.nil;rw [if_pos (by kernel_rfl)];refine Lj _ (.tmp 55) (.tmp 69) 38 rfl B 54 i2 (.agg #[.int .i64 0,.int .i64 0,.int .i64 0,.int .i64 0,.int .i64 0]) 5 40 Tryz.underlying38 hi2 hx0 hx1 hx2 rfl (by decide) (.slice arr d.obj.aj.length ME) d.obj.aj.length (d.obj.aj.flatMap dK) (by kernel_rfl) hA.o ⟨V1.heap.size,0,none⟩ 1 1 [.int .i64 d.ah,.int .i64 (4 * (old.length:Int)),.int .i64 ki,.int .i64 sym,.int .i64 add] (by kernel_rfl) rfl hN.o mh.o h63.o hby.o hbs.o ?_
    intro v' w3 hown' hgrow _ hat
    obtain ⟨Pf,Pk,rfl⟩:=yi hown';have gd:(V1.alloc (.cells #[.int .i64 d.ah,.int .i64 (4 * (old.length:Int)),.int .i64 ki,.int .i64 sym,.int .i64 add] 54)).grownBy w3 (Value.ownBlock (.slice arr d.obj.aj.length ME)):=⟨hgrow.os,hgrow.tape,hgrow.output,hgrow.size,hgrow.block⟩
    have F:=hid (FIN.o _ _ hown' gd);have bm:=F.o.1 _ _ _ (by decide) H.o.md.blk;have q0:=bm.cell 0;have q2:=bm.cell 2;have Rc:=F.o.1 _ _ _ (by decide) GB.o;have y2:=Rc.cell 2;have y3:=Rc.cell 3;have z6:=F.o.2.1.cell 6;have zf:=F.o.2.1.free 6;simp only [yr,bB,yml,bf] at q0 q2 y2 y3 z6;clear hown' hgrow gd hat Rc bm;refine hK.out _ _ ⟨q0,q2,z6,y2,y3⟩ (fun rZ=>?_);clear hK K;refine jG (i:=22) (v:=?_) rfl ?_ rZ ?_
    rotate_left
    ·intro w' hw'; obtain ⟨x0,x1,x2,x3,x4⟩:=hw'; go_simp; with_reducible rfl
    refine wpAnyH_done (by kernel_rfl) ?_ _
    try simp only [oC,oF,oq,oD,iW,iR,iT]
    clear hA hN mh h63 hby hbs c0 c2 g6 b2 b3 rZ hS GA KY;have M2:=hid F.o.2.2.2.2;have JB:=hid (OW.o.xE F.o.2.2.1 (by decide));have JF:=hid (WD.o.xE F.o.2.2.1 (by decide));have D2:=hid (DD.o.after (us:=[54,40]) ⟨⟨_,_,_,_,_,_,_,F.o.2.2.2.2⟩,F.o.2.2.2.1,F.o.2.2.1⟩ (by simp));clear F OW WD DD H FIN GB c5 c7;have p0:=yp M2.o.md 0;have p2:=yp M2.o.md 2;have p7:=yp M2.o.md 7;simp only [yr,bB,yml,bf] at p0 p2 p7;have hB2:=M2.o.size;have EO:Hd ((old ++ ws).length=old.length+ws.length/\(old ++ ws).map (Value.int .i64)=old.map (Value.int .i64) ++ ws.map (Value.int .i64)):=⟨by simp,by simp⟩
    rcases (show d.ah=1\/d.ah=2\/d.ah=3 by omega) with e | e | e
    ·have TP:=hid (show Rf.top d.ah=1200 by unfold Rf.top; rw [e]; rfl);have AD:=hid (fun o:Lk.Obj=>show As.aB o d.ah ws={ o with text:=o.text ++ ws } by unfold As.aB; rw [e]; rfl);rw [if_pos e] at SI;have SX:=hid SI.o;clear SI;rw [e] at p2 q2;by_cases hb:(1200:Int) < old.length+ws.length
     ·have g1:decide ((1200:Int) < (old.length:Int)+ws.length)=true:=by simpa using hb
      have RG:=hid (show X=Rf.bad 13 d.op { d with obj:={ d.obj with aj:=d.obj.aj ++ [⟨d.ah,4 * (old.length:Int),kind,sym,add⟩] } } by rw [RF.o,TP.o]; exact if_pos hb);clear hb RF e;go_wp2_with fail;refine (yL m g _ ao cap L { d with obj:={ d.obj with aj:=d.obj.aj ++ [⟨d.ah,4 * (old.length:Int),kind,sym,add⟩] } } 13 d.op _ M2.o.md (by decide) hop).mono ?_;rintro e V3 ⟨rfl,h3⟩;have M3:=hid (D2.o.after (M2.o.dW (ts:=rC) h3 (yq _ _ _).2 (yq _ _ _).1 (by simp)) (fun t ht=>ht));clear h3;go_wp2
      (try simp only [Exit.inBlock,Exit.then]); refine bodyPost_ret (results_none rfl _ _ _) rfl ?_
      rw [RG.o];exact ⟨rfl,M3.o⟩
     ·have g1:decide ((1200:Int) < (old.length:Int)+ws.length)=false:=by simpa using hb
      have hl2:old.length+ws.length<=1200:=by omega
      have RG:=hid (show X={ ({ d with obj:={ d.obj with aj:=d.obj.aj ++ [⟨d.ah,4 * (old.length:Int),kind,sym,add⟩] } }:Rf.Ds) with obj:={ ({ d with obj:={ d.obj with aj:=d.obj.aj ++ [⟨d.ah,4 * (old.length:Int),kind,sym,add⟩] } }:Rf.Ds).obj with text:=old ++ ws } } by rw [RF.o,TP.o]; refine (if_neg hb).trans ?_; rw [AD.o]; (try dsimp only); rw [<- SX.o]);clear hb RF e;go_wp2_with (at_builtin; first
       | (refine yU rfl _ _ 36 rfl B i0 Tryz.underlying36 hi hz0 hz1 hz2 (.slice none 0 0) 0 [] rfl (LU _ _ _ _) eP cap' old rfl JB.o (by omega) hB2 ?_; intro v1 w1 ho1 hg1 ha1; rw [Nat.zero_add,List.nil_append] at ho1; obtain ⟨a1,c1,rfl⟩:=yi ho1; have Ca:=hid ho1; have AP:=hid hg1; have HA1:=hid ha1; have hB3:=Nat.le_trans hB2 hg1.size; have Ea:=hid (JF.o.grown hg1); clear ho1 hg1 ha1)
       | (refine yU rfl _ _ 36 rfl B i0 Tryz.underlying36 hi hz0 hz1 hz2 _ _ _ rfl Ca.o aw cw ws rfl Ea.o (by omega) hB3 ?_; intro v2 w2 ho2 hg2 ha2; obtain ⟨a2,c2,rfl⟩:=yi ho2; have TW:=hid (LC AP.o hg2 HA1.o ha2); have FN:=hid (M2.o.newText TW.o.1 (old ++ ws) (by rw [EO.o.1]; omega) (by rw [EO.o.1,EO.o.2]; exact ho2) TW.o.2); have r0:=yb p0 TW.o.1; have r2:=yb p2 TW.o.1; have rg:=FN.o.1.cell 0; have Fb:=FN.o.1.free 0; simp only [bB,bf] at rg; clear ho2 hg2 ha2))
      go_end0
      rw [RG.o];exact ⟨rfl,D2.o.after (us:=[40]) ⟨⟨_,_,_,_,_,_,_,FN.o.2.2.2⟩,FN.o.2.2.1,FN.o.2.1⟩ (by simp)⟩
    ·have TP:=hid (show Rf.top d.ah=1200 by unfold Rf.top; rw [e]; rfl);have AD:=hid (fun o:Lk.Obj=>show As.aB o d.ah ws={ o with far:=o.far ++ ws } by unfold As.aB; rw [e]; rfl);rw [if_neg (by omega),if_pos e] at SI;have SX:=hid SI.o;clear SI;rw [e] at p2 q2;by_cases hb:(1200:Int) < old.length+ws.length
     ·have g1:decide ((1200:Int) < (old.length:Int)+ws.length)=true:=by simpa using hb
      have RG:=hid (show X=Rf.bad 13 d.op { d with obj:={ d.obj with aj:=d.obj.aj ++ [⟨d.ah,4 * (old.length:Int),kind,sym,add⟩] } } by rw [RF.o,TP.o]; exact if_pos hb);clear hb RF e;go_wp2_with fail;refine (yL m g _ ao cap L { d with obj:={ d.obj with aj:=d.obj.aj ++ [⟨d.ah,4 * (old.length:Int),kind,sym,add⟩] } } 13 d.op _ M2.o.md (by decide) hop).mono ?_;rintro e V3 ⟨rfl,h3⟩;have M3:=hid (D2.o.after (M2.o.dW (ts:=rC) h3 (yq _ _ _).2 (yq _ _ _).1 (by simp)) (fun t ht=>ht));clear h3;go_wp2
      (try simp only [Exit.inBlock,Exit.then]); refine bodyPost_ret (results_none rfl _ _ _) rfl ?_
      rw [RG.o];exact ⟨rfl,M3.o⟩
     ·have g1:decide ((1200:Int) < (old.length:Int)+ws.length)=false:=by simpa using hb
      have hl2:old.length+ws.length<=1200:=by omega
      have RG:=hid (show X={ ({ d with obj:={ d.obj with aj:=d.obj.aj ++ [⟨d.ah,4 * (old.length:Int),kind,sym,add⟩] } }:Rf.Ds) with obj:={ ({ d with obj:={ d.obj with aj:=d.obj.aj ++ [⟨d.ah,4 * (old.length:Int),kind,sym,add⟩] } }:Rf.Ds).obj with far:=old ++ ws } } by rw [RF.o,TP.o]; refine (if_neg hb).trans ?_; rw [AD.o]; (try dsimp only); rw [<- SX.o]);clear hb RF e;go_wp2_with (at_builtin; first
       | (refine yU rfl _ _ 36 rfl B i0 Tryz.underlying36 hi hz0 hz1 hz2 (.slice none 0 0) 0 [] rfl (LU _ _ _ _) eP cap' old rfl JB.o (by omega) hB2 ?_; intro v1 w1 ho1 hg1 ha1; rw [Nat.zero_add,List.nil_append] at ho1; obtain ⟨a1,c1,rfl⟩:=yi ho1; have Ca:=hid ho1; have AP:=hid hg1; have HA1:=hid ha1; have hB3:=Nat.le_trans hB2 hg1.size; have Ea:=hid (JF.o.grown hg1); clear ho1 hg1 ha1)
       | (refine yU rfl _ _ 36 rfl B i0 Tryz.underlying36 hi hz0 hz1 hz2 _ _ _ rfl Ca.o aw cw ws rfl Ea.o (by omega) hB3 ?_; intro v2 w2 ho2 hg2 ha2; obtain ⟨a2,c2,rfl⟩:=yi ho2; have TW:=hid (LC AP.o hg2 HA1.o ha2); have FN:=hid (M2.o.vT TW.o.1 (old ++ ws) (by rw [EO.o.1]; omega) (by rw [EO.o.1,EO.o.2]; exact ho2) TW.o.2); have r0:=yb p0 TW.o.1; have r2:=yb p2 TW.o.1; have rg:=FN.o.1.cell 1; have Fb:=FN.o.1.free 1; simp only [bB,yml,bf] at rg; clear ho2 hg2 ha2))
      go_end0
      rw [RG.o];exact ⟨rfl,D2.o.after (us:=[40]) ⟨⟨_,_,_,_,_,_,_,FN.o.2.2.2⟩,FN.o.2.2.1,FN.o.2.1⟩ (by simp)⟩
    ·have TP:=hid (show Rf.top d.ah=64 by unfold Rf.top; rw [e]; rfl);have AD:=hid (fun o:Lk.Obj=>show As.aB o d.ah ws={ o with data:=o.data ++ ws } by unfold As.aB; rw [e]; rfl);rw [if_neg (by omega),if_neg (by omega)] at SI;have SX:=hid SI.o;clear SI;rw [e] at p2 q2;by_cases hb:(64:Int) < old.length+ws.length
     ·have g1:decide ((64:Int) < (old.length:Int)+ws.length)=true:=by simpa using hb
      have RG:=hid (show X=Rf.bad 13 d.op { d with obj:={ d.obj with aj:=d.obj.aj ++ [⟨d.ah,4 * (old.length:Int),kind,sym,add⟩] } } by rw [RF.o,TP.o]; exact if_pos hb);clear hb RF e;go_wp2_with fail;refine (yL m g _ ao cap L { d with obj:={ d.obj with aj:=d.obj.aj ++ [⟨d.ah,4 * (old.length:Int),kind,sym,add⟩] } } 13 d.op _ M2.o.md (by decide) hop).mono ?_;rintro e V3 ⟨rfl,h3⟩;have M3:=hid (D2.o.after (M2.o.dW (ts:=rC) h3 (yq _ _ _).2 (yq _ _ _).1 (by simp)) (fun t ht=>ht));clear h3;go_wp2
      (try simp only [Exit.inBlock,Exit.then]); refine bodyPost_ret (results_none rfl _ _ _) rfl ?_
      rw [RG.o];exact ⟨rfl,M3.o⟩
     ·have g1:decide ((64:Int) < (old.length:Int)+ws.length)=false:=by simpa using hb
      have hl2:old.length+ws.length<=64:=by omega
      have RG:=hid (show X={ ({ d with obj:={ d.obj with aj:=d.obj.aj ++ [⟨d.ah,4 * (old.length:Int),kind,sym,add⟩] } }:Rf.Ds) with obj:={ ({ d with obj:={ d.obj with aj:=d.obj.aj ++ [⟨d.ah,4 * (old.length:Int),kind,sym,add⟩] } }:Rf.Ds).obj with data:=old ++ ws } } by rw [RF.o,TP.o]; refine (if_neg hb).trans ?_; rw [AD.o]; (try dsimp only); rw [<- SX.o]);clear hb RF e;go_wp2_with (at_builtin; first
       | (refine yU rfl _ _ 36 rfl B i0 Tryz.underlying36 hi hz0 hz1 hz2 (.slice none 0 0) 0 [] rfl (LU _ _ _ _) eP cap' old rfl JB.o (by omega) hB2 ?_; intro v1 w1 ho1 hg1 ha1; rw [Nat.zero_add,List.nil_append] at ho1; obtain ⟨a1,c1,rfl⟩:=yi ho1; have Ca:=hid ho1; have AP:=hid hg1; have HA1:=hid ha1; have hB3:=Nat.le_trans hB2 hg1.size; have Ea:=hid (JF.o.grown hg1); clear ho1 hg1 ha1)
       | (refine yU rfl _ _ 36 rfl B i0 Tryz.underlying36 hi hz0 hz1 hz2 _ _ _ rfl Ca.o aw cw ws rfl Ea.o (by omega) hB3 ?_; intro v2 w2 ho2 hg2 ha2; obtain ⟨a2,c2,rfl⟩:=yi ho2; have TW:=hid (LC AP.o hg2 HA1.o ha2); have FN:=hid (M2.o.ru TW.o.1 (old ++ ws) (by rw [EO.o.1]; omega) (by rw [EO.o.1,EO.o.2]; exact ho2) TW.o.2); have r0:=yb p0 TW.o.1; have r2:=yb p2 TW.o.1; have rg:=FN.o.1.cell 2; have Fb:=FN.o.1.free 2; simp only [bB,yml,bf] at rg; clear ho2 hg2 ha2))
      go_end0
      rw [RG.o];exact ⟨rfl,D2.o.after (us:=[40]) ⟨⟨_,_,_,_,_,_,_,FN.o.2.2.2⟩,FN.o.2.2.1,FN.o.2.1⟩ (by simp)⟩
  ·have e1:decide ((0:Int) < ki)=false:=by rw [KI.o]; simp; omega
   have RF:=hid (show X=(if Rf.top d.ah < (old.length:Int)+ws.length then Rf.bad 13 d.op d else { d with obj:=As.aB d.obj d.ah ws }) by
    rw [RS.o,SL.o];simp only [Rf.aH,hk0,false_and,decide_false,Bool.false_eq_true,if_false,hf,if_true])
   clear hf hk0 RS b2 b3;have M2:=hid H.o;have JB:=hid OW.o;have JF:=hid WD.o;have D2:=hid DD.o;clear OW WD DD H GB c0 c2 c7 g6;have p0:=yp M2.o.md 0;have p2:=yp M2.o.md 2;have p7:=yp M2.o.md 7;simp only [yr,bB,yml,bf] at p0 p2 p7;have hB2:=M2.o.size;have EO:Hd ((old ++ ws).length=old.length+ws.length/\(old ++ ws).map (Value.int .i64)=old.map (Value.int .i64) ++ ws.map (Value.int .i64)):=⟨by simp,by simp⟩
   rcases (show d.ah=1\/d.ah=2\/d.ah=3 by omega) with e | e | e
   ·have TP:=hid (show Rf.top d.ah=1200 by unfold Rf.top; rw [e]; rfl);have AD:=hid (fun o:Lk.Obj=>show As.aB o d.ah ws={ o with text:=o.text ++ ws } by unfold As.aB; rw [e]; rfl);rw [if_pos e] at SI;have SX:=hid SI.o;clear SI;rw [e] at p2;by_cases hb:(1200:Int) < old.length+ws.length
    ·have g1:decide ((1200:Int) < (old.length:Int)+ws.length)=true:=by simpa using hb
     have RG:=hid (show X=Rf.bad 13 d.op d by rw [RF.o,TP.o]; exact if_pos hb);clear hb RF e;go_wp2_with fail;refine (yL m g _ ao cap L d 13 d.op _ M2.o.md (by decide) hop).mono ?_;rintro e V3 ⟨rfl,h3⟩;have M3:=hid (D2.o.after (M2.o.dW (ts:=rC) h3 (yq _ _ _).2 (yq _ _ _).1 (by simp)) (fun t ht=>ht));clear h3;go_wp2
     (try simp only [Exit.inBlock,Exit.then]); refine bodyPost_ret (results_none rfl _ _ _) rfl ?_
     rw [RG.o];exact ⟨rfl,M3.o⟩
    ·have g1:decide ((1200:Int) < (old.length:Int)+ws.length)=false:=by simpa using hb
     have hl2:old.length+ws.length<=1200:=by omega
     have RG:=hid (show X={ (d:Rf.Ds) with obj:={ (d:Rf.Ds).obj with text:=old ++ ws } } by rw [RF.o,TP.o]; refine (if_neg hb).trans ?_; rw [AD.o]; (try dsimp only); rw [<- SX.o]);clear hb RF e;go_wp2_with (at_builtin; first
      | (refine yU rfl _ _ 36 rfl B i0 Tryz.underlying36 hi hz0 hz1 hz2 (.slice none 0 0) 0 [] rfl (LU _ _ _ _) eP cap' old rfl JB.o (by omega) hB2 ?_; intro v1 w1 ho1 hg1 ha1; rw [Nat.zero_add,List.nil_append] at ho1; obtain ⟨a1,c1,rfl⟩:=yi ho1; have Ca:=hid ho1; have AP:=hid hg1; have HA1:=hid ha1; have hB3:=Nat.le_trans hB2 hg1.size; have Ea:=hid (JF.o.grown hg1); clear ho1 hg1 ha1)
      | (refine yU rfl _ _ 36 rfl B i0 Tryz.underlying36 hi hz0 hz1 hz2 _ _ _ rfl Ca.o aw cw ws rfl Ea.o (by omega) hB3 ?_; intro v2 w2 ho2 hg2 ha2; obtain ⟨a2,c2,rfl⟩:=yi ho2; have TW:=hid (LC AP.o hg2 HA1.o ha2); have FN:=hid (M2.o.newText TW.o.1 (old ++ ws) (by rw [EO.o.1]; omega) (by rw [EO.o.1,EO.o.2]; exact ho2) TW.o.2); have r0:=yb p0 TW.o.1; have r2:=yb p2 TW.o.1; have rg:=FN.o.1.cell 0; have Fb:=FN.o.1.free 0; simp only [bB,bf] at rg; clear ho2 hg2 ha2))
     go_end0
     rw [RG.o];exact ⟨rfl,D2.o.after (us:=[40]) ⟨⟨_,_,_,_,_,_,_,FN.o.2.2.2⟩,FN.o.2.2.1,FN.o.2.1⟩ (by simp)⟩
   ·have TP:=hid (show Rf.top d.ah=1200 by unfold Rf.top; rw [e]; rfl);have AD:=hid (fun o:Lk.Obj=>show As.aB o d.ah ws={ o with far:=o.far ++ ws } by unfold As.aB; rw [e]; rfl);rw [if_neg (by omega),if_pos e] at SI;have SX:=hid SI.o;clear SI;rw [e] at p2;by_cases hb:(1200:Int) < old.length+ws.length
    ·have g1:decide ((1200:Int) < (old.length:Int)+ws.length)=true:=by simpa using hb
     have RG:=hid (show X=Rf.bad 13 d.op d by rw [RF.o,TP.o]; exact if_pos hb);clear hb RF e;go_wp2_with fail;refine (yL m g _ ao cap L d 13 d.op _ M2.o.md (by decide) hop).mono ?_;rintro e V3 ⟨rfl,h3⟩;have M3:=hid (D2.o.after (M2.o.dW (ts:=rC) h3 (yq _ _ _).2 (yq _ _ _).1 (by simp)) (fun t ht=>ht));clear h3;go_wp2
     (try simp only [Exit.inBlock,Exit.then]); refine bodyPost_ret (results_none rfl _ _ _) rfl ?_
     rw [RG.o];exact ⟨rfl,M3.o⟩
    ·have g1:decide ((1200:Int) < (old.length:Int)+ws.length)=false:=by simpa using hb
     have hl2:old.length+ws.length<=1200:=by omega
     have RG:=hid (show X={ (d:Rf.Ds) with obj:={ (d:Rf.Ds).obj with far:=old ++ ws } } by rw [RF.o,TP.o]; refine (if_neg hb).trans ?_; rw [AD.o]; (try dsimp only); rw [<- SX.o]);clear hb RF e;go_wp2_with (at_builtin; first
      | (refine yU rfl _ _ 36 rfl B i0 Tryz.underlying36 hi hz0 hz1 hz2 (.slice none 0 0) 0 [] rfl (LU _ _ _ _) eP cap' old rfl JB.o (by omega) hB2 ?_; intro v1 w1 ho1 hg1 ha1; rw [Nat.zero_add,List.nil_append] at ho1; obtain ⟨a1,c1,rfl⟩:=yi ho1; have Ca:=hid ho1; have AP:=hid hg1; have HA1:=hid ha1; have hB3:=Nat.le_trans hB2 hg1.size; have Ea:=hid (JF.o.grown hg1); clear ho1 hg1 ha1)
      | (refine yU rfl _ _ 36 rfl B i0 Tryz.underlying36 hi hz0 hz1 hz2 _ _ _ rfl Ca.o aw cw ws rfl Ea.o (by omega) hB3 ?_; intro v2 w2 ho2 hg2 ha2; obtain ⟨a2,c2,rfl⟩:=yi ho2; have TW:=hid (LC AP.o hg2 HA1.o ha2); have FN:=hid (M2.o.vT TW.o.1 (old ++ ws) (by rw [EO.o.1]; omega) (by rw [EO.o.1,EO.o.2]; exact ho2) TW.o.2); have r0:=yb p0 TW.o.1; have r2:=yb p2 TW.o.1; have rg:=FN.o.1.cell 1; have Fb:=FN.o.1.free 1; simp only [bB,yml,bf] at rg; clear ho2 hg2 ha2))
     go_end0
     rw [RG.o];exact ⟨rfl,D2.o.after (us:=[40]) ⟨⟨_,_,_,_,_,_,_,FN.o.2.2.2⟩,FN.o.2.2.1,FN.o.2.1⟩ (by simp)⟩
   ·have TP:=hid (show Rf.top d.ah=64 by unfold Rf.top; rw [e]; rfl);have AD:=hid (fun o:Lk.Obj=>show As.aB o d.ah ws={ o with data:=o.data ++ ws } by unfold As.aB; rw [e]; rfl);rw [if_neg (by omega),if_neg (by omega)] at SI;have SX:=hid SI.o;clear SI;rw [e] at p2;by_cases hb:(64:Int) < old.length+ws.length
    ·have g1:decide ((64:Int) < (old.length:Int)+ws.length)=true:=by simpa using hb
     have RG:=hid (show X=Rf.bad 13 d.op d by rw [RF.o,TP.o]; exact if_pos hb);clear hb RF e;go_wp2_with fail;refine (yL m g _ ao cap L d 13 d.op _ M2.o.md (by decide) hop).mono ?_;rintro e V3 ⟨rfl,h3⟩;have M3:=hid (D2.o.after (M2.o.dW (ts:=rC) h3 (yq _ _ _).2 (yq _ _ _).1 (by simp)) (fun t ht=>ht));clear h3;go_wp2
     (try simp only [Exit.inBlock,Exit.then]); refine bodyPost_ret (results_none rfl _ _ _) rfl ?_
     rw [RG.o];exact ⟨rfl,M3.o⟩
    ·have g1:decide ((64:Int) < (old.length:Int)+ws.length)=false:=by simpa using hb
     have hl2:old.length+ws.length<=64:=by omega
     have RG:=hid (show X={ (d:Rf.Ds) with obj:={ (d:Rf.Ds).obj with data:=old ++ ws } } by rw [RF.o,TP.o]; refine (if_neg hb).trans ?_; rw [AD.o]; (try dsimp only); rw [<- SX.o]);clear hb RF e;go_wp2_with (at_builtin; first
      | (refine yU rfl _ _ 36 rfl B i0 Tryz.underlying36 hi hz0 hz1 hz2 (.slice none 0 0) 0 [] rfl (LU _ _ _ _) eP cap' old rfl JB.o (by omega) hB2 ?_; intro v1 w1 ho1 hg1 ha1; rw [Nat.zero_add,List.nil_append] at ho1; obtain ⟨a1,c1,rfl⟩:=yi ho1; have Ca:=hid ho1; have AP:=hid hg1; have HA1:=hid ha1; have hB3:=Nat.le_trans hB2 hg1.size; have Ea:=hid (JF.o.grown hg1); clear ho1 hg1 ha1)
      | (refine yU rfl _ _ 36 rfl B i0 Tryz.underlying36 hi hz0 hz1 hz2 _ _ _ rfl Ca.o aw cw ws rfl Ea.o (by omega) hB3 ?_; intro v2 w2 ho2 hg2 ha2; obtain ⟨a2,c2,rfl⟩:=yi ho2; have TW:=hid (LC AP.o hg2 HA1.o ha2); have FN:=hid (M2.o.ru TW.o.1 (old ++ ws) (by rw [EO.o.1]; omega) (by rw [EO.o.1,EO.o.2]; exact ho2) TW.o.2); have r0:=yb p0 TW.o.1; have r2:=yb p2 TW.o.1; have rg:=FN.o.1.cell 2; have Fb:=FN.o.1.free 2; simp only [bB,yml,bf] at rg; clear ho2 hg2 ha2))
     go_end0
     rw [RG.o];exact ⟨rfl,D2.o.after (us:=[40]) ⟨⟨_,_,_,_,_,_,_,FN.o.2.2.2⟩,FN.o.2.2.1,FN.o.2.1⟩ (by simp)⟩
 ·have f1:((d.fe:Int) == 0)=false:=by simp; omega
  have f2:((d.fe:Int) != 0)=true:=by simp; omega
  have RF:=hid (show X=d by
   have z:Rf.aH (decide (0 < kind/\d.obj.aj.length=32)) 12 d.op d=d:=by
    unfold Rf.aH Rf.bad;rw [if_neg hf];split <;> rfl
   rw [RS.o];simp only [z];rw [if_neg hf])
  clear hf RS b2 b3 c2 OW WD;go_wp2
  (try simp only [Exit.inBlock,Exit.then]); refine bodyPost_ret (results_none rfl _ _ _) rfl ?_
  rw [RF.o];exact ⟨rfl,DD.o⟩
theorem ygW (B m g:Nat) (ao:Option Addr) (cap:Nat) (L:List Rf.Tk) (d:Rf.Ds) (n:Int) (W:World) (h:rJ B m g ao cap L d W) (hn:0<=n/\n<=4096) :
  Calls Tryz.prog 125 #[.pointer (some ⟨m,0,none⟩),.int .i64 n] W fun en W'=>en = .returned (.tuple #[])/\yO B m g ao cap L rC W (Rf.nothing n d) W':=by
 obtain ⟨vq,vt,vf,vd,va,vs,vr,h⟩:=h;have H:=hid h;have hop:=h.md.ok.op;have hbs:=h.sz.bss;have c0:=yp h.md 0;have c5:=yp h.md 5;have c7:=yp h.md 7;have g3:=h.own.blk.cell 3;have gf:=h.own.blk.free 3;simp only [yr,bB,yml,bf] at c0 c5 c7 g3;clear h;have RS:=hid (show Rf.nothing n d=(if (Rf.aH (decide (64 < d.obj.bss+n)) 13 d.op d).fe=0 then { Rf.aH (decide (64 < d.obj.bss+n)) 13 d.op d with obj:={ (Rf.aH (decide (64 < d.obj.bss+n)) 13 d.op d).obj with bss:=(Rf.aH (decide (64 < d.obj.bss+n)) 13 d.op d).obj.bss+n } } else Rf.aH (decide (64 < d.obj.bss+n)) 13 d.op d) from rfl);generalize Rf.nothing n d=X at *
 go_enter Tryz.func125,Tryz.ntmps125;by_cases hf:d.fe=0
 ·have f1:((d.fe:Int) == 0)=true:=by simp [hf]
  by_cases hb:64 < d.obj.bss+n
  ·have e1:decide ((64:Int) < d.obj.bss+n)=true:=by simpa using hb
   rw [e1] at RS;have BF:Hd (Rf.bad 13 d.op d={ d with fe:=13,fa:=d.op }):=by show Rf.bad 13 d.op d=_; unfold Rf.bad; rw [if_pos hf]
   have RF:=hid (show X=Rf.bad 13 d.op d by rw [RS.o]; simp only [Rf.aH,if_true]; exact if_neg (Rf.bH 13 d.op (by decide) d));clear hb hf RS gf;go_wp2_with fail;refine (yL m g _ ao cap L d 13 d.op W H.o.md (by decide) hop).mono ?_;rintro e V3 ⟨rfl,h3⟩;have M3:=hid (H.o.dW (ts:=rC) h3 (yq _ _ _).2 (yq _ _ _).1 (by simp));have k5:=yp h3.1 5;rw [BF.o] at k5;simp only [yr,bB,yml,bf] at k5;clear h3;go_wp2
   go_end0
   rw [RF.o];exact ⟨rfl,M3.o⟩
  ·have e1:decide ((64:Int) < d.obj.bss+n)=false:=by simpa using hb
   rw [e1] at RS;have RF:=hid (show X={ d with obj:={ d.obj with bss:=d.obj.bss+n } } by rw [RS.o]; simp only [Rf.aH,Bool.false_eq_true,if_false,hf,if_true]);have hs:0<=d.obj.bss+n/\d.obj.bss+n<=64:=by omega
   have N1:=hid (fun V (hV:Mo B m g ao cap L d V vq vt vf vd va vs vr)=>hV.zV (d.obj.bss+n) hs);have w1:IntKind.i64.wrap (d.obj.bss+n)=d.obj.bss+n:=IntWalk.i64_in _ ⟨by omega,by omega⟩;clear hb hf RS;go_wp2
   go_region
   have M3:=hid ((H.o.refl (ts:=rC)).after (us:=[40]) ⟨⟨_,_,_,_,_,_,_,(N1.o _ H.o).2.2⟩,(N1.o _ H.o).2.1,(N1.o _ H.o).1⟩ (by simp))
   go_end0
   rw [RF.o];exact ⟨rfl,M3.o.grown (yg (World.grownBy.refl _ _))⟩
 ·have f1:((d.fe:Int) == 0)=false:=by simp; omega
  have RF:=hid (show X=d by
   have z:Rf.aH (decide (64 < d.obj.bss+n)) 13 d.op d=d:=by
    unfold Rf.aH Rf.bad;rw [if_neg hf];split <;> rfl
   rw [RS.o,z,if_neg hf])
  clear hf RS;go_wp2
  go_end0
  rw [RF.o];exact ⟨rfl,H.o.refl⟩
theorem yhp {w1:World} {b n:Nat} (h:w1.ownsRow b 3 1 (.slice (some ⟨b,0,none⟩) n n) n (madeCells (Value.int .i64 0).cells (n * 1)).toList):yE w1 (some ⟨b,0,none⟩) n (List.replicate n 0):=by
 refine yE.aF (base:=b) (n:=n) (cap:=n) (ws:=List.replicate n 0) ?_;have e2:(madeCells (Value.int .i64 0).cells (n * 1)).toList=(List.replicate n (0:Int)).map (Value.int .i64):=by
  rw [Nat.mul_one];show (madeCells #[Value.int .i64 0] n).toList=_;rw [toList_madeCells_one];simp
 rw [e2] at h;exact h
theorem PU (B m g:Nat) (ao:Option Addr) (cap:Nat) (L:List Rf.Tk) (d:Rf.Ds) (n:Nat) (W:World) (h:rJ B m g ao cap L d W) (hn:n<=4096) :
  Calls Tryz.prog 77 #[.pointer (some ⟨m,0,none⟩),.int .i64 n] W fun en W'=>en = .returned (.tuple #[])/\yO B m g ao cap L rC W (Rf.empty n d) W':=by
 obtain ⟨i0,hi,hz0,hz1,hz2⟩:=info_parts Tryz.iC;obtain ⟨vq,vt,vf,vd,va,vs,vr,h⟩:=h;have H:=hid h;have c2:=yp h.md 2;have c5:=yp h.md 5;simp only [yr,bB,yml,bf] at c2 c5;clear h;have RS:=hid (show Rf.empty n d=(if d.fe=0 then (if d.ah=4 then Rf.nothing n d else Rf.lay 0 0 0 (List.replicate n 0) d) else d) from rfl);generalize Rf.empty n d=X at *;go_enter Tryz.func77,Tryz.ntmps77;by_cases hf:d.fe=0
 ·have f1:((d.fe:Int) != 0)=false:=by simp [hf]
  rw [if_pos hf] at RS;by_cases h4:d.ah=4
  ·have f2:((d.ah:Int) == 4)=true:=by simp [h4]
   rw [if_pos h4] at RS;clear hf h4;go_wp2_with fail;refine (ygW B m g ao cap L d n W ⟨_,_,_,_,_,_,_,H.o⟩ ⟨by omega,by omega⟩).mono ?_;rintro e V3 ⟨rfl,h3⟩;have M3:=hid h3;clear h3;go_wp2
   (try simp only [Exit.inBlock,Exit.then]); refine bodyPost_ret (results_none rfl _ _ _) rfl ?_
   rw [RS.o];exact ⟨rfl,M3.o⟩
  ·have f2:((d.ah:Int) == 4)=false:=by simp; omega
   rw [if_neg h4] at RS;have H4:=hid h4;clear hf h4;go_wp2_with (first | (refine wpList_make_full _ rfl _ _ 36 rfl W.heap.size 3 i0 (.int .i64 0) 1 Tryz.underlying36 hi hz0 hz1 .i64 .i64 (n:Int) (n:Int) n rfl rfl rfl rfl (by rw [hz2]; omega) (by unfold maxLen; omega) (Nat.le_refl _) ?_; intro w1 hown hgrow; have WA:=hid (yhp hown); have HG:=hid hgrow; clear hown hgrow) | fail)
   have cY:=hid (Gg B m g ao cap L d 0 0 0 0 none 0 0 (some ⟨W.heap.size,0,none⟩) n (List.replicate n 0) w1 ⟨_,_,_,_,_,_,_,H.o.grown HG.o⟩ H4.o WA.o (by rw [List.length_replicate]; exact hn));rw [List.length_replicate] at cY;refine cY.o.mono ?_;rintro e V3 ⟨rfl,h3⟩;have M3:=hid (((H.o.refl (ts:=rC)).grown HG.o).after h3 (fun _ x=>x));clear h3 cY;go_wp2
   go_end0
   rw [RS.o];exact ⟨rfl,M3.o⟩
 ·have f1:((d.fe:Int) != 0)=true:=by simp; omega
  rw [if_neg hf] at RS;clear hf;go_wp2
  (try simp only [Exit.inBlock,Exit.then]); refine bodyPost_ret (results_none rfl _ _ _) rfl ?_
  rw [RS.o];exact ⟨rfl,H.o.refl⟩
end Go.Proofs.YtnkkepfcpjllmaaGreatDoor
