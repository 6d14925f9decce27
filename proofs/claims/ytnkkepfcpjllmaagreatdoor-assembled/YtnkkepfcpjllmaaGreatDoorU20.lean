
import Derived.Test.YtnkkepfcpjllmaaGreatDoorU19
set_option maxHeartbeats 16000000
set_option maxRecDepth 100000
namespace Go.Proofs.YtnkkepfcpjllmaaGreatDoor
open Go.RowKit
section
variable {B m g:Nat} {ao:Option Addr} {cap:Nat} {L:List Rf.Tk} {d d':Rf.Ds} {W V V':World} {vq vt vf vd va vs vr v:Value} {ts:List TypeId} {Z n:Nat} {xs:List Value} {ob:Obj}
theorem Mo.sO (h:Mo B m g ao cap L d V vq vt vf vd va vs vr) (hr:V.ownsRow Z 3 1 v n xs) (hB:B<=Z) (hg:(V.alloc ob).grownBy V' v.ownBlock) (hz:∀ u∈[vt,vf,vd,va],∀ k,u.ownBlock=some k->k < Z):Mo B m g ao cap L d V' vq vt vf vd va vs vr:=by
 have ks:=OO hr hg;have hr2:=Iu hr hB;have bl:=Ox hr2 h.size hg;have kr:∀ {u:Value} {q:Nat} {ys:List Value},u∈[vt,vf,vd,va]->V.ownsRow B 3 1 u q ys->V'.ownsRow B 3 1 u q ys:=fun hu ho=>Iy ho fun k hk=>by
  have l1:=(ho.lt k hk).2;have l2:=hz _ hu k hk;have b1:=hg.block k (by simp; omega) (fun e=>by have:=(hr.lt k e.symm).1; omega);rw [b1];exact (aW V ob none).block k l1 (by simp)
 exact h.newObj (o':=d.obj) ks (by decide) bl ⟨ks _ _ _ (by decide) h.own.blk,kr (by simp) h.own.text,kr (by simp) h.own.far,kr (by simp) h.own.data,kr (by simp) h.own.align,yh h.own.syms ks (by decide),yh h.own.aj ks (by decide),h.own.apart⟩ h.sz
theorem qX.sO (h:qX B m g ao cap L ts W d V vt vf vd va) (hr:V.ownsRow Z 3 1 v n xs) (hB:B<=Z) (hW:W.heap.size<=Z) (hg:(V.alloc ob).grownBy V' v.ownBlock) (hz:∀ u∈[vt,vf,vd,va],∀ k,u.ownBlock=some k->k < Z):qX B m g ao cap L ts W d V' vt vf vd va:=by
 obtain ⟨⟨vq,vs,vr,hm⟩,bl,kp⟩:=h;refine ⟨⟨vq,vs,vr,hm.sO hr hB hg hz⟩,bl.trans (Ox (Iu hr hB) hm.size hg),fun k cs t ht hk=>?_⟩;refine ((kp k cs t ht hk).grown (aW V ob none) (by simp)).grown hg (fun e=>?_);have h1:=(hr.lt k e.symm).1;have h2:=hk.lt;omega
theorem qX.gP {rg:Nat} {cs:Array Value} (h:qX B m g ao cap L ts W d V vt vf vd va) (hb:yd V rg cs 98) (hB:B<=rg) (hr:W.heap.size<=rg) (o:Nat) (u:Value):qX B m g ao cap L ts W d (V.setCell ⟨rg,o,none⟩ u) vt vf vd va:=by
 obtain ⟨⟨vq,vs,vr,hm⟩,bl,kp⟩:=h;refine ⟨⟨vq,vs,vr,hm.gP hb hB o u⟩,bl.trans (zh o u hB hm.size),fun k cs' t ht hk=>?_⟩;refine (kp k cs' t ht hk).grown (yy V rg o u) (fun e=>?_)
 have:=hk.lt
 simp at e;omega
theorem Mo.Kr (h:Mo B m g ao cap L d V vq vt vf vd va vs vr):∀ u∈[vt,vf,vd,va],∀ k,u.ownBlock=some k->k < V.heap.size:=fun u hu k hk=>by
 simp only [List.mem_cons,List.not_mem_nil,or_false] at hu;rcases hu with rfl | rfl | rfl | rfl
 ·exact (h.own.text.lt k hk).2
 ·exact (h.own.far.lt k hk).2
 ·exact (h.own.data.lt k hk).2
 ·exact (h.own.align.lt k hk).2
end
namespace Rf
def cnt:List Nat->Nat
 | []=>0
 | c :: cs=>(if c=114\/c=112 then 1 else 0)+cnt cs
theorem wm (L:List Tk) (d:Ds):(reg L d).1<=31:=by
 unfold reg;split
 ·split
  ·exact Nat.zero_le _
  ·rename_i r hr
   have:=(xR _ _ hr).1
   show r<=31;omega
 ·exact Nat.zero_le _
structure AA (G:Got):Prop where
 num:-9999999999<=G.num/\G.num<=9999999999
 rs:∀ x∈G.rs,x<=31
end Rf
def ko (vr:Value) (G:Rf.Got):Array Value:=#[vr,.int .i64 G.num,.int .i64 G.sym,.int .i64 G.add]
structure Av (Z xb gb sb:Nat) (sc:Array Value) (G:Rf.Got) (V:World) (vr:Value):Prop where
 blk:yd V gb (ko vr G) 98
 res:yd V xb #[.slice none 0 0,.int .i64 0,.int .i64 0,.int .i64 0] 98
 row:V.ownsRow Z 3 1 vr G.rs.length (G.rs.map fun x=>Value.int .i64 (x:Nat))
 shape:yd V sb sc 96
 ok:Rf.AA G
section
variable {B m g:Nat} {ao:Option Addr} {cap:Nat} {L:List Rf.Tk} {d:Rf.Ds} {W V V' w3:World} {vt vf vd va vr v':Value} {ts:List TypeId} {Z xb gb sb:Nat} {sc:Array Value} {G G':Rf.Got} {ob:Obj}
theorem Av.keep (h:Av Z xb gb sb sc G V vr) (k:yG pO V V'):Av Z xb gb sb sc G V' vr:=⟨k _ _ _ (by decide) h.blk,k _ _ _ (by decide) h.res,yh h.row k (by decide),k _ _ _ (by decide) h.shape,h.ok⟩
theorem Av.set (h:Av Z xb gb sb sc G V vr) (hx:xb≠gb) (o:Nat) (u:Value) (hc:(ko vr G).setIfInBounds o u=ko vr G') (hr:G'.rs=G.rs) (ok:Rf.AA G'):Av Z xb gb sb sc G' (V.setCell ⟨gb,o,none⟩ u) vr:=by
 have ks:=tX h.blk o u;refine ⟨by rw [<- hc]; exact h.blk.set o u,h.res.grown (yy V gb o u) (by simpa using hx),by rw [hr]; exact yh h.row ks (by decide),ks _ _ _ (by decide) h.shape,ok⟩
theorem Av.append (M:qX B m g ao cap L ts W d V vt vf vd va) (h:Av Z xb gb sb sc G V vr) (hB:B<=Z) (hW:W.heap.size<=Z) (hgb:Z<=gb) (hx:xb≠gb) (hz:∀ u∈[vt,vf,vd,va],∀ k,u.ownBlock=some k->k < Z) (r:Nat) (h31:r<=31) (hown:w3.ownsRow Z 3 1 v' (G.rs.length+1) ((G.rs.map fun x=>Value.int .i64 (x:Nat)) ++ [.int .i64 r])) (hg:(V.alloc ob).grownBy w3 vr.ownBlock) :
  yd w3 gb (ko vr G) 98/\qX B m g ao cap L ts W d (w3.setCell ⟨gb,0,none⟩ v') vt vf vd va/\Av Z xb gb sb sc { G with rs:=G.rs ++ [r] } (w3.setCell ⟨gb,0,none⟩ v') v':=by
 have k3:=OO h.row hg;have b3:=k3 _ _ _ (by decide) h.blk;have ks:=tX b3 0 v';refine ⟨b3,(M.sO h.row hB hW hg hz).gP b3 (by omega) (by omega) 0 v',⟨by simpa [ko] using b3.set 0 v',(k3 _ _ _ (by decide) h.res).grown (yy w3 gb 0 v') (by simpa using hx),?_,ks _ _ _ (by decide) (k3 _ _ _ (by decide) h.shape),⟨h.ok.num,fun x hx=>?_⟩⟩⟩
 ·rw [iA,List.map_append];exact yh hown ks (by decide)
 ·rcases List.mem_append.1 hx with hx | hx
  ·exact h.ok.rs x hx
  ·obtain rfl:x=r:=by simpa using hx
   exact h31
end
def U0 (b:Nat) (w:World):Nat:=match w.cell? ⟨b,0,none⟩ with | some (.slice _ n _)=>n | _=>0
theorem XP {b:Nat} {w:World} {a:Option Addr} {n c:Nat} (h:w.cell? ⟨b,0,none⟩=some (.slice a n c)):U0 b w=n:=by
 unfold U0;rw [h]
theorem LD (L:List Rf.Tk) (d:Rf.Ds):(Rf.reg L d).2.obj=d.obj/\(Rf.reg L d).2.said=d.said:=by
 unfold Rf.reg;split
 ·split
  ·exact ⟨(yq _ _ _).2,(yq _ _ _).1⟩
  ·exact ⟨Rf.iy _ _,Gl _ _⟩
 ·exact ⟨(yq _ _ _).2,(yq _ _ _).1⟩
theorem Jj (L:List Rf.Tk) (c:Nat) (d:Rf.Ds):(Rf.expect L c d).obj=d.obj/\(Rf.expect L c d).said=d.said:=by
 unfold Rf.expect;split
 ·exact ⟨Rf.iy _ _,Gl _ _⟩
 ·exact ⟨(yq _ _ _).2,(yq _ _ _).1⟩
theorem ygB (B m g:Nat) (ao:Option Addr) (cap:Nat) (L:List Rf.Tk) (d:Rf.Ds) (nm form:List UInt8) (lo hi:Int) (W:World) (h:rJ B m g ao cap L d W) (hf:form.length<=16) (hc:Rf.cnt (form.map (·.toNat))<=3) :
  Calls Tryz.prog 55 #[.pointer (some ⟨m,0,none⟩),.agg #[.string (bs nm),.string (bs form),.int .i64 lo,.int .i64 hi]] W fun en W'=>∃ rb cr,en = .returned (.agg #[.slice (some ⟨rb,0,none⟩) 3 cr,.int .i64 (Rf.operands L (form.map (·.toNat)) lo hi d).1.num,.int .i64 (Rf.operands L (form.map (·.toNat)) lo hi d).1.sym,.int .i64 (Rf.operands L (form.map (·.toNat)) lo hi d).1.add])/\(∀ i,i < 3->W'.cell? ⟨rb,i,none⟩=some (.int .i64 (Rf.aG (Rf.operands L (form.map (·.toNat)) lo hi d).1 i:Nat)))/\Rf.AA (Rf.operands L (form.map (·.toNat)) lo hi d).1/\yO B m g ao cap L pO W (Rf.operands L (form.map (·.toNat)) lo hi d).2 W':=by
 obtain ⟨i0,hi0,hz0,hz1,hz2⟩:=info_parts Tryz.iC;obtain ⟨vq,vt,vf,vd,va,vs,vr,h⟩:=h;have HB:=hid h.size;have HZ:=hid h.Kr;have OP:=hid (show Rf.operands L (form.map (·.toNat)) lo hi d=(Rf.pad (Rf.aS L lo hi (form.map (·.toNat)) ⟨[],0,0,0⟩ d).1,(Rf.aS L lo hi (form.map (·.toNat)) ⟨[],0,0,0⟩ d).2) from rfl);generalize Rf.operands L (form.map (·.toNat)) lo hi d=R at *;generalize hR0:Rf.aS L lo hi (form.map (·.toNat)) ⟨[],0,0,0⟩ d=R0 at *;have YS:=hid hR0;have A1:=aW W (.cells #[.string (bs nm),.string (bs form),.int .i64 lo,.int .i64 hi] 96) none;have B1:=yd.new W #[.string (bs nm),.string (bs form),.int .i64 lo,.int .i64 hi] 96
 have A2:=aW (W.alloc (.cells #[.string (bs nm),.string (bs form),.int .i64 lo,.int .i64 hi] 96)) (.cells #[.slice none 0 0,.int .i64 0,.int .i64 0,.int .i64 0] 98) none;have A3:=aW ((W.alloc (.cells #[.string (bs nm),.string (bs form),.int .i64 lo,.int .i64 hi] 96)).alloc (.cells #[.slice none 0 0,.int .i64 0,.int .i64 0,.int .i64 0] 98)) (.cells #[.slice none 0 0,.int .i64 0,.int .i64 0,.int .i64 0] 98) none;have B2:=yd.new (W.alloc (.cells #[.string (bs nm),.string (bs form),.int .i64 lo,.int .i64 hi] 96)) #[.slice none 0 0,.int .i64 0,.int .i64 0,.int .i64 0] 98;have B3:=yd.new ((W.alloc (.cells #[.string (bs nm),.string (bs form),.int .i64 lo,.int .i64 hi] 96)).alloc (.cells #[.slice none 0 0,.int .i64 0,.int .i64 0,.int .i64 0] 98)) #[.slice none 0 0,.int .i64 0,.int .i64 0,.int .i64 0] 98
 rw [wL] at B2;rw [wL,wL] at B3;have M0:=hid ((h.xQ (ts:=pO)).grown (ya A1 (ya A2 A3)));have Ve:Hd (Av W.heap.size (W.heap.size+1) (W.heap.size+1+1) W.heap.size #[.string (bs nm),.string (bs form),.int .i64 lo,.int .i64 hi] ⟨[],0,0,0⟩ (((W.alloc (.cells #[.string (bs nm),.string (bs form),.int .i64 lo,.int .i64 hi] 96)).alloc (.cells #[.slice none 0 0,.int .i64 0,.int .i64 0,.int .i64 0] 98)).alloc (.cells #[.slice none 0 0,.int .i64 0,.int .i64 0,.int .i64 0] 98)) (.slice none 0 0)) :=
  ⟨B3,B2.grown A3 (by simp),World.ownsRow_nil _ _ _ _,B1.grown (ya A2 A3) (by simp),⟨by decide,by simp⟩⟩
 clear hR0 A1 A2 A3 B1 B2 B3 h;go_enter Tryz.func55,Tryz.ntmps55;go_wp2;have Rj:=HB.o;have VK:=Nat.le_refl W.heap.size;have ZU:(bs form).size=form.length:=zw _
 go_loopw [6] (fun i wr=>∃ (k:Nat) (G:Rf.Got) (e:Rf.Ds) (u:Value),k<=form.length/\i = .int .i64 k/\Rf.aS L lo hi ((form.map (·.toNat)).drop k) G e=R0/\G.rs.length+Rf.cnt ((form.map (·.toNat)).drop k)<=3/\qX B m g ao cap L pO W e wr vt vf vd va/\Av W.heap.size (W.heap.size+1) (W.heap.size+1+1) W.heap.size #[.string (bs nm),.string (bs form),.int .i64 lo,.int .i64 hi] G wr u) (fun i _=>form.length - (intOf i).toNat)
 case atStart=>exact ⟨0,⟨[],0,0,0⟩,d,.slice none 0 0,Nat.zero_le _,rfl,YS.o,by simpa using hc,M0.o,Ve.o⟩
 case round =>
  obtain ⟨k,G,e,u,hk,rfl,hop,hcn,hM,hG⟩:=hrel;obtain ⟨ar,cr,rfl⟩:=yi hG.row;have M:=hid hM;have GA:=hid hG;have hwr:=hM.2.1.size;obtain ⟨⟨KA,vs1,Wd,hm⟩,-,-⟩:=hM;have k5:=yp hm.md 5;simp only [yr,bB,yml,bf] at k5;have Ce:=hid hm;have Cb:=hid hop;have g3:G.rs.length<=3:=by omega
  clear hG hm hop M0 Ve;have s1:=GA.o.shape.cell 1;have s2:=GA.o.shape.cell 2;have s3:=GA.o.shape.cell 3;have b0:=GA.o.blk.cell 0;have b1:=GA.o.blk.cell 1;have b2:=GA.o.blk.cell 2;have b3:=GA.o.blk.cell 3;have z0:=GA.o.blk.free 0;have z1:=GA.o.blk.free 1;have z2:=GA.o.blk.free 2;have z3:=GA.o.blk.free 3;simp only [ko,bB,yml,bf] at s1 s2 s3 b0 b1 b2 b3;by_cases hgo:k < form.length/\e.fe=0
  ·obtain ⟨hlt,hfe⟩:=hgo;have d1:decide ((k:Int) < (form.length:Int))=true:=by simp; omega
   have d2:((e.fe:Int) == 0)=true:=by simp [hfe]
   have ix:((bs form)[k]'(by rw [ZU]; exact hlt)).toNat=form[k].toNat:=rfl;have j1:(k:Int) < (form.length:Int):=by omega
   have DR:=hid (show (form.map (·.toNat)).drop k=form[k].toNat :: (form.map (·.toNat)).drop (k+1) by rw [Js (by simpa using hlt),List.getElem_map]);have OS:=hid (show Rf.aS L lo hi ((form.map (·.toNat)).drop (k+1)) (Rf.iU L lo hi form[k].toNat G e).1 (Rf.iU L lo hi form[k].toNat G e).2=R0 by
    rw [<- Cb.o,DR.o];show _=if e.fe=0 then Rf.aS L lo hi ((form.map (·.toNat)).drop (k+1)) (Rf.iU L lo hi form[k].toNat G e).1 (Rf.iU L lo hi form[k].toNat G e).2 else (G,e)
    rw [if_pos hfe])
   have CN:G.rs.length+Rf.cnt (form[k].toNat :: (form.map (·.toNat)).drop (k+1))<=3:=by rw [<- DR.o]; exact hcn
   simp only [Rf.cnt] at CN;clear DR Cb hcn hfe;generalize form[k].toNat=c at *;by_cases JW:c=114
   ·subst JW;rw [show Rf.iU L lo hi 114 G e=({ G with rs:=G.rs ++ [(Rf.reg L e).1] },(Rf.reg L e).2) from rfl] at OS;go_wp2_with fail;refine (Qb m g KA ao cap L e wr Ce.o.md).mono ?_;rintro en V1 ⟨rfl,h1⟩;have K1:=hid (Ce.o.kD (ts:=pO) h1 (LD _ _).1 (LD _ _).2 (by simp));have M1:=hid (M.o.after K1.o (fun t ht=>ht));have fK:=hid (GA.o.keep K1.o.2.2);clear h1 K1;clear s1 s2 s3 b0 b1 b2 b3 z0 z1 z2 z3;have s1:=fK.o.shape.cell 1;have s2:=fK.o.shape.cell 2;have s3:=fK.o.shape.cell 3;have b0:=fK.o.blk.cell 0;have b1:=fK.o.blk.cell 1;have b2:=fK.o.blk.cell 2;have b3:=fK.o.blk.cell 3;have z0:=fK.o.blk.free 0
    have z1:=fK.o.blk.free 1;have z2:=fK.o.blk.free 2;have z3:=fK.o.blk.free 3;simp only [ko,bB,yml,bf] at s1 s2 s3 b0 b1 b2 b3;have row:=fK.o.row;go_wp2_with (at_builtin; refine wpList_append_own _ rfl _ _ 36 rfl W.heap.size 3 i0 (.int .i64 0) 1 8 Tryz.underlying36 hi0 hz0 hz1 hz2 rfl (by decide) _ _ _ rfl (row.alloc _) ⟨V1.heap.size,0,none⟩ 1 1 [.int .i64 ((Rf.reg L e).1:Nat)] rfl rfl (cell_one_new _ _ _) (by intro u hu; simp at hu; subst hu; rfl) (by unfold maxLen; omega) (by omega) (by have:=M1.o.2.1.size; have:=VK; simp; omega) ?_; intro v' w3 hown' hgrow _; have E3:=hid (Av.append M1.o fK.o Rj (Nat.le_refl _) (by omega) (by omega) HZ.o (Rf.reg L e).1 (Rf.wm _ _) hown' hgrow); obtain ⟨Pf,Pk,rfl⟩:=yi hown'; have u0:=E3.o.1.cell 0; have uf:=E3.o.1.free 0; simp only [ko,bB,bf] at u0; clear hown' hgrow row)
    go_roundw
    case rel=>exact ⟨k+1,{ G with rs:=G.rs ++ [(Rf.reg L e).1] },(Rf.reg L e).2,_,by omega,by go_num,OS.o,by have:=CN; simp at this ⊢; omega,E3.o.2.1,E3.o.2.2⟩
    case measure=>simp [intOf]; omega
   have n114:((c:Int) == 114)=false:=by simp; omega
   by_cases Ri:c=44
   ·subst Ri;rw [show Rf.iU L lo hi 44 G e=(G,Rf.expect L 44 e) from rfl] at OS;go_wp2_with fail;refine (OD m g KA ao cap L e 44 wr Ce.o.md).mono ?_;rintro en V1 ⟨rfl,h1⟩;have K1:=hid (Ce.o.kD (ts:=pO) h1 (Jj _ _ _).1 (Jj _ _ _).2 (by simp));have M1:=hid (M.o.after K1.o (fun t ht=>ht));have fK:=hid (GA.o.keep K1.o.2.2);clear h1 K1;clear s1 s2 s3 b0 b1 b2 b3 z0 z1 z2 z3;go_wp2
    go_roundw
    case rel=>exact ⟨k+1,G,(Rf.expect L 44 e),_,by omega,by go_num,OS.o,by have:=CN; simp at this ⊢; omega,M1.o,fK.o⟩
    case measure=>simp [intOf]; omega
   have n44:((c:Int) == 44)=false:=by simp; omega
   by_cases JV:c=110
   ·subst JV;rw [show Rf.iU L lo hi 110 G e=({ G with num:=(Rf.num L lo hi e).1 },(Rf.num L lo hi e).2) from rfl] at OS;go_wp2_with fail;refine (KL m g KA ao cap L e lo hi wr Ce.o.md).mono ?_;rintro en V1 ⟨rfl,h1⟩;have K1:=hid (Ce.o.kD (ts:=pO) h1 (Rf.jJ _ _ _ _) (Ji _ _ _ _) (by simp));have M1:=hid (M.o.after K1.o (fun t ht=>ht));have fK:=hid (GA.o.keep K1.o.2.2);clear h1 K1;clear s1 s2 s3 b0 b1 b2 b3 z0 z1 z2 z3;have s1:=fK.o.shape.cell 1;have s2:=fK.o.shape.cell 2;have s3:=fK.o.shape.cell 3;have b0:=fK.o.blk.cell 0;have b1:=fK.o.blk.cell 1;have b2:=fK.o.blk.cell 2;have b3:=fK.o.blk.cell 3;have z0:=fK.o.blk.free 0
    have z1:=fK.o.blk.free 1;have z2:=fK.o.blk.free 2;have z3:=fK.o.blk.free 3;simp only [ko,bB,yml,bf] at s1 s2 s3 b0 b1 b2 b3;have NB:=hid (Oz Ce.o.md.ok lo hi);have IV:=hid (fK.o.set (by omega) 1 (.int .i64 (Rf.num L lo hi e).1) (G':={ G with num:=(Rf.num L lo hi e).1 }) (by simp [ko]) rfl ⟨NB.o,fK.o.ok.rs⟩);have M2:=hid (M1.o.gP fK.o.blk (by omega) (by omega) 1 (.int .i64 (Rf.num L lo hi e).1));go_wp2
    go_roundw
    case rel=>exact ⟨k+1,{ G with num:=(Rf.num L lo hi e).1 },(Rf.num L lo hi e).2,_,by omega,by go_num,OS.o,by have:=CN; simp at this ⊢; omega,M2.o,IV.o⟩
    case measure=>simp [intOf]; omega
   have n110:((c:Int) == 110)=false:=by simp; omega
   by_cases JX:c=115
   ·subst JX;rw [show Rf.iU L lo hi 115 G e=({ G with sym:=(Rf.sym L e).1 },(Rf.sym L e).2) from rfl] at OS;go_wp2_with fail;refine (UJ B m g ao cap L e wr _ _ _ _ _ _ _ Ce.o).mono ?_;rintro en V1 ⟨rfl,h1⟩;have M1:=hid (M.o.after h1 (fun t ht=>ht));have fK:=hid (GA.o.keep h1.2.2);clear h1;clear s1 s2 s3 b0 b1 b2 b3 z0 z1 z2 z3;have s1:=fK.o.shape.cell 1;have s2:=fK.o.shape.cell 2;have s3:=fK.o.shape.cell 3;have b0:=fK.o.blk.cell 0;have b1:=fK.o.blk.cell 1;have b2:=fK.o.blk.cell 2;have b3:=fK.o.blk.cell 3;have z0:=fK.o.blk.free 0;have z1:=fK.o.blk.free 1;have z2:=fK.o.blk.free 2;have z3:=fK.o.blk.free 3
    simp only [ko,bB,yml,bf] at s1 s2 s3 b0 b1 b2 b3;have IV:=hid (fK.o.set (by omega) 2 (.int .i64 (Rf.sym L e).1) (G':={ G with sym:=(Rf.sym L e).1 }) (by simp [ko]) rfl ⟨fK.o.ok.num,fK.o.ok.rs⟩);have M2:=hid (M1.o.gP fK.o.blk (by omega) (by omega) 2 (.int .i64 (Rf.sym L e).1));go_wp2
    go_roundw
    case rel=>exact ⟨k+1,{ G with sym:=(Rf.sym L e).1 },(Rf.sym L e).2,_,by omega,by go_num,OS.o,by have:=CN; simp at this ⊢; omega,M2.o,IV.o⟩
    case measure=>simp [intOf]; omega
   have n115:((c:Int) == 115)=false:=by simp; omega
   by_cases h97:c=97
   ·subst h97;rw [show Rf.iU L lo hi 97 G e=({ G with sym:=(Rf.added L e).1.1,add:=(Rf.added L e).1.2 },(Rf.added L e).2) from rfl] at OS;go_wp2_with fail;refine (Xp B m g ao cap L e wr _ _ _ _ _ _ _ Ce.o).mono ?_;rintro en V1 ⟨rfl,h1⟩;have M1:=hid (M.o.after h1 (fun t ht=>ht));have fK:=hid (GA.o.keep h1.2.2);clear h1;clear s1 s2 s3 b0 b1 b2 b3 z0 z1 z2 z3;have s1:=fK.o.shape.cell 1;have s2:=fK.o.shape.cell 2;have s3:=fK.o.shape.cell 3;have b0:=fK.o.blk.cell 0;have b1:=fK.o.blk.cell 1;have b2:=fK.o.blk.cell 2;have b3:=fK.o.blk.cell 3;have z0:=fK.o.blk.free 0;have z1:=fK.o.blk.free 1;have z2:=fK.o.blk.free 2
    have z3:=fK.o.blk.free 3;simp only [ko,bB,yml,bf] at s1 s2 s3 b0 b1 b2 b3;have IV:=hid (fK.o.set (by omega) 2 (.int .i64 (Rf.added L e).1.1) (G':={ G with sym:=(Rf.added L e).1.1 }) (by simp [ko]) rfl ⟨fK.o.ok.num,fK.o.ok.rs⟩);have M2:=hid (M1.o.gP fK.o.blk (by omega) (by omega) 2 (.int .i64 (Rf.added L e).1.1));have Qv:=hid (IV.o.set (by omega) 3 (.int .i64 (Rf.added L e).1.2) (G':={ G with sym:=(Rf.added L e).1.1,add:=(Rf.added L e).1.2 }) (by simp [ko]) rfl ⟨fK.o.ok.num,fK.o.ok.rs⟩);have M3:=hid (M2.o.gP IV.o.blk (by omega) (by omega) 3 (.int .i64 (Rf.added L e).1.2));go_wp2
    go_roundw
    case rel=>exact ⟨k+1,{ G with sym:=(Rf.added L e).1.1,add:=(Rf.added L e).1.2 },(Rf.added L e).2,_,by omega,by go_num,OS.o,by have:=CN; simp at this ⊢; omega,M3.o,Qv.o⟩
    case measure=>simp [intOf]; omega
   have n97:((c:Int) == 97)=false:=by simp; omega
   by_cases h112:c=112
   ·subst h112;rw [show Rf.iU L lo hi 112 G e=({ G with num:=(Rf.num L lo hi e).1,rs:=G.rs ++ [(Rf.reg L (Rf.expect L 40 (Rf.num L lo hi e).2)).1] },Rf.expect L 41 (Rf.reg L (Rf.expect L 40 (Rf.num L lo hi e).2)).2) from rfl] at OS;go_wp2_with fail;refine (KL m g KA ao cap L e lo hi wr Ce.o.md).mono ?_;rintro en V1 ⟨rfl,h1⟩;have K1:=hid (Ce.o.kD (ts:=pO) h1 (Rf.jJ _ _ _ _) (Ji _ _ _ _) (by simp));have M1:=hid (M.o.after K1.o (fun t ht=>ht));have fK:=hid (GA.o.keep K1.o.2.2);clear h1 K1;clear s1 s2 s3 b0 b1 b2 b3 z0 z1 z2 z3;have s1:=fK.o.shape.cell 1;have s2:=fK.o.shape.cell 2;have s3:=fK.o.shape.cell 3
    have b0:=fK.o.blk.cell 0;have b1:=fK.o.blk.cell 1;have b2:=fK.o.blk.cell 2;have b3:=fK.o.blk.cell 3;have z0:=fK.o.blk.free 0;have z1:=fK.o.blk.free 1;have z2:=fK.o.blk.free 2;have z3:=fK.o.blk.free 3;simp only [ko,bB,yml,bf] at s1 s2 s3 b0 b1 b2 b3;have NB:=hid (Oz Ce.o.md.ok lo hi);have IV:=hid (fK.o.set (by omega) 1 (.int .i64 (Rf.num L lo hi e).1) (G':={ G with num:=(Rf.num L lo hi e).1 }) (by simp [ko]) rfl ⟨NB.o,fK.o.ok.rs⟩);have M2:=hid (M1.o.gP fK.o.blk (by omega) (by omega) 1 (.int .i64 (Rf.num L lo hi e).1));obtain ⟨⟨TG,vs2,Wh,hm2⟩,-,-⟩:=M2.o;have Mf:=hid hm2;clear hm2;go_wp2_with fail
    refine (OD m g TG ao cap L (Rf.num L lo hi e).2 40 _ Mf.o.md).mono ?_;rintro en V3 ⟨rfl,h1⟩;have K3:=hid (Mf.o.kD (ts:=pO) h1 (Jj _ _ _).1 (Jj _ _ _).2 (by simp));have M3:=hid (M2.o.after K3.o (fun t ht=>ht));have Qv:=hid (IV.o.keep K3.o.2.2);clear h1 K3;clear s1 s2 s3 b0 b1 b2 b3 z0 z1 z2 z3;obtain ⟨⟨Jg,vs3,Ov,uV⟩,-,-⟩:=M3.o;have Mg:=hid uV;clear uV;go_wp2_with fail;refine (Qb m g Jg ao cap L (Rf.expect L 40 (Rf.num L lo hi e).2) V3 Mg.o.md).mono ?_;rintro en V4 ⟨rfl,h1⟩;have K4:=hid (Mg.o.kD (ts:=pO) h1 (LD _ _).1 (LD _ _).2 (by simp));have M4:=hid (M3.o.after K4.o (fun t ht=>ht));have BS:=hid (Qv.o.keep K4.o.2.2)
    clear h1 K4;have s1:=BS.o.shape.cell 1;have s2:=BS.o.shape.cell 2;have s3:=BS.o.shape.cell 3;have b0:=BS.o.blk.cell 0;have b1:=BS.o.blk.cell 1;have b2:=BS.o.blk.cell 2;have b3:=BS.o.blk.cell 3;have z0:=BS.o.blk.free 0;have z1:=BS.o.blk.free 1;have z2:=BS.o.blk.free 2;have z3:=BS.o.blk.free 3;simp only [ko,bB,yml,bf] at s1 s2 s3 b0 b1 b2 b3;have row:=BS.o.row;go_wp2_with (at_builtin; refine wpList_append_own _ rfl _ _ 36 rfl W.heap.size 3 i0 (.int .i64 0) 1 8 Tryz.underlying36 hi0 hz0 hz1 hz2 rfl (by decide) _ _ _ rfl (row.alloc _) ⟨V4.heap.size,0,none⟩ 1 1 [.int .i64 ((Rf.reg L (Rf.expect L 40 (Rf.num L lo hi e).2)).1:Nat)] rfl rfl (cell_one_new _ _ _) (by intro u hu; simp at hu; subst hu; rfl) (by unfold maxLen; omega) (by omega) (by have:=M4.o.2.1.size; have:=VK; simp; omega) ?_; intro v' w3 hown' hgrow _; have E5:=hid (Av.append M4.o BS.o Rj (Nat.le_refl _) (by omega) (by omega) HZ.o (Rf.reg L (Rf.expect L 40 (Rf.num L lo hi e).2)).1 (Rf.wm _ _) hown' hgrow); obtain ⟨Pf,Pk,rfl⟩:=yi hown'; have u0:=E5.o.1.cell 0; have uf:=E5.o.1.free 0; simp only [ko,bB,bf] at u0; clear hown' hgrow row)
    obtain ⟨⟨TI,vs5,vr5,He⟩,-,-⟩:=E5.o.2.1;have Mh:=hid He;have M5:=hid E5.o.2.1;have YE:=hid E5.o.2.2;clear He;refine (OD m g TI ao cap L (Rf.reg L (Rf.expect L 40 (Rf.num L lo hi e).2)).2 41 _ Mh.o.md).mono ?_;rintro en V6 ⟨rfl,h1⟩;have K6:=hid (Mh.o.kD (ts:=pO) h1 (Jj _ _ _).1 (Jj _ _ _).2 (by simp));have M6:=hid (M5.o.after K6.o (fun t ht=>ht));have YG:=hid (YE.o.keep K6.o.2.2);clear h1 K6;go_wp2
    go_roundw
    case rel=>exact ⟨k+1,{ G with num:=(Rf.num L lo hi e).1,rs:=G.rs ++ [(Rf.reg L (Rf.expect L 40 (Rf.num L lo hi e).2)).1] },(Rf.expect L 41 (Rf.reg L (Rf.expect L 40 (Rf.num L lo hi e).2)).2),_,by omega,by go_num,OS.o,by have:=CN; simp at this ⊢; omega,M6.o,YG.o⟩
    case measure=>simp [intOf]; omega
   have n112:((c:Int) == 112)=false:=by simp; omega
   rw [show Rf.iU L lo hi c G e=(G,e) by unfold Rf.iU; rw [if_neg JW,if_neg Ri,if_neg JV,if_neg JX,if_neg h97,if_neg h112]] at OS;rw [if_neg (by omega)] at CN;clear JW Ri JV JX h97 h112;go_wp2
   go_roundw
   case rel=>exact ⟨k+1,G,e,_,by omega,by go_num,OS.o,by omega,M.o,GA.o⟩
   case measure=>simp [intOf]; omega
  ·have RE:=hid (show R0=(G,e) by
    rw [<- Cb.o];by_cases hlt:k < form.length
    ·have hfe:¬ e.fe=0:=fun x=>hgo ⟨hlt,x⟩
     rw [Js (by simpa using hlt)];show (if e.fe=0 then _ else (G,e))=(G,e)
     rw [if_neg hfe]
    ·rw [List.drop_eq_nil_of_le (by simp; omega)];rfl)
   rcases (show (decide ((k:Int) < (form.length:Int))=true/\((e.fe:Int) == 0)=false/\(k:Int) < (form.length:Int))\/(decide ((k:Int) < (form.length:Int))=false/\¬ k < form.length) by
    by_cases z:k < form.length
    ·exact .inl ⟨by simp; omega,by simp; exact fun x=>hgo ⟨z,x⟩,by omega⟩
    ·exact .inr ⟨by simp; omega,z⟩) with ⟨d1,d2,j1⟩ | ⟨d1,j1⟩
   all_goals
    clear hgo Cb hcn;go_wp2_with fail;clear s1 s2 s3 b0 b1 b2 b3 z0 z1 z2 z3 k5 Ce;generalize hrs:G.rs.length=n0 at g3;have Ma:=hid hrs;clear hrs
    go_loopw [] (fun w2=>∃ (j:Nat) (u:Value),n0+j<=3/\qX B m g ao cap L pO W e w2 vt vf vd va/\Av W.heap.size (W.heap.size+1) (W.heap.size+1+1) W.heap.size #[.string (bs nm),.string (bs form),.int .i64 lo,.int .i64 hi] { G with rs:=G.rs ++ List.replicate j 0 } w2 u) (fun w2=>3 - U0 (W.heap.size+1+1) w2)
    case atStart=>exact ⟨0,_,g3,M.o,by simpa using GA.o⟩
    case round =>
     clear M GA hwr;obtain ⟨j,u2,hj,hM2,hG2⟩:=hrel;obtain ⟨a2,c2,rfl⟩:=yi hG2.row;have hlen:(G.rs ++ List.replicate j 0).length=n0+j:=by rw [iA,List.length_replicate,Ma.o]
     have M1:=hid hM2;have fK:=hid hG2;have hwq:=hM2.2.1.size;have b0:=hG2.blk.cell 0;have b1:=hG2.blk.cell 1;have b2:=hG2.blk.cell 2;have b3:=hG2.blk.cell 3;have z0:=hG2.blk.free 0;have x0:=hG2.res.cell 0;have x1:=hG2.res.cell 1;have x2:=hG2.res.cell 2;have x3:=hG2.res.cell 3;have y0:=hG2.res.free 0;have y1:=hG2.res.free 1;have y2:=hG2.res.free 2;have y3:=hG2.res.free 3;have row:=hG2.row;simp only [ko,bB,yml,bf] at b0 b1 b2 b3 x0 x1 x2 x3;dsimp only at row;rw [hlen] at b0 row;have LA:=hid (XP b0);clear hM2 hG2 hlen;by_cases h3:n0+j < 3
     ·have g4:((n0+j:Nat):Int) < 3:=by omega
      go_wp2_with (at_builtin; refine wpList_append_own _ rfl _ _ 36 rfl W.heap.size 3 i0 (.int .i64 0) 1 8 Tryz.underlying36 hi0 hz0 hz1 hz2 rfl (by decide) _ _ _ rfl (row.alloc _) ⟨wr.heap.size,0,none⟩ 1 1 [.int .i64 0] rfl rfl (cell_one_new _ _ _) (by intro u hu; simp at hu; subst hu; rfl) (by unfold maxLen; omega) (by omega) (by simp; omega) ?_; intro v' w3 hown' hgrow _; have hlen:(G.rs ++ List.replicate j 0).length=n0+j:=by { rw [iA,List.length_replicate,Ma.o] }; have E3:=hid (Av.append M1.o fK.o Rj (Nat.le_refl _) (by omega) (by omega) HZ.o 0 (by decide) (by dsimp only; rw [hlen]; exact hown') (by dsimp only; rw [hlen]; exact hgrow)); obtain ⟨Pf,Pk,rfl⟩:=yi hown'; have u0:=E3.o.1.cell 0; have uf:=E3.o.1.free 0; simp only [ko,bB,bf] at u0; rw [hlen] at u0; clear hown' hgrow row hlen)
      have RP:G.rs ++ List.replicate (j+1) 0=G.rs ++ List.replicate j 0 ++ [0]:=by rw [List.append_assoc,List.replicate_succ']
      refine ⟨⟨j+1,.slice Pf (n0+j+1) Pk,by omega,E3.o.2.1,?_⟩,?_⟩
      ·rw [RP];exact E3.o.2.2
      ·have q0:=E3.o.2.2.blk.cell 0;simp only [ko,bB,bf] at q0;rw [LA.o,XP q0];omega
     ·have g4:(3:Int)<=((n0+j:Nat):Int):=by omega
      have RF:=hid (show R=({ G with rs:=G.rs ++ List.replicate j 0 },e) by
       rw [OP.o,RE.o];show ({ G with rs:=G.rs ++ List.replicate (3 - G.rs.length) 0 },e)=_;rw [show 3 - G.rs.length=j by have:=Ma.o; omega])
      obtain ⟨sg,cur,rfl,hsb,hs1,hs2,-⟩:=Gh row (by omega);have Pq:sg≠W.heap.size+1:=fun x=>by
       subst x
       have:=hsb.symm.trans fK.o.res
       simp at this
      have HSB:=hid hsb;have HS2:=hid hs2;have F0:=hid (fK.o.res.set 0 (.slice (some ⟨sg,0,none⟩) (n0+j) c2));have F1:=hid (F0.o.set 1 (.int .i64 G.num));have F2:=hid (F1.o.set 2 (.int .i64 G.sym));have F3:=hid (F2.o.set 3 (.int .i64 G.add));have MF:=hid ((((M1.o.gP fK.o.res (by omega) (by omega) 0 (.slice (some ⟨sg,0,none⟩) (n0+j) c2)).gP F0.o (by omega) (by omega) 1 (.int .i64 G.num)).gP F1.o (by omega) (by omega) 2 (.int .i64 G.sym)).gP F2.o (by omega) (by omega) 3 (.int .i64 G.add));have SB:=hid ((((hsb.grown (yy _ (W.heap.size+1) 0 (.slice (some ⟨sg,0,none⟩) (n0+j) c2)) (by simpa using Pq)).grown (yy _ (W.heap.size+1) 1 (.int .i64 G.num)) (by simpa using Pq)).grown (yy _ (W.heap.size+1) 2 (.int .i64 G.sym)) (by simpa using Pq)).grown (yy _ (W.heap.size+1) 3 (.int .i64 G.add)) (by simpa using Pq))
      clear hsb hs2 row hs1;go_wp2;have hj3:n0+j=3:=by omega
      have e0:=F3.o.cell 0;have e1:=F3.o.cell 1;have e2:=F3.o.cell 2;have e3:=F3.o.cell 3;simp only [iW,iR,iT,bB,yml,bf] at e0 e1 e2 e3;refine bodyPost_ret (v:=.agg #[.slice (some ⟨sg,0,none⟩) (n0+j) c2,.int .i64 G.num,.int .i64 G.sym,.int .i64 G.add]) ?_ rfl ⟨sg,⟨c2,by rw [RF.o,hj3]⟩,fun i hi=>?_,by rw [RF.o]; exact fK.o.ok,by rw [RF.o]; exact MF.o.does⟩
      ·clear b0 b1 b2 b3 z0 x0 x1 x2 x3 y0 y1 y2 y3;generalize World.setCell _ _ _=WF at *;simp [results,Tryz.results55,go_sem,e0,e1,e2,e3]
      ·rw [SB.o.cell,RF.o];have h1:(cur.toList.take ((n0+j) * 1))[i]?=((G.rs ++ List.replicate j 0).map fun x=>Value.int .i64 (x:Nat))[i]?:=by rw [HS2.o]
       rw [List.getElem?_take,if_pos (by omega),List.getElem?_map] at h1;have h2:i < (G.rs ++ List.replicate j 0).length:=by rw [iA,List.length_replicate,Ma.o]; omega
       rw [kg h2] at h1;rw [<- Array.getElem?_toList,h1];show some (Value.int .i64 (((G.rs ++ List.replicate j 0)[i]:Nat):Int))=some (.int .i64 (((G.rs ++ List.replicate j 0).getD i 0:Nat):Int));rw [mP,kg h2];rfl
theorem yhL (B m g:Nat) (ao:Option Addr) (cap:Nat) (L:List Rf.Tk) (d:Rf.Ds) (w:List UInt8) (W:World) (h:rJ B m g ao cap L d W) (hs4:d.ah≠4) :
  Calls Tryz.prog 54 #[.pointer (some ⟨m,0,none⟩),.string (bs w)] W fun en W'=>en = .returned (.tuple #[])/\yO B m g ao cap L yW W (if w=[108,119] then Rf.nL L d else Rf.nM L d) W':=by
 obtain ⟨vq,vt,vf,vd,va,vs,vr,h⟩:=h;have RL:=hid (show Rf.nL L d=Rf.address (Rf.reg L d).1 ⟨[],0,(Rf.added L (Rf.expect L 44 (Rf.reg L d).2)).1.1,(Rf.added L (Rf.expect L 44 (Rf.reg L d).2)).1.2⟩ (As.enc 11 (Rf.reg L d).1 (Rf.reg L d).1 0 0:Int) (Rf.added L (Rf.expect L 44 (Rf.reg L d).2)).2 from rfl);have RS:=hid (show Rf.nM L d=Rf.address (Rf.reg L (Rf.expect L 44 (Rf.added L (Rf.expect L 44 (Rf.reg L d).2)).2)).1 ⟨[],0,(Rf.added L (Rf.expect L 44 (Rf.reg L d).2)).1.1,(Rf.added L (Rf.expect L 44 (Rf.reg L d).2)).1.2⟩ (As.enc 12 0 (Rf.reg L (Rf.expect L 44 (Rf.added L (Rf.expect L 44 (Rf.reg L d).2)).2)).1 (Rf.reg L d).1 0:Int) (Rf.reg L (Rf.expect L 44 (Rf.added L (Rf.expect L 44 (Rf.reg L d).2)).2)).2 from rfl)
 generalize Rf.nL L d=XL at *;generalize Rf.nM L d=XS at *;generalize hX:(if w=[108,119] then XL else XS)=X;have RX:=hid hX;clear hX;have HB:=h.size;have H:=hid h;have Pt:=Rf.wm L d;have k1:=hid (LD L d);have cR:=hid (Qb m g vq ao cap L d W h.md);have s1:=hid (Rf.mH L d);clear h;generalize Rf.reg L d=P1 at *;go_enter Tryz.func54,Tryz.ntmps54;go_wp2_with fail;refine cR.o.mono ?_;rintro en V1 ⟨rfl,h1⟩;have M1:=hid (H.o.kD (ts:=yW) h1 k1.o.1 k1.o.2 (by decide));obtain ⟨⟨KA,vs1,Wd,hm1⟩,-,-⟩:=M1.o;have H1:=hid hm1;have k2:=hid (Jj L 44 P1.2);have cE:=hid (OD m g KA ao cap L P1.2 44 V1 hm1.md);have s2:=hid (Rf.iQ L 44 P1.2)
 clear h1 hm1 cR;generalize Rf.expect L 44 P1.2=P2 at *;go_wp2_with fail;refine cE.o.mono ?_;rintro en V2 ⟨rfl,h2⟩;have M2:=hid (M1.o.after (H1.o.kD (ts:=yW) h2 k2.o.1 k2.o.2 (by decide)) (fun t ht=>ht));clear h2 cE;have A2:=aW V2 (.cells #[.slice none 0 0,.int .i64 0,.int .i64 0,.int .i64 0] 98) none;have D2:=hid (M2.o.does.grown A2);have BN:=hid (yd.new V2 #[.slice none 0 0,.int .i64 0,.int .i64 0,.int .i64 0] 98);have hv2:=M2.o.2.1.size;have s3:=hid (Rf.jO L P2);clear A2 M2 M1 H1 H;go_wp2_with fail;generalize V2.alloc (.cells #[.slice none 0 0,.int .i64 0,.int .i64 0,.int .i64 0] 98)=V3 at *
 generalize V2.heap.size=gb at *;refine (Xg B m g ao cap L P2 V3 D2.o.1).mono ?_;rintro en V4 ⟨rfl,h4⟩;have D4:=hid (D2.o.after h4 LV);have B4:=hid (h4.2.2 _ _ _ (by decide) BN.o);clear h4 D2 BN;generalize Rf.added L P2=P3 at *;have B5:=hid (B4.o.set 2 (.int .i64 P3.1.1));have B6:=hid (B5.o.set 3 (.int .i64 P3.1.2));have D6:=hid ((D4.o.gP B4.o (by omega) hv2 2 (.int .i64 P3.1.1)).gP B5.o (by omega) hv2 3 (.int .i64 P3.1.2));have z2:=B4.o.free 2;have z3:=B4.o.free 3;have b0:=B4.o.cell 0;have b1:=B4.o.cell 1;have b2:=B4.o.cell 2;have b3:=B4.o.cell 3;simp only [bB,yml,bf] at b0 b1 b2 b3;have E:=hid (show ((bs w).toList == [108,119])=decide (w=[108,119]) by rw [yA,Bool.eq_iff_iff,beq_iff_eq,decide_eq_true_iff])
 have hs3:P3.2.ah≠4:=by rw [s3.o,s2.o,s1.o]; exact hs4
 by_cases hw:w=[108,119]
 ·rw [if_pos hw] at RX;have e0:=E.o;rw [decide_eq_true hw] at e0;have cA:=hid (fun V hV=>Ui B m g ao cap L P3.2 P1.1 ⟨[],0,P3.1.1,P3.1.2⟩ none 0 0 11 P1.1 P1.1 0 0 V hV hs3 Pt ⟨by decide,by decide,⟨Pt,Pt,by decide⟩,fun _=>rfl⟩);unfold dZ at cA;clear hw;go_wp2_with fail;refine (cA.o _ D6.o.1).mono ?_;rintro en V7 ⟨rfl,h7⟩;have D7:=hid (D6.o.after h7 KH);clear h7;go_wp2
  (try simp only [Exit.inBlock,Exit.then]); refine bodyPost_ret (results_none rfl _ _ _) rfl ?_
  rw [<- RX.o,RL.o];exact ⟨rfl,D7.o⟩
 ·rw [if_neg hw] at RX;have e0:=E.o;rw [decide_eq_false hw] at e0;clear hw;obtain ⟨TI,vt5,vf5,vd5,va5,vs5,vr5,He⟩:=D6.o.1;have H5:=hid He;have k5:=hid (Jj L 44 P3.2);have s5:=hid (Rf.iQ L 44 P3.2);have cE:=hid (OD m g TI ao cap L P3.2 44 _ He.md);clear He;generalize Rf.expect L 44 P3.2=P5 at *;go_wp2_with fail;refine cE.o.mono ?_;rintro en V7 ⟨rfl,h7⟩;have K7:=hid (H5.o.dW (ts:=yW) h7 k5.o.1 k5.o.2 (by decide));have D7:=hid (D6.o.after K7.o (fun t ht=>ht));have B7:=hid (B6.o.grown h7.2 (by simp; exact fun x=>by subst x; have:=H5.o.md.blk.symm.trans B6.o; simp at this));clear h7 cE K7 b0 b1 b2 b3 z2 z3
  obtain ⟨Py,vt7,vf7,vd7,Z5,vs7,vr7,I8⟩:=D7.o.1;have H7:=hid I8;have k7:=hid (LD L P5);have s7:=hid (Rf.mH L P5);have r7:=Rf.wm L P5;have cR:=hid (Qb m g Py ao cap L P5 V7 I8.md);clear I8;generalize Rf.reg L P5=P6 at *;go_wp2_with fail;refine cR.o.mono ?_;rintro en V8 ⟨rfl,h8⟩;have D8:=hid (D7.o.after (H7.o.dW (ts:=yW) h8 k7.o.1 k7.o.2 (by decide)) (fun t ht=>ht));have B8:=B7.o.grown h8.2 (by simp; exact fun x=>by subst x; have:=H7.o.md.blk.symm.trans B7.o; simp at this);have b0:=B8.cell 0;have b1:=B8.cell 1;have b2:=B8.cell 2;have b3:=B8.cell 3;simp only [iW,iR,iT,bB,yml,bf] at b0 b1 b2 b3;have hs6:P6.2.ah≠4:=by rw [s7.o,s5.o]; exact hs3
  clear h8 cR B8;have cA:=hid (fun V hV=>Ui B m g ao cap L P6.2 P6.1 ⟨[],0,P3.1.1,P3.1.2⟩ none 0 0 12 0 P6.1 P1.1 0 V hV hs6 r7 ⟨by decide,by decide,⟨by decide,r7,Pt⟩,fun _=>rfl⟩);unfold dZ at cA;go_wp2_with fail;refine (cA.o _ D8.o.1).mono ?_;rintro en V9 ⟨rfl,h9⟩;have D9:=hid (D8.o.after h9 KH);clear h9;go_wp2
  go_end0
  rw [<- RX.o,RS.o];exact ⟨rfl,D9.o⟩
namespace Rf
def Lc:List (List UInt8):=[[114,44,114,44,114],[114,44,114,44,114],[114,44,114,44,114],[114,44,114,44,114],[114,44,114,44,114],[114,44,114,44,114],[114,44,114,44,114],[114,44,114,44,110],[114,44,114,44,110],[114,44,114,44,110],[114,44,114,44,110],[114,44,114,44,110],[114,44,114,44,115],[114,44,114,44,115],[114,44,114,44,115],[114,44,114,44,115],[114,44,114,44,115],[114,44,114,44,115],[114,44,110],[114,44,115],[114,44,112],[114,44,110],[114,44,97],[114,44,114],[115],[115],[115],[],[],[],[114,44,112],[114,44,112]]
def oN:List Int:=[0,0,0,0,0,0,0,-2048,-2048,-2048,-2048,-2048,0,0,0,0,0,0,0,0,-2048,-2147483648,0,0,0,0,0,0,0,0,-2048,-2048]
def oL:List Int:=[0,0,0,0,0,0,0,2047,2047,2047,2047,2047,0,0,0,0,0,0,1048575,0,2047,2147483647,0,0,0,0,0,0,0,0,2047,2047]
def fm (k:Nat):List Nat:=(Lc.getD k []).map (·.toNat)
def kW (L:List Tk) (d:Ds) (k:Nat):Ds :=
 if (decide (pJ.getD k []=[108,119]\/pJ.getD k []=[115,119]) && far L d)=true then (if pJ.getD k []=[108,119] then nL L d else nM L d)
 else if (operands L (fm k) (oN.getD k 0) (oL.getD k 0) d).2.fe=0 then bI (pJ.getD k []) (operands L (fm k) (oN.getD k 0) (oL.getD k 0) d).1 (operands L (fm k) (oN.getD k 0) (oL.getD k 0) d).2
 else (operands L (fm k) (oN.getD k 0) (oL.getD k 0) d).2
theorem CJ (L:List Tk) (lo hi:Int):∀ (cs:List Nat) (G:Got) (d:Ds),(∀ c∈cs,c≠110/\c≠112)->(aS L lo hi cs G d).1.num=G.num:=by
 intro cs
 induction cs with
 | nil=>intro G d _; rfl
 | cons c cs ih =>
  intro G d h;have hc:=h c (by simp);show (if d.fe=0 then aS L lo hi cs (iU L lo hi c G d).1 (iU L lo hi c G d).2 else (G,d)).1.num=G.num;split
  ·rw [ih _ _ (fun x hx=>h x (by simp [hx]))];unfold iU;split
   ·rfl
   split
   ·rfl
   rw [if_neg hc.1];split
   ·rfl
   split
   ·rfl
   rw [if_neg hc.2]
  ·rfl
theorem ET (L:List Tk) (lo hi:Int):∀ (cs:List Nat) (G:Got) (d:Ds),(aS L lo hi cs G d).1.rs.length<=G.rs.length+cnt cs:=by
 intro cs
 induction cs with
 | nil=>intro G d; exact Nat.le_refl _
 | cons c cs ih =>
  intro G d;show (if d.fe=0 then aS L lo hi cs (iU L lo hi c G d).1 (iU L lo hi c G d).2 else (G,d)).1.rs.length<=G.rs.length+((if c=114\/c=112 then 1 else 0)+cnt cs);split
  ·have h1:=ih (iU L lo hi c G d).1 (iU L lo hi c G d).2;have h2:(iU L lo hi c G d).1.rs.length<=G.rs.length+(if c=114\/c=112 then 1 else 0):=by
    unfold iU;split
    ·rename_i e;rw [if_pos (.inl e)];simp
    split
    ·exact Nat.le_add_right _ _
    split
    ·exact Nat.le_add_right _ _
    split
    ·exact Nat.le_add_right _ _
    split
    ·exact Nat.le_add_right _ _
    split
    ·rename_i e;rw [if_pos (.inr e)];simp
    ·exact Nat.le_add_right _ _
   omega
  ·show G.rs.length<=_;omega
theorem bD (L:List Tk) (cs:List Nat) (lo hi:Int) (d:Ds) (h:∀ c∈cs,c≠110/\c≠112):(operands L cs lo hi d).1.num=0:=CJ L lo hi cs ⟨[],0,0,0⟩ d h
theorem bQ (L:List Tk) (cs:List Nat) (lo hi:Int) (d:Ds) (i:Nat) (h:cnt cs<=i):aG (operands L cs lo hi d).1 i=0:=by
 have q:=ET L lo hi cs ⟨[],0,0,0⟩ d;show ((aS L lo hi cs ⟨[],0,0,0⟩ d).1.rs ++ List.replicate (3 - (aS L lo hi cs ⟨[],0,0,0⟩ d).1.rs.length) 0).getD i 0=0;simp only [List.length_nil,Nat.zero_add] at q;rw [mP,List.getElem?_append_right (by omega),List.getElem?_replicate];split <;> rfl
theorem rQ (L:List Tk) (lo hi:Int) (cs:List Nat) (d:Ds) (f:Got->Ds->Ds) (w:List UInt8) (h:f (operands L cs lo hi d).1 (operands L cs lo hi d).2=bI w (operands L cs lo hi d).1 (operands L cs lo hi d).2):after (aS L lo hi cs ⟨[],0,0,0⟩ d) f=if (operands L cs lo hi d).2.fe=0 then bI w (operands L cs lo hi d).1 (operands L cs lo hi d).2 else (operands L cs lo hi d).2:=by
 rw [<- h];rfl
theorem R8 (G:Got) (d:Ds):bI [97,100,100] G d=lay 0 G.sym G.add [(As.enc 18 (aG G 0) (aG G 1) (aG G 2) G.num:Int)] d:=by
 unfold bI;rw [if_neg (by decide),if_neg (by decide),if_neg (by decide),if_neg (by decide),if_neg (by decide),if_neg (by decide),if_neg (by decide),if_neg (by decide),if_neg (by decide),if_neg (by decide),if_neg (by decide),if_neg (by decide),show As.named [97,100,100]=18 by kernel_rfl,if_neg (by decide)]
theorem R9 (G:Got) (d:Ds):bI [115,117,98] G d=lay 0 G.sym G.add [(As.enc 19 (aG G 0) (aG G 1) (aG G 2) G.num:Int)] d:=by
 unfold bI;rw [if_neg (by decide),if_neg (by decide),if_neg (by decide),if_neg (by decide),if_neg (by decide),if_neg (by decide),if_neg (by decide),if_neg (by decide),if_neg (by decide),if_neg (by decide),if_neg (by decide),if_neg (by decide),show As.named [115,117,98]=19 by kernel_rfl,if_neg (by decide)]
theorem Sc (G:Got) (d:Ds):bI [115,108,116] G d=lay 0 G.sym G.add [(As.enc 20 (aG G 0) (aG G 1) (aG G 2) G.num:Int)] d:=by
 unfold bI;rw [if_neg (by decide),if_neg (by decide),if_neg (by decide),if_neg (by decide),if_neg (by decide),if_neg (by decide),if_neg (by decide),if_neg (by decide),if_neg (by decide),if_neg (by decide),if_neg (by decide),if_neg (by decide),show As.named [115,108,116]=20 by kernel_rfl,if_neg (by decide)]
theorem Sd (G:Got) (d:Ds):bI [115,108,116,117] G d=lay 0 G.sym G.add [(As.enc 21 (aG G 0) (aG G 1) (aG G 2) G.num:Int)] d:=by
 unfold bI;rw [if_neg (by decide),if_neg (by decide),if_neg (by decide),if_neg (by decide),if_neg (by decide),if_neg (by decide),if_neg (by decide),if_neg (by decide),if_neg (by decide),if_neg (by decide),if_neg (by decide),if_neg (by decide),show As.named [115,108,116,117]=21 by kernel_rfl,if_neg (by decide)]
theorem Sg (G:Got) (d:Ds):bI [120,111,114] G d=lay 0 G.sym G.add [(As.enc 22 (aG G 0) (aG G 1) (aG G 2) G.num:Int)] d:=by
 unfold bI;rw [if_neg (by decide),if_neg (by decide),if_neg (by decide),if_neg (by decide),if_neg (by decide),if_neg (by decide),if_neg (by decide),if_neg (by decide),if_neg (by decide),if_neg (by decide),if_neg (by decide),if_neg (by decide),show As.named [120,111,114]=22 by kernel_rfl,if_neg (by decide)]
theorem Si (G:Got) (d:Ds):bI [111,114] G d=lay 0 G.sym G.add [(As.enc 23 (aG G 0) (aG G 1) (aG G 2) G.num:Int)] d:=by
 unfold bI;rw [if_neg (by decide),if_neg (by decide),if_neg (by decide),if_neg (by decide),if_neg (by decide),if_neg (by decide),if_neg (by decide),if_neg (by decide),if_neg (by decide),if_neg (by decide),if_neg (by decide),if_neg (by decide),show As.named [111,114]=23 by kernel_rfl,if_neg (by decide)]
theorem Sj (G:Got) (d:Ds):bI [97,110,100] G d=lay 0 G.sym G.add [(As.enc 24 (aG G 0) (aG G 1) (aG G 2) G.num:Int)] d:=by
 unfold bI;rw [if_neg (by decide),if_neg (by decide),if_neg (by decide),if_neg (by decide),if_neg (by decide),if_neg (by decide),if_neg (by decide),if_neg (by decide),if_neg (by decide),if_neg (by decide),if_neg (by decide),if_neg (by decide),show As.named [97,110,100]=24 by kernel_rfl,if_neg (by decide)]
theorem Sk (G:Got) (d:Ds):bI [97,100,100,105] G d=lay 0 G.sym G.add [(As.enc 13 (aG G 0) (aG G 1) (aG G 2) G.num:Int)] d:=by
 unfold bI;rw [if_neg (by decide),if_neg (by decide),if_neg (by decide),if_neg (by decide),if_neg (by decide),if_neg (by decide),if_neg (by decide),if_neg (by decide),if_neg (by decide),if_neg (by decide),if_neg (by decide),if_neg (by decide),show As.named [97,100,100,105]=13 by kernel_rfl,if_neg (by decide)]
theorem Sl (G:Got) (d:Ds):bI [115,108,116,105] G d=lay 0 G.sym G.add [(As.enc 14 (aG G 0) (aG G 1) (aG G 2) G.num:Int)] d:=by
 unfold bI;rw [if_neg (by decide),if_neg (by decide),if_neg (by decide),if_neg (by decide),if_neg (by decide),if_neg (by decide),if_neg (by decide),if_neg (by decide),if_neg (by decide),if_neg (by decide),if_neg (by decide),if_neg (by decide),show As.named [115,108,116,105]=14 by kernel_rfl,if_neg (by decide)]
theorem Sm (G:Got) (d:Ds):bI [120,111,114,105] G d=lay 0 G.sym G.add [(As.enc 15 (aG G 0) (aG G 1) (aG G 2) G.num:Int)] d:=by
 unfold bI;rw [if_neg (by decide),if_neg (by decide),if_neg (by decide),if_neg (by decide),if_neg (by decide),if_neg (by decide),if_neg (by decide),if_neg (by decide),if_neg (by decide),if_neg (by decide),if_neg (by decide),if_neg (by decide),show As.named [120,111,114,105]=15 by kernel_rfl,if_neg (by decide)]
theorem Nh (G:Got) (d:Ds):bI [111,114,105] G d=lay 0 G.sym G.add [(As.enc 16 (aG G 0) (aG G 1) (aG G 2) G.num:Int)] d:=by
 unfold bI;rw [if_neg (by decide),if_neg (by decide),if_neg (by decide),if_neg (by decide),if_neg (by decide),if_neg (by decide),if_neg (by decide),if_neg (by decide),if_neg (by decide),if_neg (by decide),if_neg (by decide),if_neg (by decide),show As.named [111,114,105]=16 by kernel_rfl,if_neg (by decide)]
theorem Ni (G:Got) (d:Ds):bI [97,110,100,105] G d=lay 0 G.sym G.add [(As.enc 17 (aG G 0) (aG G 1) (aG G 2) G.num:Int)] d:=by
 unfold bI;rw [if_neg (by decide),if_neg (by decide),if_neg (by decide),if_neg (by decide),if_neg (by decide),if_neg (by decide),if_neg (by decide),if_neg (by decide),if_neg (by decide),if_neg (by decide),if_neg (by decide),if_neg (by decide),show As.named [97,110,100,105]=17 by kernel_rfl,if_neg (by decide)]
theorem Nj (G:Got) (d:Ds):bI [98,101,113] G d=lay 2 G.sym G.add [(As.enc 5 (aG G 0) (aG G 0) (aG G 1) G.num:Int)] d:=by
 unfold bI;rw [if_pos rfl,show As.named [98,101,113]=5 by kernel_rfl]
theorem Nk (G:Got) (d:Ds):bI [98,110,101] G d=lay 2 G.sym G.add [(As.enc 6 (aG G 0) (aG G 0) (aG G 1) G.num:Int)] d:=by
 unfold bI;rw [if_neg (by decide),if_pos rfl,show As.named [98,110,101]=6 by kernel_rfl]
theorem Nl (G:Got) (d:Ds):bI [98,108,116] G d=lay 2 G.sym G.add [(As.enc 7 (aG G 0) (aG G 0) (aG G 1) G.num:Int)] d:=by
 unfold bI;rw [if_neg (by decide),if_neg (by decide),if_pos rfl,show As.named [98,108,116]=7 by kernel_rfl]
theorem Nn (G:Got) (d:Ds):bI [98,103,101] G d=lay 2 G.sym G.add [(As.enc 8 (aG G 0) (aG G 0) (aG G 1) G.num:Int)] d:=by
 unfold bI;rw [if_neg (by decide),if_neg (by decide),if_neg (by decide),if_pos rfl,show As.named [98,103,101]=8 by kernel_rfl]
theorem Np (G:Got) (d:Ds):bI [98,108,116,117] G d=lay 2 G.sym G.add [(As.enc 9 (aG G 0) (aG G 0) (aG G 1) G.num:Int)] d:=by
 unfold bI;rw [if_neg (by decide),if_neg (by decide),if_neg (by decide),if_neg (by decide),if_pos rfl,show As.named [98,108,116,117]=9 by kernel_rfl]
theorem Nq (G:Got) (d:Ds):bI [98,103,101,117] G d=lay 2 G.sym G.add [(As.enc 10 (aG G 0) (aG G 0) (aG G 1) G.num:Int)] d:=by
 unfold bI;rw [if_neg (by decide),if_neg (by decide),if_neg (by decide),if_neg (by decide),if_neg (by decide),if_pos rfl,show As.named [98,103,101,117]=10 by kernel_rfl]
theorem Nr (G:Got) (d:Ds):bI [108,117,105] G d=lay 0 G.sym G.add [(As.enc 1 (aG G 0) (aG G 1) (aG G 2) G.num:Int)] d:=by
 unfold bI;rw [if_neg (by decide),if_neg (by decide),if_neg (by decide),if_neg (by decide),if_neg (by decide),if_neg (by decide),if_neg (by decide),if_neg (by decide),if_neg (by decide),if_neg (by decide),if_neg (by decide),if_neg (by decide),show As.named [108,117,105]=1 by kernel_rfl,if_neg (by decide)]
theorem Ns (G:Got) (d:Ds):bI [106,97,108] G d=lay 3 G.sym G.add [(As.enc 3 (aG G 0) (aG G 1) (aG G 2) G.num:Int)] d:=by
 unfold bI;rw [if_neg (by decide),if_neg (by decide),if_neg (by decide),if_neg (by decide),if_neg (by decide),if_neg (by decide),if_pos rfl,show As.named [106,97,108]=3 by kernel_rfl]
theorem Nt (G:Got) (d:Ds):bI [106,97,108,114] G d=lay 0 G.sym G.add [(As.enc 4 (aG G 0) (aG G 1) (aG G 2) G.num:Int)] d:=by
 unfold bI;rw [if_neg (by decide),if_neg (by decide),if_neg (by decide),if_neg (by decide),if_neg (by decide),if_neg (by decide),if_neg (by decide),if_neg (by decide),if_neg (by decide),if_neg (by decide),if_neg (by decide),if_neg (by decide),show As.named [106,97,108,114]=4 by kernel_rfl,if_neg (by decide)]
theorem Nu (G:Got) (d:Ds):bI [108,105] G d=iN [108,105] G d:=by
 unfold bI;rw [if_neg (by decide),if_neg (by decide),if_neg (by decide),if_neg (by decide),if_neg (by decide),if_neg (by decide),if_neg (by decide),if_neg (by decide),if_neg (by decide),if_neg (by decide),if_neg (by decide),if_neg (by decide),show As.named [108,105]=0 by kernel_rfl,if_pos rfl]
theorem Nv (G:Got) (d:Ds):bI [108,97] G d=iN [108,97] G d:=by
 unfold bI;rw [if_neg (by decide),if_neg (by decide),if_neg (by decide),if_neg (by decide),if_neg (by decide),if_neg (by decide),if_neg (by decide),if_neg (by decide),if_neg (by decide),if_neg (by decide),if_neg (by decide),if_neg (by decide),show As.named [108,97]=0 by kernel_rfl,if_pos rfl]
theorem Nw (G:Got) (d:Ds):bI [109,118] G d=lay 0 G.sym G.add [(As.enc 13 (aG G 0) (aG G 1) 0 0:Int)] d:=by
 unfold bI;rw [if_neg (by decide),if_neg (by decide),if_neg (by decide),if_neg (by decide),if_neg (by decide),if_neg (by decide),if_neg (by decide),if_neg (by decide),if_neg (by decide),if_neg (by decide),if_neg (by decide),if_pos rfl]
theorem Ny (G:Got) (d:Ds):bI [99,97,108,108] G d=iN [99,97,108,108] G d:=by
 unfold bI;rw [if_neg (by decide),if_neg (by decide),if_neg (by decide),if_neg (by decide),if_neg (by decide),if_neg (by decide),if_neg (by decide),if_neg (by decide),if_neg (by decide),if_neg (by decide),if_neg (by decide),if_neg (by decide),show As.named [99,97,108,108]=0 by kernel_rfl,if_pos rfl]
theorem Nz (G:Got) (d:Ds):bI [116,97,105,108] G d=iN [116,97,105,108] G d:=by
 unfold bI;rw [if_neg (by decide),if_neg (by decide),if_neg (by decide),if_neg (by decide),if_neg (by decide),if_neg (by decide),if_neg (by decide),if_neg (by decide),if_neg (by decide),if_neg (by decide),if_neg (by decide),if_neg (by decide),show As.named [116,97,105,108]=0 by kernel_rfl,if_pos rfl]
theorem NC (G:Got) (d:Ds):bI [106] G d=lay 3 G.sym G.add [(As.enc 3 0 0 0 0:Int)] d:=by
 unfold bI;rw [if_neg (by decide),if_neg (by decide),if_neg (by decide),if_neg (by decide),if_neg (by decide),if_neg (by decide),if_neg (by decide),if_neg (by decide),if_pos rfl]
theorem ND (G:Got) (d:Ds):bI [101,99,97,108,108] G d=lay 0 G.sym G.add [(As.enc 25 (aG G 0) (aG G 1) (aG G 2) G.num:Int)] d:=by
 unfold bI;rw [if_neg (by decide),if_neg (by decide),if_neg (by decide),if_neg (by decide),if_neg (by decide),if_neg (by decide),if_neg (by decide),if_neg (by decide),if_neg (by decide),if_neg (by decide),if_neg (by decide),if_neg (by decide),show As.named [101,99,97,108,108]=25 by kernel_rfl,if_neg (by decide)]
theorem NG (G:Got) (d:Ds):bI [110,111,112] G d=lay 0 G.sym G.add [(As.enc 13 0 0 0 0:Int)] d:=by
 unfold bI;rw [if_neg (by decide),if_neg (by decide),if_neg (by decide),if_neg (by decide),if_neg (by decide),if_neg (by decide),if_neg (by decide),if_neg (by decide),if_neg (by decide),if_pos rfl]
theorem NH (G:Got) (d:Ds):bI [114,101,116] G d=lay 0 G.sym G.add [(As.enc 4 0 1 0 0:Int)] d:=by
 unfold bI;rw [if_neg (by decide),if_neg (by decide),if_neg (by decide),if_neg (by decide),if_neg (by decide),if_neg (by decide),if_neg (by decide),if_neg (by decide),if_neg (by decide),if_neg (by decide),if_pos rfl]
theorem NJ (G:Got) (d:Ds):bI [108,119] G d=lay 0 G.sym G.add [(As.enc 11 (aG G 0) (aG G 1) (aG G 2) G.num:Int)] d:=by
 unfold bI;rw [if_neg (by decide),if_neg (by decide),if_neg (by decide),if_neg (by decide),if_neg (by decide),if_neg (by decide),if_neg (by decide),if_neg (by decide),if_neg (by decide),if_neg (by decide),if_neg (by decide),if_neg (by decide),show As.named [108,119]=11 by kernel_rfl,if_neg (by decide)]
theorem NP (G:Got) (d:Ds):bI [115,119] G d=lay 0 G.sym G.add [(As.enc 12 (aG G 0) (aG G 1) (aG G 0) G.num:Int)] d:=by
 unfold bI;rw [if_neg (by decide),if_neg (by decide),if_neg (by decide),if_neg (by decide),if_neg (by decide),if_neg (by decide),if_neg (by decide),if_pos rfl,show As.named [115,119]=12 by kernel_rfl]
theorem enc4 (op a b c:Nat) (n:Int) (h:As.forms.getD op 0=4):As.enc op a b c n=As.enc op 0 b c n:=by
 unfold As.enc As.gV;rw [h];simp [As.iY]
theorem Ra (op a b c:Nat) (n:Int) (h:As.forms.getD op 0=5):As.enc op a b c n=As.enc op 0 b c n:=by
 unfold As.enc As.gV;rw [h];simp [As.iY]
theorem Oi (G:Got) (d:Ds):lay 0 G.sym G.add (vS (G.rs.getD 0 0) G.num) d=iN [108,105] G d:=by
 rw [show iN [108,105] G d=(if -2048<=G.num/\G.num < 2048 then lay 0 G.sym G.add [(As.enc 13 (aG G 0) 0 0 G.num:Int)] d else lay 0 0 0 [(As.enc 1 (aG G 0) 0 0 (As.fZ G.num):Int),(As.enc 13 (aG G 0) (aG G 0) 0 (As.dH G.num):Int)] d) from rfl];unfold vS;by_cases c:-2048<=G.num/\G.num<=2047
 ·rw [if_pos c,if_pos (by omega)];rfl
 ·rw [if_neg c,if_neg (by omega)];rfl
def Am (op:Nat) (g:Got):Ds->Ds:=lay 0 g.sym g.add [(As.enc op (g.rs.getD 0 0) (g.rs.getD 1 0) (g.rs.getD 2 0) 0:Int)]
def FH (op:Nat) (g:Got):Ds->Ds:=lay 0 g.sym g.add [(As.enc op (g.rs.getD 0 0) (g.rs.getD 1 0) 0 g.num:Int)]
def Cm (op:Nat) (g:Got):Ds->Ds:=lay 2 g.sym g.add [(As.enc op 0 (g.rs.getD 0 0) (g.rs.getD 1 0) 0:Int)]
theorem fA (L:List Tk) (d:Ds) (k:Nat) (w:List UInt8) (lo hi:Int) (f:Got->Ds->Ds) (hw:pJ.getD k []=w) (hlo:oN.getD k 0=lo) (hhi:oL.getD k 0=hi) (hls:¬ (w=[108,119]\/w=[115,119])) (he:instr L d k=after (aS L lo hi (fm k) ⟨[],0,0,0⟩ d) f) (h:f (operands L (fm k) lo hi d).1 (operands L (fm k) lo hi d).2=bI w (operands L (fm k) lo hi d).1 (operands L (fm k) lo hi d).2):instr L d k=kW L d k:=by
 rw [he,rQ L lo hi (fm k) d f w h];unfold kW;rw [hw,hlo,hhi,decide_eq_false hls];rfl
theorem Zz (L:List Tk) (d:Ds):instr L d 0=kW L d 0:=fA L d 0 [97,100,100] (0) 0 (Am 18) rfl rfl rfl (by decide) (by kernel_rfl) (by rw [R8,bD _ _ _ _ _ (by decide)] <;> rfl)
theorem ZC (L:List Tk) (d:Ds):instr L d 1=kW L d 1:=fA L d 1 [115,117,98] (0) 0 (Am 19) rfl rfl rfl (by decide) (by kernel_rfl) (by rw [R9,bD _ _ _ _ _ (by decide)] <;> rfl)
theorem ZE (L:List Tk) (d:Ds):instr L d 2=kW L d 2:=fA L d 2 [115,108,116] (0) 0 (Am 20) rfl rfl rfl (by decide) (by kernel_rfl) (by rw [Sc,bD _ _ _ _ _ (by decide)] <;> rfl)
theorem ZF (L:List Tk) (d:Ds):instr L d 3=kW L d 3:=fA L d 3 [115,108,116,117] (0) 0 (Am 21) rfl rfl rfl (by decide) (by kernel_rfl) (by rw [Sd,bD _ _ _ _ _ (by decide)] <;> rfl)
theorem ZG (L:List Tk) (d:Ds):instr L d 4=kW L d 4:=fA L d 4 [120,111,114] (0) 0 (Am 22) rfl rfl rfl (by decide) (by kernel_rfl) (by rw [Sg,bD _ _ _ _ _ (by decide)] <;> rfl)
theorem ZH (L:List Tk) (d:Ds):instr L d 5=kW L d 5:=fA L d 5 [111,114] (0) 0 (Am 23) rfl rfl rfl (by decide) (by kernel_rfl) (by rw [Si,bD _ _ _ _ _ (by decide)] <;> rfl)
theorem ZI (L:List Tk) (d:Ds):instr L d 6=kW L d 6:=fA L d 6 [97,110,100] (0) 0 (Am 24) rfl rfl rfl (by decide) (by kernel_rfl) (by rw [Sj,bD _ _ _ _ _ (by decide)] <;> rfl)
theorem ZJ (L:List Tk) (d:Ds):instr L d 7=kW L d 7:=fA L d 7 [97,100,100,105] (-2048) 2047 (FH 13) rfl rfl rfl (by decide) (by kernel_rfl) (by rw [Sk,bQ _ _ _ _ _ 2 (by decide)] <;> rfl)
theorem ZK (L:List Tk) (d:Ds):instr L d 8=kW L d 8:=fA L d 8 [115,108,116,105] (-2048) 2047 (FH 14) rfl rfl rfl (by decide) (by kernel_rfl) (by rw [Sl,bQ _ _ _ _ _ 2 (by decide)] <;> rfl)
theorem ZL (L:List Tk) (d:Ds):instr L d 9=kW L d 9:=fA L d 9 [120,111,114,105] (-2048) 2047 (FH 15) rfl rfl rfl (by decide) (by kernel_rfl) (by rw [Sm,bQ _ _ _ _ _ 2 (by decide)] <;> rfl)
theorem Sn (L:List Tk) (d:Ds):instr L d 10=kW L d 10:=fA L d 10 [111,114,105] (-2048) 2047 (FH 16) rfl rfl rfl (by decide) (by kernel_rfl) (by rw [Nh,bQ _ _ _ _ _ 2 (by decide)] <;> rfl)
theorem Sq (L:List Tk) (d:Ds):instr L d 11=kW L d 11:=fA L d 11 [97,110,100,105] (-2048) 2047 (FH 17) rfl rfl rfl (by decide) (by kernel_rfl) (by rw [Ni,bQ _ _ _ _ _ 2 (by decide)] <;> rfl)
theorem Sr (L:List Tk) (d:Ds):instr L d 12=kW L d 12:=fA L d 12 [98,101,113] (0) 0 (Cm 5) rfl rfl rfl (by decide) (by kernel_rfl) (by rw [Nj,bD _ _ _ _ _ (by decide),enc4 _ _ _ _ _ (by decide)] <;> rfl)
theorem Sv (L:List Tk) (d:Ds):instr L d 13=kW L d 13:=fA L d 13 [98,110,101] (0) 0 (Cm 6) rfl rfl rfl (by decide) (by kernel_rfl) (by rw [Nk,bD _ _ _ _ _ (by decide),enc4 _ _ _ _ _ (by decide)] <;> rfl)
theorem Sw (L:List Tk) (d:Ds):instr L d 14=kW L d 14:=fA L d 14 [98,108,116] (0) 0 (Cm 7) rfl rfl rfl (by decide) (by kernel_rfl) (by rw [Nl,bD _ _ _ _ _ (by decide),enc4 _ _ _ _ _ (by decide)] <;> rfl)
theorem Sy (L:List Tk) (d:Ds):instr L d 15=kW L d 15:=fA L d 15 [98,103,101] (0) 0 (Cm 8) rfl rfl rfl (by decide) (by kernel_rfl) (by rw [Nn,bD _ _ _ _ _ (by decide),enc4 _ _ _ _ _ (by decide)] <;> rfl)
theorem Sz (L:List Tk) (d:Ds):instr L d 16=kW L d 16:=fA L d 16 [98,108,116,117] (0) 0 (Cm 9) rfl rfl rfl (by decide) (by kernel_rfl) (by rw [Np,bD _ _ _ _ _ (by decide),enc4 _ _ _ _ _ (by decide)] <;> rfl)
theorem SE (L:List Tk) (d:Ds):instr L d 17=kW L d 17:=fA L d 17 [98,103,101,117] (0) 0 (Cm 10) rfl rfl rfl (by decide) (by kernel_rfl) (by rw [Nq,bD _ _ _ _ _ (by decide),enc4 _ _ _ _ _ (by decide)] <;> rfl)
theorem SF (L:List Tk) (d:Ds):instr L d 18=kW L d 18:=fA L d 18 [108,117,105] (0) 1048575 (fun g=>lay 0 g.sym g.add [(As.enc 1 (g.rs.getD 0 0) 0 0 g.num:Int)]) rfl rfl rfl (by decide) (by kernel_rfl) (by rw [Nr,bQ _ _ _ _ _ 1 (by decide),bQ _ _ _ _ _ 2 (by decide)] <;> rfl)
theorem SG (L:List Tk) (d:Ds):instr L d 19=kW L d 19:=fA L d 19 [106,97,108] (0) 0 (fun g=>lay 3 g.sym g.add [(As.enc 3 (g.rs.getD 0 0) 0 0 0:Int)]) rfl rfl rfl (by decide) (by kernel_rfl) (by rw [Ns,bQ _ _ _ _ _ 1 (by decide),bQ _ _ _ _ _ 2 (by decide),bD _ _ _ _ _ (by decide)] <;> rfl)
theorem SQ (L:List Tk) (d:Ds):instr L d 20=kW L d 20:=fA L d 20 [106,97,108,114] (-2048) 2047 (fun g=>lay 0 g.sym g.add [(As.enc 4 (g.rs.getD 0 0) (g.rs.getD 1 0) 0 g.num:Int)]) rfl rfl rfl (by decide) (by kernel_rfl) (by rw [Nt,bQ _ _ _ _ _ 2 (by decide)] <;> rfl)
theorem SS (L:List Tk) (d:Ds):instr L d 21=kW L d 21:=fA L d 21 [108,105] (-2147483648) 2147483647 (fun g=>lay 0 g.sym g.add (vS (g.rs.getD 0 0) g.num)) rfl rfl rfl (by decide) (by kernel_rfl) (by rw [Nu]; exact Oi _ _)
theorem SV (L:List Tk) (d:Ds):instr L d 22=kW L d 22:=fA L d 22 [108,97] (0) 0 (fun g=>address (g.rs.getD 0 0) g (As.enc 13 (g.rs.getD 0 0) (g.rs.getD 0 0) 0 0:Int)) rfl rfl rfl (by decide) (by kernel_rfl) (by rw [Nv] <;> rfl)
theorem SY (L:List Tk) (d:Ds):instr L d 23=kW L d 23:=fA L d 23 [109,118] (0) 0 (fun g=>lay 0 g.sym g.add [(As.enc 13 (g.rs.getD 0 0) (g.rs.getD 1 0) 0 0:Int)]) rfl rfl rfl (by decide) (by kernel_rfl) (by rw [Nw] <;> rfl)
theorem Ta (L:List Tk) (d:Ds):instr L d 24=kW L d 24:=fA L d 24 [99,97,108,108] (0) 0 (fun g=>lay 4 g.sym g.add [(As.enc 2 1 0 0 0:Int),(As.enc 4 1 1 0 0:Int)]) rfl rfl rfl (by decide) (by kernel_rfl) (by rw [Ny] <;> rfl)
theorem Tc (L:List Tk) (d:Ds):instr L d 25=kW L d 25:=fA L d 25 [116,97,105,108] (0) 0 (fun g=>lay 4 g.sym g.add [(As.enc 2 6 0 0 0:Int),(As.enc 4 0 6 0 0:Int)]) rfl rfl rfl (by decide) (by kernel_rfl) (by rw [Nz] <;> rfl)
theorem Td (L:List Tk) (d:Ds):instr L d 26=kW L d 26:=fA L d 26 [106] (0) 0 (fun g=>lay 3 g.sym g.add [(As.enc 3 0 0 0 0:Int)]) rfl rfl rfl (by decide) (by kernel_rfl) (by rw [NC] <;> rfl)
theorem Te (L:List Tk) (d:Ds):instr L d 27=kW L d 27:=fA L d 27 [101,99,97,108,108] (0) 0 (fun g=>lay 0 g.sym g.add [(As.enc 25 0 0 0 0:Int)]) rfl rfl rfl (by decide) (by kernel_rfl) (by rw [ND,bQ _ _ _ _ _ 0 (by decide),bQ _ _ _ _ _ 1 (by decide),bQ _ _ _ _ _ 2 (by decide),bD _ _ _ _ _ (by decide)] <;> rfl)
theorem Tf (L:List Tk) (d:Ds):instr L d 28=kW L d 28:=fA L d 28 [110,111,112] (0) 0 (fun g=>lay 0 g.sym g.add [(As.enc 13 0 0 0 0:Int)]) rfl rfl rfl (by decide) (by kernel_rfl) (by rw [NG] <;> rfl)
theorem Tg (L:List Tk) (d:Ds):instr L d 29=kW L d 29:=fA L d 29 [114,101,116] (0) 0 (fun g=>lay 0 g.sym g.add [(As.enc 4 0 1 0 0:Int)]) rfl rfl rfl (by decide) (by kernel_rfl) (by rw [NH] <;> rfl)
theorem Ti (L:List Tk) (d:Ds):instr L d 30=kW L d 30:=by
 ·rw [show instr L d 30=lw L d by kernel_rfl];show _=kW L d 30;unfold lw;rw [show kW L d 30=(if (true && far L d)=true then (if [108,119]=[108,119] then nL L d else nM L d) else if (operands L (fm 30) (oN.getD 30 0) (oL.getD 30 0) d).2.fe=0 then bI [108,119] (operands L (fm 30) (oN.getD 30 0) (oL.getD 30 0) d).1 (operands L (fm 30) (oN.getD 30 0) (oL.getD 30 0) d).2 else (operands L (fm 30) (oN.getD 30 0) (oL.getD 30 0) d).2) from rfl];by_cases hf:far L d=true
  ·rw [if_pos hf,if_pos (by rw [hf]; rfl)];rfl
  ·rw [if_neg hf,if_neg (by rw [Bool.eq_false_iff.2 hf]; simp)];refine rQ L (-2048) 2047 (fm 30) d _ [108,119] ?_;show _=bI [108,119] (operands L (fm 30) (oN.getD 30 0) (oL.getD 30 0) d).1 _;rw [NJ,bQ L (fm 30) (oN.getD 30 0) (oL.getD 30 0) d 2 (by decide)];rfl
end Rf
namespace Rf
theorem NQ (L:List Tk) (d:Ds):instr L d 31=sw L d:=by kernel_rfl
theorem NR (L:List Tk) (d:Ds):kW L d 31=(if (true && far L d)=true then (if [115,119]=[108,119] then nL L d else nM L d) else if (operands L (fm 31) (oN.getD 31 0) (oL.getD 31 0) d).2.fe=0 then bI [115,119] (operands L (fm 31) (oN.getD 31 0) (oL.getD 31 0) d).1 (operands L (fm 31) (oN.getD 31 0) (oL.getD 31 0) d).2 else (operands L (fm 31) (oN.getD 31 0) (oL.getD 31 0) d).2):=rfl
theorem NS (G:Got) (d:Ds):lay 0 G.sym G.add [(As.enc 12 0 (G.rs.getD 1 0) (G.rs.getD 0 0) G.num:Int)] d=bI [115,119] G d:=by
 rw [NP,Ra 12 (aG G 0) (aG G 1) (aG G 0) G.num (by decide)];rfl
theorem NU (L:List Tk) (d:Ds):after (aS L (-2048) 2047 [114,44,112] ⟨[],0,0,0⟩ d) (fun g=>lay 0 g.sym g.add [(As.enc 12 0 (g.rs.getD 1 0) (g.rs.getD 0 0) g.num:Int)])=if (operands L (fm 31) (oN.getD 31 0) (oL.getD 31 0) d).2.fe=0 then bI [115,119] (operands L (fm 31) (oN.getD 31 0) (oL.getD 31 0) d).1 (operands L (fm 31) (oN.getD 31 0) (oL.getD 31 0) d).2 else (operands L (fm 31) (oN.getD 31 0) (oL.getD 31 0) d).2 :=
 rQ L (-2048) 2047 (fm 31) d _ [115,119] (NS _ _)
theorem Tj (L:List Tk) (d:Ds):instr L d 31=kW L d 31:=by
 rw [NQ,NR];unfold sw;by_cases hf:far L d=true
 ·rw [if_pos hf,if_pos (by rw [hf]; rfl),if_neg (by decide)]
 ·rw [if_neg hf,if_neg (by rw [Bool.eq_false_iff.2 hf]; simp)];exact NU L d
theorem Cx (L:List Tk) (d:Ds) (k:Nat) (hk:k < 32):instr L d k=kW L d k:=by
 rcases (show k=0\/k=1\/k=2\/k=3\/k=4\/k=5\/k=6\/k=7\/k=8\/k=9\/k=10\/k=11\/k=12\/k=13\/k=14\/k=15\/k=16\/k=17\/k=18\/k=19\/k=20\/k=21\/k=22\/k=23\/k=24\/k=25\/k=26\/k=27\/k=28\/k=29\/k=30\/k=31 by omega) with rfl | rfl | rfl | rfl | rfl | rfl | rfl | rfl | rfl | rfl | rfl | rfl | rfl | rfl | rfl | rfl | rfl | rfl | rfl | rfl | rfl | rfl | rfl | rfl | rfl | rfl | rfl | rfl | rfl | rfl | rfl | rfl
 ·exact Zz L d
 ·exact ZC L d
 ·exact ZE L d
 ·exact ZF L d
 ·exact ZG L d
 ·exact ZH L d
 ·exact ZI L d
 ·exact ZJ L d
 ·exact ZK L d
 ·exact ZL L d
 ·exact Sn L d
 ·exact Sq L d
 ·exact Sr L d
 ·exact Sv L d
 ·exact Sw L d
 ·exact Sy L d
 ·exact Sz L d
 ·exact SE L d
 ·exact SF L d
 ·exact SG L d
 ·exact SQ L d
 ·exact SS L d
 ·exact SV L d
 ·exact SY L d
 ·exact Ta L d
 ·exact Tc L d
 ·exact Td L d
 ·exact Te L d
 ·exact Tf L d
 ·exact Tg L d
 ·exact Ti L d
 ·exact Tj L d
end Rf
end Go.Proofs.YtnkkepfcpjllmaaGreatDoor
