
import Derived.Test.YtpgklkhgfcjceaaGreatDoorV16
set_option maxHeartbeats 16000000
namespace Go.Proofs.YtpgklkhgfcjceaaGreatDoor
open Go.RowKit
theorem Wv {w:World} {base:Nat} {e:TypeId} {size n cap:Nat} {ao:Option Addr} {xs:List Value} (h:w.ownsRow base e size (.slice ao n cap) n xs) (h0:0 < n):∃ sg cur,ao=some ⟨sg,0,none⟩/\yc w sg cur e/\cur.size=cap * size/\cur.toList.take (n * size)=xs/\n<=cap:=by
 rcases h.2 with ⟨h1,h2⟩ | ⟨g',cap',cur,hv,_,hg,h3,_,h5,h6⟩
 ·omega
 ·simp only [Value.slice.injEq] at hv
  obtain ⟨rfl,_,rfl⟩:=hv
  exact ⟨g',cur,rfl,hg,h5,h6,h3⟩
theorem Ww {w:World} {base:Nat} {e:TypeId} {size n cap sg j:Nat} {xs:List Value} {u:Value} (h:w.ownsRow base e size (.slice (some ⟨sg,0,none⟩) n cap) n xs) (_hj:j < n * size) :
  (w.setCell ⟨sg,j,none⟩ u).ownsRow base e size (.slice (some ⟨sg,0,none⟩) n cap) n (xs.set j u):=by
 refine ⟨by rw [List.length_set]; exact h.1,?_⟩
 rcases h.2 with ⟨h1,h2⟩ | ⟨g',cap',cur,hv,hb,hg,h3,h4,h5,h6⟩
 ·simp at h1
 ·simp only [Value.slice.injEq,Option.some.injEq,Addr.mk.injEq] at hv
  obtain ⟨⟨rfl,_⟩,_,rfl⟩:=hv
  refine .inr ⟨sg,cap,cur.setIfInBounds j u,rfl,hb,JU hg u,h3,h4,by simpa using h5,?_⟩
  rw [Array.toList_setIfInBounds,List.take_set,h6]
theorem yoT {α:Type} (f:α->List Value) (size:Nat) (hf:∀ x,(f x).length=size) (l:List α) (i j:Nat) (hi:i < l.length) (hj:j < size) (u:Value) (y:α) (hy:f y=(f l[i]).set j u):(l.flatMap f).set (i * size+j) u=(l.set i y).flatMap f:=by
 induction l generalizing i with
 | nil=>simp at hi
 | cons a l ih =>
  cases i with
  | zero =>
   simp only [List.flatMap_cons,fP,Nat.zero_mul,Nat.zero_add] at hy ⊢
   rw [List.set_append_left _ _ (by rw [hf]; exact hj),hy]
   rfl
  | succ i =>
   simp only [List.flatMap_cons,fT]
   rw [List.set_append_right _ _ (by rw [hf]; rw [Nat.succ_mul]; omega),hf,show (i+1) * size+j - size=i * size+j by rw [Nat.succ_mul]; omega,ih i (by simpa using hi) hy]
section
variable {B:Nat} {s:ByteArray} {b g:Nat} {V:World} {st:As.St} {vt vf vd va vs vr:Value}
theorem yl.rF {sg n cs:Nat} (h:yl B s b g st V) (ho:qy B V b g st.obj vt vf vd va (.slice (some ⟨sg,0,none⟩) n cs) vr) (i j:Nat) (hi:i < st.obj.syms.length) (hj:j < 4) (u:Value) (y:Lk.Sym) (hy:gP y=(gP st.obj.syms[i]).set j u) :
  Does B s b g V { st with obj:={ st.obj with syms:=st.obj.syms.set i y } } (V.setCell ⟨sg,i * 4+j,none⟩ u):=by
 obtain ⟨ao,cap,hv⟩:=yh ho.syms
 simp only [Value.slice.injEq] at hv
 obtain ⟨rfl,rfl,rfl⟩:=hv
 have gs:=yf V sg (i * 4+j) u
 have nr:lY B V (V.setCell ⟨sg,i * 4+j,none⟩ u) b g (.slice (some ⟨sg,0,none⟩) st.obj.syms.length cs) (.slice (some ⟨sg,0,none⟩) st.obj.syms.length cs) :=
  ⟨fun k hk hne _=>gs.block k hk (by simpa [Value.ownBlock] using hne),fun k hk=>.inl hk,gs.os,gs.tape,gs.output,gs.size⟩
 have hgs:g≠sg:=fun e=>ho.apart.ne (i:=1) (j:=6) rfl rfl (by omega) g rfl (by rw [e]; rfl)
 refine h.vE ho nr (st.obj.syms.set i y) (by rw [List.length_set]; exact h.ok.syms) (ho.blk.grown gs (by simpa using hgs)) ?_
 rw [List.length_set,<- yoT gP 4 (fun x=>rfl) st.obj.syms i j hi hj u y hy]
 have hmm:i * 4+4<=st.obj.syms.length * 4:=by have:=Nat.mul_le_mul_right 4 (show i+1<=st.obj.syms.length by omega); omega
 exact Ww ho.syms (by omega)
theorem yl.zM {v':Value} {W':World} (h:yl B s b g st V) (ho:qy B V b g st.obj vt vf vd va vs vr) (n:lY B V W' b g va v') (xs:List Int) (hxs:xs.length=4)
  (hblk:yc W' g #[vt,vf,vd,.int .i64 st.obj.bss,v',vs,vr] 71) (hown:W'.ownsRow B 3 1 v' xs.length (xs.map (Value.int .i64))):Does B s b g V { st with obj:={ st.obj with align:=xs } } W':=by
 refine n.does h ho (i:=5) rfl (by omega) ⟨vt,vf,vd,v',vs,vr,hblk,?_,?_,?_,hown,?_,?_,n.apart ho h.blk.lt (i:=5) rfl⟩ rfl (h.ok.uH _ h.ok.text h.ok.far h.ok.data h.ok.bss hxs h.ok.syms h.ok.aj) (D8 ho.align (by simp))
 ·exact n.row ho (i:=5) (j:=2) rfl rfl (by omega) (by omega) ho.text
 ·exact n.row ho (i:=5) (j:=3) rfl rfl (by omega) (by omega) ho.far
 ·exact n.row ho (i:=5) (j:=4) rfl rfl (by omega) (by omega) ho.data
 ·exact n.row ho (i:=5) (j:=6) rfl rfl (by omega) (by omega) ho.syms
 ·exact n.row ho (i:=5) (j:=7) rfl rfl (by omega) (by omega) ho.aj
theorem yl.zQ {sg n cs:Nat} (h:yl B s b g st V) (ho:qy B V b g st.obj vt vf vd (.slice (some ⟨sg,0,none⟩) n cs) vs vr) (i:Nat) (hi:i < 4) (u:Int) :
  Does B s b g V { st with obj:={ st.obj with align:=st.obj.align.set i u } } (V.setCell ⟨sg,i,none⟩ (.int .i64 u)):=by
 obtain ⟨ao,cap,hv⟩:=yh ho.align
 simp only [Value.slice.injEq] at hv
 obtain ⟨rfl,rfl,rfl⟩:=hv
 have gs:=yf V sg i (.int .i64 u)
 have nr:lY B V (V.setCell ⟨sg,i,none⟩ (.int .i64 u)) b g (.slice (some ⟨sg,0,none⟩) st.obj.align.length cs) (.slice (some ⟨sg,0,none⟩) st.obj.align.length cs) :=
  ⟨fun k hk hne _=>gs.block k hk (by simpa [Value.ownBlock] using hne),fun k hk=>.inl hk,gs.os,gs.tape,gs.output,gs.size⟩
 have hgs:g≠sg:=fun e=>ho.apart.ne (i:=1) (j:=5) rfl rfl (by omega) g rfl (by rw [e]; rfl)
 refine h.zM ho nr (st.obj.align.set i u) (by rw [List.length_set]; exact h.ok.align) (ho.blk.grown gs (by simpa using hgs)) ?_
 rw [List.length_set,List.map_set]
 exact Ww ho.align (by have:=h.ok.align; omega)
end
theorem Vb (ys:List Lk.Sym) (i:Nat) (hi:i < ys.length) (f:Lk.Sym->Lk.Sym):ys.modify i f=ys.set i (f ys[i]):=by
 induction ys generalizing i with
 | nil=>simp at hi
 | cons y ys ih =>
  cases i with
  | zero=>simp
  | succ i =>
   simp only [List.modify_succ_cons,fT,nQ]
   rw [ih i (by simpa using hi)]
theorem UF (t:As.Tok) (st:As.St) (h:(As.aS t st).1.2=true):(As.aS t st).1.1 < (As.aS t st).2.obj.syms.length:=by
 unfold As.aS at h ⊢
 cases hf:As.failed st
 ·rw [hf] at h
  simp only [Bool.false_eq_true,if_false] at h ⊢
  cases hs:As.jJ st.obj.syms t.text with
  | some i =>
   simp only
   unfold As.jJ at hs
   rw [List.findIdx?_eq_some_iff_getElem] at hs
   exact hs.1
  | none =>
   rw [hs] at h
   simp only at h ⊢
   by_cases h16:16<=st.obj.syms.length
   ·rw [if_pos h16] at h; simp at h
   ·rw [if_neg h16]; simp
 ·rw [hf] at h
  simp at h
theorem Mq {B:Nat} {s:ByteArray} {b g:Nat} {V:World} {st:As.St} (h:yl B s b g st V) (i:Nat) (hi:i < st.obj.syms.length):∃ vt vf vd va sg cs vr,qy B V b g st.obj vt vf vd va (.slice (some ⟨sg,0,none⟩) st.obj.syms.length cs) vr/\V.cell? ⟨g,5,none⟩=some (.slice (some ⟨sg,0,none⟩) st.obj.syms.length cs) /\
  V.cell? ⟨sg,i * 4+1,none⟩=some (.int .i64 st.obj.syms[i].bind)/\V.cell? ⟨sg,i * 4+2,none⟩=some (.int .i64 st.obj.syms[i].ah)/\V.cell? ⟨sg,i * 4+3,none⟩=some (.int .i64 st.obj.syms[i].off)/\(∀ o,V.frozen? ⟨sg,o,none⟩=false)/\sg≠b/\sg≠g:=by
 obtain ⟨vt,vf,vd,va,vs,vr,ho⟩:=h.own
 obtain ⟨fU,cs,rfl⟩:=yh ho.syms
 obtain ⟨sg,cur,rfl,hb,-,-,-⟩:=Wv ho.syms (by omega)
 obtain ⟨sg',hsg,-,hc⟩:=mW.aR ho.syms (by omega)
 simp only [Option.some.injEq,Addr.mk.injEq] at hsg
 obtain ⟨rfl,-⟩:=hsg
 obtain ⟨-,k1,k2,k3⟩:=hc i hi
 have g5:=ho.blk.cell 5
 simp only [bC,bG,bE] at g5
 exact ⟨vt,vf,vd,va,sg,cs,vr,ho,g5,k1,k2,k3,fun o=>hb.free o,fun e=>ho.apart.ne (i:=0) (j:=6) rfl rfl (by omega) b rfl (by rw [<- e]; rfl),fun e=>ho.apart.ne (i:=1) (j:=6) rfl rfl (by omega) g rfl (by rw [<- e]; rfl)⟩
set_option maxRecDepth 100000 in
theorem VH (B:Nat) (s:ByteArray) (b g:Nat) (st:As.St) (binding:Int) (W:World) (h:yl B s b g st W) :
  Calls Tryz.prog 201 #[.pointer (some ⟨b,0,none⟩),.int .i64 binding] W fun en W'=>en = .returned (.tuple #[])/\Does B s b g W (As.bind (sl s) binding st) W':=by
 have HW:=hid h
 have cN:=hid (VB B s b g st W h)
 have HT:=hid (VD (sl s) st h.ok.tok)
 clear h
 obtain ⟨X,hX⟩:∃ X,X=As.bind (sl s) binding st:=⟨_,rfl⟩
 rw [<- hX]
 unfold As.bind at hX
 dsimp only at hX
 have RS:=hid hX
 clear hX
 generalize As.name (sl s) st=R at *
 obtain ⟨t,st1⟩:=R
 dsimp only at HT RS cN
 go_enter Tryz.func201,Tryz.ntmps201
 go_wp2_with fail
 refine cN.o.mono ?_
 rintro e V ⟨rfl,h1⟩
 have D1:=hid (h1.does HW.o)
 clear h1 cN
 unfold fM
 go_wp2_with fail
 refine (OM B s b g st1 t _ (D1.o.alloc _).1 HT.o).mono ?_
 rintro e V2 ⟨rfl,h2⟩
 have D2:=hid ((D1.o.alloc _).after h2)
 have LT:=hid (h2.2.2 V.heap.size (yS t) 64 (by decide) (by decide) (by decide) (by decide) (by decide) (yc.new V _ _))
 have Gw:=hid (UF t st1)
 clear h2 D1
 unfold MH
 generalize As.aS t st1=R2 at *
 obtain ⟨⟨i,ok⟩,st2⟩:=R2
 dsimp only at RS D2 Gw ⊢
 cases ok
 ·rw [if_pos (show (!false)=true from rfl)] at RS
  go_wp2
  (try simp only [Exit.inBlock,Exit.then]); refine bodyPost_ret (results_none rfl _ _ _) rfl ?_
  rw [RS.o]
  exact ⟨rfl,D2.o⟩
 ·rw [if_neg (by simp)] at RS
  have hi:=Gw.o rfl
  obtain ⟨vt,vf,vd,va,sg,cs,vr,ho,g5,k1,k2,k3,hfz,n1,n2⟩:=Mq D2.o.1 i hi
  have HO:=hid ho
  have c14:=rQ D2.o.1
  have hcap:=pV ho.syms
  have f1:=hfz (i * 4+1)
  clear ho hfz
  rw [jF hi] at RS
  simp only [Option.map_some,Option.getD_some] at RS
  have g1:(0:Int)<=(i:Int):=by omega
  have g2:(i:Int) < (st2.obj.syms.length:Int):=by omega
  by_cases hz:st2.obj.syms[i].bind=0
  ·have d:(st2.obj.syms[i].bind == 0)=true:=by simp [hz]
   have d':(st2.obj.syms[i].bind != 0)=false:=by simp [hz]
   rw [if_neg (by simpa using hz)] at RS
   have FIN:=hid (D2.o.after (D2.o.1.rF HO.o i 1 hi (by omega) (.int .i64 binding) ⟨st2.obj.syms[i].name,binding,st2.obj.syms[i].ah,st2.obj.syms[i].off⟩ rfl))
   have RX:=hid (show X={ st2 with obj:={ st2.obj with syms:=st2.obj.syms.set i ⟨st2.obj.syms[i].name,binding,st2.obj.syms[i].ah,st2.obj.syms[i].off⟩ } } from by rw [RS.o]; unfold As.pF; rw [Vb _ i hi])
   clear hz
   go_wp2
   go_end0
   rw [RX.o]
   exact ⟨rfl,FIN.o⟩
  ·have d:(st2.obj.syms[i].bind == 0)=false:=by simp [hz]
   have d':(st2.obj.syms[i].bind != 0)=true:=by simp [hz]
   rw [if_pos (by simpa using hz)] at RS
   have m1:=LT.o.cell 1
   simp only [yS,bC,bG,bE] at m1
   clear hz
   go_wp2_with fail
   refine (yJ B s b g st2 14 t.pos V2 D2.o.1 (by omega) HT.o.pos).mono ?_
   rintro e V3 ⟨rfl,h3⟩
   have D3:=hid (D2.o.aO h3)
   clear h3
   go_wp2
   (try simp only [Exit.inBlock,Exit.then]); refine bodyPost_ret (results_none rfl _ _ _) rfl ?_
   rw [RS.o]
   exact ⟨rfl,D3.o⟩
set_option maxRecDepth 100000 in
theorem ynR (B:Nat) (s:ByteArray) (b g:Nat) (st:As.St) (t:As.Tok) (W:World) (h:yl B s b g st W) (ht:uU t) :
  Calls Tryz.prog 52 #[.pointer (some ⟨b,0,none⟩),fM t] W fun en W'=>en = .returned (.tuple #[])/\Does B s b g W (As.label t st) W':=by
 have HW:=hid h
 have L0:=hid ((Loc.begin h).alloc (yS t) 64)
 have HT:=hid ht
 clear h ht
 obtain ⟨X,hX⟩:∃ X,X=As.label t st:=⟨_,rfl⟩
 rw [<- hX]
 unfold As.label at hX
 dsimp only at hX
 have RS:=hid hX
 clear hX
 unfold fM
 go_enter Tryz.func52,Tryz.ntmps52
 go_wp2_with fail
 refine Calls.aJ (Loc B s b g W [(W.heap.size,yS t,64)] st) L0.o ?_
 clear L0
 generalize hr:W.heap.size=r at *
 clear hr
 intro V hV
 refine (Ua B s b g st t V hV.d.1 HT.o).mono ?_
 rintro e V1 ⟨rfl,h1⟩
 have L1:=hid (hV.step h1)
 clear h1 hV V
 generalize As.bV t st=st1 at *
 obtain ⟨m0,m1,m2,m3⟩:=(⟨L1.o.d,L1.o.l (r,yS t,64) (by simp)⟩:kJ B s b g W r t st1 V1).cells
 go_wp2_with fail
 refine (OM B s b g st1 t V1 L1.o.d.1 HT.o).mono ?_
 rintro e V2 ⟨rfl,h2⟩
 have D2:=hid ((L1.o.d.does HW.o).after h2)
 have LT:=hid (h2.2.2 r (yS t) 64 (by decide) (by decide) (by decide) (by decide) (by decide) (L1.o.l (r,yS t,64) (by simp)))
 have Gw:=hid (UF t st1)
 clear h2 L1 m0 m1 m2 m3
 unfold MH
 generalize As.aS t st1=R2 at *
 obtain ⟨⟨i,ok⟩,st2⟩:=R2
 dsimp only at RS D2 Gw ⊢
 cases ok
 ·rw [if_pos (show (!false)=true from rfl)] at RS
  go_wp2
  (try simp only [Exit.inBlock,Exit.then]); refine bodyPost_ret (results_none rfl _ _ _) rfl ?_
  rw [RS.o]
  exact ⟨rfl,D2.o⟩
 ·rw [if_neg (by simp)] at RS
  have hi:=Gw.o rfl
  rw [jF hi] at RS
  simp only [Option.map_some,Option.getD_some] at RS
  obtain ⟨vt,vf,vd,va,sg,cs,vr,ho,g5,k1,k2,k3,hfz,n1,n2⟩:=Mq D2.o.1 i hi
  have HO:=hid ho
  have c14:=rQ D2.o.1
  have c13:=tH D2.o.1
  have hcap:=pV ho.syms
  have f2:=hfz (i * 4+2)
  have f3:=hfz (i * 4+3)
  clear ho hfz
  have g1:(0:Int)<=(i:Int):=by omega
  have g2:(i:Int) < (st2.obj.syms.length:Int):=by omega
  by_cases hz:st2.obj.syms[i].ah=0
  ·have d:(st2.obj.syms[i].ah == 0)=true:=by simp [hz]
   have d':(st2.obj.syms[i].ah != 0)=false:=by simp [hz]
   rw [if_neg (by simpa using hz)] at RS
   have RX:=hid (show X={ st2 with obj:={ st2.obj with syms:=st2.obj.syms.set i ⟨st2.obj.syms[i].name,st2.obj.syms[i].bind,st2.ah,4 * As.bK st2.obj st2.ah⟩ } } from by rw [RS.o]; unfold As.pF; rw [Vb _ i hi])
   have P1:=hid (D2.o.1.rF HO.o i 2 hi (by omega) (.int .i64 st2.ah) ⟨st2.obj.syms[i].name,st2.obj.syms[i].bind,st2.ah,st2.obj.syms[i].off⟩ rfl)
   clear hz RS
   go_wp2
   refine wp_region_held_drew (S:=(fun w'=>w'.cell? ⟨b,14,none⟩=some (.pointer (some ⟨g,0,none⟩))/\w'.cell? ⟨b,13,none⟩=some (.int .i64 st2.ah)/\w'.cell? ⟨g,5,none⟩=some (.slice (some ⟨sg,0,none⟩) st2.obj.syms.length cs))) (by kernel_rfl) ⟨c14,c13,g5⟩ ?_
   intro hS
   refine wpAnyH_take (i:=0) (v:=?_) rfl (by kernel_rfl) (by kernel_rfl) (by kernel_rfl) (fun _ _ _ h=>h) (Or.inl ⟨by kernel_rfl,?_⟩) hS ?_
   rotate_left
   ·intro w' hw'; obtain ⟨x0,x1,x2⟩:=hw'; go_simp; with_reducible rfl
   refine wpAnyH_take (i:=1) (v:=?_) rfl (by kernel_rfl) (by kernel_rfl) (by kernel_rfl) (fun _ _ _ h=>h) (Or.inl ⟨by kernel_rfl,?_⟩) hS ?_
   rotate_left
   ·intro w' hw'; obtain ⟨x0,x1,x2⟩:=hw'; go_simp; with_reducible rfl
   refine wpAnyH_take (i:=2) (v:=?_) rfl (by kernel_rfl) (by kernel_rfl) (by kernel_rfl) (fun _ _ _ h=>h) (Or.inl ⟨by kernel_rfl,?_⟩) hS ?_
   rotate_left
   ·intro w' hw'; obtain ⟨x0,x1,x2⟩:=hw'; go_simp; with_reducible rfl
   refine wpAnyH_take (i:=3) (v:=?_) rfl (by kernel_rfl) (by kernel_rfl) (by kernel_rfl) (fun _ _ _ h=>h) (Or.inl ⟨by kernel_rfl,?_⟩) hS ?_
   rotate_left
   ·intro w' hw'; obtain ⟨x0,x1,x2⟩:=hw'; go_simp; with_reducible rfl
   refine wpAnyH_take (i:=4) (v:=?_) rfl (by kernel_rfl) (by kernel_rfl) (by kernel_rfl) (fun _ _ _ h=>h) (Or.inl ⟨by kernel_rfl,?_⟩) hS ?_
   rotate_left
   ·intro w' hw'; obtain ⟨x0,x1,x2⟩:=hw'; go_simp; with_reducible rfl
   refine wpAnyH_take (i:=5) (v:=?_) rfl (by kernel_rfl) (by kernel_rfl) (by kernel_rfl) (fun _ _ _ h=>h) (Or.inl ⟨by kernel_rfl,?_⟩) hS ?_
   rotate_left
   ·intro w' hw'; obtain ⟨x0,x1,x2⟩:=hw'; go_simp; with_reducible rfl
   refine wpAnyH_take (i:=6) (v:=?_) rfl (by kernel_rfl) (by kernel_rfl) (by kernel_rfl) (fun _ _ _ h=>h) (Or.inl ⟨by kernel_rfl,?_⟩) hS ?_
   rotate_left
   ·intro w' hw'; obtain ⟨x0,x1,x2⟩:=hw'; go_simp; with_reducible rfl
   refine wpAnyH_take (i:=7) (v:=?_) rfl (by kernel_rfl) (by kernel_rfl) (by kernel_rfl) (fun _ _ _ h=>h) (Or.inl ⟨by kernel_rfl,?_⟩) hS ?_
   rotate_left
   ·intro w' hw'; obtain ⟨x0,x1,x2⟩:=hw'; go_simp; with_reducible rfl
   refine wpAnyH_take (i:=8) (v:=?_) rfl (by kernel_rfl) (by kernel_rfl) (by kernel_rfl) (fun _ _ _ h=>h) (Or.inl ⟨by kernel_rfl,?_⟩) hS ?_
   rotate_left
   ·intro w' hw'; obtain ⟨x0,x1,x2⟩:=hw'; go_simp; with_reducible rfl
   refine wpAnyH_take (i:=9) (v:=?_) rfl (by kernel_rfl) (by kernel_rfl) (by kernel_rfl) (fun _ _ _ h=>h) (Or.inl ⟨by kernel_rfl,?_⟩) hS ?_
   rotate_left
   ·intro w' hw'; obtain ⟨x0,x1,x2⟩:=hw'; go_simp; with_reducible rfl
   refine wpAnyH_take (i:=10) (v:=?_) rfl (by kernel_rfl) (by kernel_rfl) (by kernel_rfl) (fun _ _ _ h=>h) (Or.inl ⟨by kernel_rfl,?_⟩) hS ?_
   rotate_left
   ·intro w' hw'; obtain ⟨x0,x1,x2⟩:=hw'; go_simp; with_reducible rfl
   refine wpAnyH_take (i:=11) (v:=?_) rfl (by kernel_rfl) (by kernel_rfl) (by kernel_rfl) (fun _ _ _ h=>h) (Or.inl ⟨by kernel_rfl,?_⟩) hS ?_
   rotate_left
   ·intro w' hw'; obtain ⟨x0,x1,x2⟩:=hw'; go_simp; with_reducible rfl
   refine wpAnyH_take (i:=12) (v:=?_) rfl (by kernel_rfl) (by kernel_rfl) (by kernel_rfl) (fun _ _ _ h=>h) (Or.inl ⟨by kernel_rfl,?_⟩) hS ?_
   rotate_left
   ·intro w' hw'; obtain ⟨x0,x1,x2⟩:=hw'; go_simp; with_reducible rfl
   refine wpAnyH_take (i:=13) (v:=?_) rfl (by kernel_rfl) (by kernel_rfl) (by kernel_rfl) (fun _ _ _ h=>h) (Or.inl ⟨by kernel_rfl,?_⟩) hS ?_
   rotate_left
   ·intro w' hw'; obtain ⟨x0,x1,x2⟩:=hw'; go_simp; with_reducible rfl
   refine wpAnyH_ready (rs:=[14]) (by kernel_rfl) (by simp) ?_
   refine AllReadyH.cons rfl (fun K hK=>?_) AllReadyH.nil
   go_simp
   refine hK.out _ _ ⟨?_,?_,?_⟩ (fun hS2=>?_)
   ·exact (yf V2 sg (i * 4+2) (.int .i64 st2.ah)).cell c14 (by simpa using n1.symm)
   ·exact (yf V2 sg (i * 4+2) (.int .i64 st2.ah)).cell c13 (by simpa using n1.symm)
   ·exact (yf V2 sg (i * 4+2) (.int .i64 st2.ah)).cell g5 (by simpa using n2.symm)
   clear hK K
   refine wpAnyH_done (by kernel_rfl) ?_ _
   try simp only [qM,oD,nQ,om,fQ,fT,fP]
   have D3:=hid ((D2.o.after P1.o).grown (yi (World.grownBy.refl _ none)))
   clear P1 HO c14 c13 g5 k1 k2 k3 f2 f3 hcap n1 n2 hS hS2 D2 g2 vt vf vd va vr d d'
   generalize hst:({ st2 with obj:={ st2.obj with syms:=st2.obj.syms.set i ⟨st2.obj.syms[i].name,st2.obj.syms[i].bind,st2.ah,st2.obj.syms[i].off⟩ } }:As.St)=iD at *
   generalize World.drew _=V3 at *
   have hi3:i < iD.obj.syms.length:=by rw [<- hst]; simpa using hi
   have X3:=hid (show X={ iD with obj:={ iD.obj with syms:=iD.obj.syms.set i ⟨iD.obj.syms[i].name,iD.obj.syms[i].bind,iD.obj.syms[i].ah,4 * As.bK iD.obj iD.ah⟩ } } from by
    rw [RX.o]
    subst hst
    simp [As.bK])
   clear RX hst Gw
   obtain ⟨vt,vf,vd,va,sg2,cs2,vr,ho,g5,k1,k2,k3,hfz,n1,n2⟩:=Mq D3.o.1 i hi3
   have HO:=hid ho
   have c14:=rQ D3.o.1
   have c13:=tH D3.o.1
   have hcap:=pV ho.syms
   have f3:=hfz (i * 4+3)
   have g2:(i:Int) < (iD.obj.syms.length:Int):=by omega
   have P2:=hid (D3.o.after (D3.o.1.rF HO.o i 3 hi3 (by omega) (.int .i64 (4 * As.bK iD.obj iD.ah)) ⟨iD.obj.syms[i].name,iD.obj.syms[i].bind,iD.obj.syms[i].ah,4 * As.bK iD.obj iD.ah⟩ rfl))
   have cL:=hid (Hl B s b g iD V3.drew (D3.o.1.grown (yi (World.grownBy.refl _ none))))
   generalize 4 * As.bK iD.obj iD.ah=ln at *
   clear ho hfz k1 k2
   go_wp2
   refine wp_region_held_drew (S:=(fun w'=>w'.cell? ⟨b,14,none⟩=some (.pointer (some ⟨g,0,none⟩))/\w'.cell? ⟨b,13,none⟩=some (.int .i64 iD.ah)/\w'.cell? ⟨g,5,none⟩=some (.slice (some ⟨sg2,0,none⟩) iD.obj.syms.length cs2))) (by kernel_rfl) ⟨c14,c13,g5⟩ ?_
   intro hS
   refine wpAnyH_take (i:=0) (v:=?_) rfl (by kernel_rfl) (by kernel_rfl) (by kernel_rfl) (fun _ _ _ h=>h) (Or.inl ⟨by kernel_rfl,?_⟩) hS ?_
   rotate_left
   ·intro w' hw'; obtain ⟨x0,x1,x2⟩:=hw'; go_simp; with_reducible rfl
   refine wpAnyH_take (i:=1) (v:=?_) rfl (by kernel_rfl) (by kernel_rfl) (by kernel_rfl) (fun _ _ _ h=>h) (Or.inl ⟨by kernel_rfl,?_⟩) hS ?_
   rotate_left
   ·intro w' hw'; obtain ⟨x0,x1,x2⟩:=hw'; go_simp; with_reducible rfl
   refine wpAnyH_take (i:=2) (v:=?_) rfl (by kernel_rfl) (by kernel_rfl) (by kernel_rfl) (fun _ _ _ h=>h) (Or.inl ⟨by kernel_rfl,?_⟩) hS ?_
   rotate_left
   ·intro w' hw'; obtain ⟨x0,x1,x2⟩:=hw'; go_simp; with_reducible rfl
   refine wpAnyH_take (i:=3) (v:=?_) rfl (by kernel_rfl) (by kernel_rfl) (by kernel_rfl) (fun _ _ _ h=>h) (Or.inl ⟨by kernel_rfl,?_⟩) hS ?_
   rotate_left
   ·intro w' hw'; obtain ⟨x0,x1,x2⟩:=hw'; go_simp; with_reducible rfl
   refine wpAnyH_take (i:=4) (v:=?_) rfl (by kernel_rfl) (by kernel_rfl) (by kernel_rfl) (fun _ _ _ h=>h) (Or.inl ⟨by kernel_rfl,?_⟩) hS ?_
   rotate_left
   ·intro w' hw'; obtain ⟨x0,x1,x2⟩:=hw'; go_simp; with_reducible rfl
   refine wpAnyH_take (i:=5) (v:=?_) rfl (by kernel_rfl) (by kernel_rfl) (by kernel_rfl) (fun _ _ _ h=>h) (Or.inl ⟨by kernel_rfl,?_⟩) hS ?_
   rotate_left
   ·intro w' hw'; obtain ⟨x0,x1,x2⟩:=hw'; go_simp; with_reducible rfl
   refine wpAnyH_take (i:=6) (v:=?_) rfl (by kernel_rfl) (by kernel_rfl) (by kernel_rfl) (fun _ _ _ h=>h) (Or.inl ⟨by kernel_rfl,?_⟩) hS ?_
   rotate_left
   ·intro w' hw'; obtain ⟨x0,x1,x2⟩:=hw'; go_simp; with_reducible rfl
   refine wpAnyH_take (i:=7) (v:=?_) rfl (by kernel_rfl) (by kernel_rfl) (by kernel_rfl) (fun _ _ _ h=>h) (Or.inl ⟨by kernel_rfl,?_⟩) hS ?_
   rotate_left
   ·intro w' hw'; obtain ⟨x0,x1,x2⟩:=hw'; go_simp; with_reducible rfl
   refine wpAnyH_take (i:=8) (v:=?_) rfl (by kernel_rfl) (by kernel_rfl) (by kernel_rfl) (fun _ _ _ h=>h) (Or.inl ⟨by kernel_rfl,?_⟩) hS ?_
   rotate_left
   ·intro w' hw'; obtain ⟨x0,x1,x2⟩:=hw'; go_simp; with_reducible rfl
   refine wpAnyH_take (i:=9) (v:=?_) rfl (by kernel_rfl) (by kernel_rfl) (by kernel_rfl) (fun _ _ _ h=>h) (Or.inl ⟨by kernel_rfl,?_⟩) hS ?_
   rotate_left
   ·intro w' hw'; obtain ⟨x0,x1,x2⟩:=hw'; go_simp; with_reducible rfl
   refine wpAnyH_take (i:=10) (v:=?_) rfl (by kernel_rfl) (by kernel_rfl) (by kernel_rfl) (fun _ _ _ h=>h) (Or.inl ⟨by kernel_rfl,?_⟩) hS ?_
   rotate_left
   ·intro w' hw'; obtain ⟨x0,x1,x2⟩:=hw'; go_simp; with_reducible rfl
   refine wpAnyH_take (i:=11) (v:=?_) rfl (by kernel_rfl) (by kernel_rfl) (by kernel_rfl) (fun _ _ _ h=>h) (Or.inl ⟨by kernel_rfl,?_⟩) hS ?_
   rotate_left
   ·intro w' hw'; obtain ⟨x0,x1,x2⟩:=hw'; go_simp; with_reducible rfl
   refine wpAnyH_take (i:=12) (v:=?_) rfl (by kernel_rfl) (by kernel_rfl) (by kernel_rfl) (fun _ _ _ h=>h) (Or.inl ⟨by kernel_rfl,?_⟩) hS ?_
   rotate_left
   ·intro w' hw'; obtain ⟨x0,x1,x2⟩:=hw'; go_simp; with_reducible rfl
   refine wpAnyH_take (i:=13) (v:=?_) rfl (by kernel_rfl) (by kernel_rfl) (by kernel_rfl) (fun _ _ _ h=>h) (Or.inl ⟨by kernel_rfl,?_⟩) hS ?_
   rotate_left
   ·intro w' hw'; obtain ⟨x0,x1,x2⟩:=hw'; go_simp; with_reducible rfl
   refine wpAnyH_take (i:=14) (v:=?_) rfl (by kernel_rfl) (by kernel_rfl) (by kernel_rfl) (fun _ _ _ h=>h) (Or.inl ⟨by kernel_rfl,?_⟩) hS ?_
   rotate_left
   ·intro w' hw'; obtain ⟨x0,x1,x2⟩:=hw'; go_simp; with_reducible rfl
   refine wpAnyH_take (i:=15) (v:=?_) rfl (by kernel_rfl) (by kernel_rfl) (by kernel_rfl) (fun _ _ _ h=>h) (Or.inl ⟨by kernel_rfl,?_⟩) hS ?_
   rotate_left
   ·intro w' hw'; obtain ⟨x0,x1,x2⟩:=hw'; go_simp; with_reducible rfl
   refine wpAnyH_ready (rs:=[16]) (by kernel_rfl) (by simp) ?_
   refine AllReadyH.cons rfl (fun K hK=>?_) AllReadyH.nil
   go_simp
   go_wp2_with (go_at_call 87; refine cL.o.mono ?_; rintro e w' ⟨rfl,rfl⟩)
   refine hK.out _ _ hS (fun hS2=>?_)
   clear hK K
   refine wpAnyH_take (i:=17) (v:=?_) rfl (by kernel_rfl) (by kernel_rfl) (by kernel_rfl) (fun _ _ _ h=>h) (Or.inl ⟨by kernel_rfl,?_⟩) hS ?_
   rotate_left
   ·intro w' hw'; obtain ⟨x0,x1,x2⟩:=hw'; go_simp; with_reducible rfl
   refine wpAnyH_take (i:=18) (v:=?_) rfl (by kernel_rfl) (by kernel_rfl) (by kernel_rfl) (fun _ _ _ h=>h) (Or.inl ⟨by kernel_rfl,?_⟩) hS ?_
   rotate_left
   ·intro w' hw'; obtain ⟨x0,x1,x2⟩:=hw'; go_simp; with_reducible rfl
   refine wpAnyH_ready (rs:=[19]) (by kernel_rfl) (by simp) ?_
   refine AllReadyH.cons rfl (fun K hK=>?_) AllReadyH.nil
   go_simp
   refine hK.out _ _ ⟨?_,?_,?_⟩ (fun hS2=>?_)
   ·exact (yf V3 sg2 (i * 4+3) (.int .i64 ln)).cell c14 (by simpa using n1.symm)
   ·exact (yf V3 sg2 (i * 4+3) (.int .i64 ln)).cell c13 (by simpa using n1.symm)
   ·exact (yf V3 sg2 (i * 4+3) (.int .i64 ln)).cell g5 (by simpa using n2.symm)
   clear hK K
   refine wpAnyH_done (by kernel_rfl) ?_ _
   try simp only [qM,oD,nQ,om,fQ,fT,fP]
   go_wp2
   go_end0
   rw [X3.o]
   exact ⟨rfl,P2.o.grown (yi (World.grownBy.refl _ none))⟩
  ·have d:(st2.obj.syms[i].ah == 0)=false:=by simp [hz]
   have d':(st2.obj.syms[i].ah != 0)=true:=by simp [hz]
   rw [if_pos (by simpa using hz)] at RS
   have m1:=LT.o.cell 1
   simp only [yS,bC,bG,bE] at m1
   clear hz
   go_wp2_with fail
   refine (yJ B s b g st2 10 t.pos V2 D2.o.1 (by omega) HT.o.pos).mono ?_
   rintro e V3 ⟨rfl,h3⟩
   have D3:=hid (D2.o.aO h3)
   clear h3
   go_wp2
   (try simp only [Exit.inBlock,Exit.then]); refine bodyPost_ret (results_none rfl _ _ _) rfl ?_
   rw [RS.o]
   exact ⟨rfl,D3.o⟩
theorem pU.aR {w:World} {base n cap:Nat} {ao:Option Addr} {ws:List Int} (h:w.ownsRow base 3 1 (.slice ao n cap) n (ws.map (Value.int .i64))):pU w ao cap ws:=by
 have hn:ws.length=n:=by have:=h.1; simpa using this
 rcases h.2 with ⟨h1,h2⟩ | ⟨g',cap',cur,hv,_,hg,h3,_,h5,h6⟩
 ·simp only [Value.slice.injEq] at h1
  exact .inl ⟨h1.1,h1.2.2,List.eq_nil_of_length_eq_zero (by omega)⟩
 ·simp only [Value.slice.injEq] at hv
  obtain ⟨rfl,_,rfl⟩:=hv
  refine .inr ⟨g',0,cur,rfl,hg,fun i hi=>?_⟩
  have e:(cur.toList.take (n * 1))[i]?=some (.int .i64 ws[i]):=by rw [h6]; simp [hi]
  rw [List.getElem?_take_of_lt (by omega)] at e
  rw [Nat.zero_add]
  simpa using e
theorem Hf {w wr w1:World} {row:Option Nat} (h:w.grownBy wr none) (k:wr.grownBy w1 row) (hr:∀ g,row=some g->w.heap.size<=g):w.grownBy w1 none :=
 ⟨k.os.trans h.os,k.tape.trans h.tape,k.output.trans h.output,Nat.le_trans h.size k.size,fun i hi hn =>
  (k.block i (Nat.lt_of_lt_of_le hi h.size) (fun e=>by have:=hr i e.symm; omega)).trans (h.block i hi hn)⟩
theorem yko (x:Int) (n:Nat) (w:World) (hn:n<=4096) :
  Calls Tryz.prog 199 #[.int .i64 x,.int .i64 n] w fun e w'=>(∃ ao cap,e = .returned (.slice ao n cap)/\pU w' ao cap (List.replicate n x))/\w.grownBy w' none:=by
 obtain ⟨i0,hi,hz0,hz1,hz2⟩:=info_parts Tryz.j6
 go_enter Tryz.func199,Tryz.ntmps199
 go_wp2
 go_loopw [5,6] (fun v i wr=>∃ k:Nat,k<=n/\i = .int .i64 k/\wr.ownsRow w.heap.size 3 1 v k ((List.replicate k x).map (Value.int .i64))/\w.grownBy wr none) (fun _ i _=>n - (intOf i).toNat)
 case atStart=>exact ⟨0,Nat.zero_le _,rfl,World.ownsRow_nil _ _ _ _,World.grownBy.refl _ _⟩
 case round =>
  rename_i v _ _
  obtain ⟨k,hk,rfl,hown,hgr⟩:=hrel
  obtain ⟨av,cv,rfl⟩:=yh hown
  have HG:=hid hgr
  have hsz:=hgr.size
  clear hgr
  by_cases hlt:k < n
  ·have hlt':(k:Int) < (n:Int):=by omega
   go_wp2_with (at_builtin; refine wpList_append_own _ rfl _ _ 35 rfl w.heap.size 3 i0 (.int .i64 0) 1 8 Tryz.underlying35 hi hz0 hz1 hz2 rfl (by decide) _ _ _ rfl (hown.alloc _) ⟨wr.heap.size,0,none⟩ 1 1 [.int .i64 x] rfl rfl (cell_one_new _ _ _) (by intro u hu; simp at hu; subst hu; rfl) (by unfold maxLen; omega) (by omega) (by simp; omega) ?_; intro v' w3 hown' hgrow _; obtain ⟨mY,cv',rfl⟩:=yh hown'; have K:=hid (Hf (ya HG.o (aH wr (.cells #[.int .i64 x] 3) none)) hgrow (fun b hb=>(hown.lt b hb).1)); have HO:=hid hown'; clear hgrow hown')
   go_wp2
   go_roundw
   case rel=>exact ⟨k+1,by omega,by go_num,by rw [List.replicate_succ',List.map_append]; exact HO.o,K.o⟩
   case measure=>simp [intOf]; omega
  ·obtain rfl:k=n:=by omega
   have HO:=hid hown
   clear hown
   go_wp2
   go_ret
   exact ⟨⟨av,cv,rfl,pU.aR HO.o⟩,HG.o⟩
theorem GJ (x:Int) (n:Nat) (mn:Int) (hm:mn=(n:Int)) (w:World) (hn:n<=4096) :
  Calls Tryz.prog 199 #[.int .i64 x,.int .i64 mn] w fun e w'=>(∃ ao cap,e = .returned (.slice ao n cap)/\pU w' ao cap (List.replicate n x))/\w.grownBy w' none:=by
 subst hm; exact yko x n w hn
theorem MC (B:Nat) (s:ByteArray) (b g:Nat) (st:As.St) (x:Int) (n:Nat) (ao:Option Addr) (cap:Nat) (W:World) (h:yl B s b g st W) (hw:pU W ao cap (List.replicate n x)) (hn:n<=4096) :
  Calls Tryz.prog 198 #[.pointer (some ⟨b,0,none⟩),.slice ao n cap] W fun en W'=>en = .returned (.tuple #[])/\Does B s b g W (As.lay (List.replicate n x) st) W':=by
 have c:=Gb B s b g st ao cap (List.replicate n x) W h hw (by simpa using hn)
 rw [List.length_replicate] at c
 exact c
theorem Ux (B:Nat) (s:ByteArray) (b g:Nat) (st:As.St) (kind:Int) (sym:Nat) (addend:Int) (x:Int) (n:Nat) (ao:Option Addr) (cap:Nat) (W:World) (h:yl B s b g st W) (hw:pU W ao cap (List.replicate n x)) (hn:n<=4096) :
  Calls Tryz.prog 195 #[.pointer (some ⟨b,0,none⟩),.int .i64 kind,.int .i64 sym,.int .i64 addend,.slice ao n cap] W fun en W'=>en = .returned (.tuple #[])/\Does B s b g W (As.dS kind sym addend (List.replicate n x) st) W':=by
 have c:=DW B s b g st kind sym addend ao cap (List.replicate n x) W h hw (by simpa using hn)
 rw [List.length_replicate] at c
 exact c
theorem yjm (n:Int) (h0:-9223372036854775808<=n) (h1:n<=9223372036854775807):bits .andNot .i64 n 3=n - n % 4:=by
 have e1:(~~~ (BitVec.ofInt 64 3)).toNat=(2 ^ 62 - 1) <<< 2:=by decide
 have key:(BitVec.ofInt 64 n &&& ~~~ (BitVec.ofInt 64 3)).toNat=(n % ((2 ^ 64:Nat):Int)).toNat / 4 * 4:=by
  rw [BitVec.toNat_and,e1,BitVec.toNat_ofInt,FY,Nat.and_two_pow_sub_one_eq_mod,Nat.shiftRight_eq_div_pow,Nat.shiftLeft_eq]
  omega
 show IntKind.i64.wrap ((BitVec.ofInt 64 n &&& ~~~ (BitVec.ofInt 64 3)).toNat:Nat)=_
 rw [key,IntKind.wrap_i64]
 omega
theorem yjl (n:Int) (h0:-9223372036854775808<=n) (h1:n<=9223372036854775807):bits .andNot .i64 n 7=n - n % 8:=by
 have e1:(~~~ (BitVec.ofInt 64 7)).toNat=(2 ^ 61 - 1) <<< 3:=by decide
 have key:(BitVec.ofInt 64 n &&& ~~~ (BitVec.ofInt 64 7)).toNat=(n % ((2 ^ 64:Nat):Int)).toNat / 8 * 8:=by
  rw [BitVec.toNat_and,e1,BitVec.toNat_ofInt,FY,Nat.and_two_pow_sub_one_eq_mod,Nat.shiftRight_eq_div_pow,Nat.shiftLeft_eq]
  omega
 show IntKind.i64.wrap ((BitVec.ofInt 64 n &&& ~~~ (BitVec.ofInt 64 7)).toNat:Nat)=_
 rw [key,IntKind.wrap_i64]
 omega
theorem Za (n:Int) (h0:-9223372036854775808<=n) (h1:n<=9223372036854775807):bits .andNot .i64 n 15=n - n % 16:=by
 have e1:(~~~ (BitVec.ofInt 64 15)).toNat=(2 ^ 60 - 1) <<< 4:=by decide
 have key:(BitVec.ofInt 64 n &&& ~~~ (BitVec.ofInt 64 15)).toNat=(n % ((2 ^ 64:Nat):Int)).toNat / 16 * 16:=by
  rw [BitVec.toNat_and,e1,BitVec.toNat_ofInt,FY,Nat.and_two_pow_sub_one_eq_mod,Nat.shiftRight_eq_div_pow,Nat.shiftLeft_eq]
  omega
 show IntKind.i64.wrap ((BitVec.ofInt 64 n &&& ~~~ (BitVec.ofInt 64 15)).toNat:Nat)=_
 rw [key,IntKind.wrap_i64]
 omega
theorem Xe (a b:Int) (h0:0<=a) (h1:a<=1125899906842624) (hb:b=4\/b=8\/b=16):Ln.rup a b=(a+b - 1) - (a+b - 1) % b:=by
 unfold Ln.rup
 rcases hb with rfl | rfl | rfl
 ·exact yjm _ (by omega) (by omega)
 ·exact yjl _ (by omega) (by omega)
 ·exact Za _ (by omega) (by omega)
theorem wV (a b:Int) (h0:0<=a) (h1:a<=1125899906842624) (hb:b=4\/b=8\/b=16):a<=Ln.rup a b/\Ln.rup a b<=a+15/\Ln.rup a b % 4=0:=by
 rw [Xe a b h0 h1 hb]
 rcases hb with rfl | rfl | rfl <;> omega
theorem yY (x:Int):uS x=4\/uS x=8\/uS x=16:=by
 unfold uS
 split
 ·exact .inl rfl
 ·split
  ·exact .inr (.inl rfl)
  ·exact .inr (.inr rfl)
theorem Zo (m:Ln.Mod) (ah:Int) (ws:List Int) (k:Nat) (h:k < ws.length) (at_:Int):Ln.aL m ah k (ws.drop k) at_=at_ :: Ln.aL m ah (k+1) (ws.drop (k+1)) (if Ln.stays m ah (4 * k) at_ then at_+4 else at_):=by
 rw [kP h]
 rfl
theorem yjA (m:Ln.Mod) (ah:Int) (ws:List Int) (k:Nat) (h:k < ws.length) (at_:Int):Ln.bR m ah k (ws.drop k) at_=Ln.bR m ah (k+1) (ws.drop (k+1)) (if Ln.stays m ah (4 * k) at_ then at_+4 else at_):=by
 rw [kP h]
 rfl
def Qz (m:Ln.Mod) (ah:Nat) (ps:List Int):Ln.Mod:=if ah=1 then { m with text:=ps } else { m with far:=ps }
section
variable {w w3:World} {bl:List Nat} {b g B:Nat} {m:Ln.Mod} {v':Value} {ps:List Int}
theorem yD.oz (h:yD w bl b g m) (hw:w.grownBy w3 none) (hown:w3.ownsRow B 3 1 v' ps.length (ps.map (Value.int .i64))):yD (w3.setCell ⟨b,3,none⟩ v') bl b g { m with text:=ps }/\w.grownBy (w3.setCell ⟨b,3,none⟩ v') (some b)/\∃ u,w3.cell? ⟨b,3,none⟩=some u/\w3.frozen? ⟨b,3,none⟩=false:=by
 obtain ⟨u1,u2,u3,u4,q0,q1,q2,q3,q4,q5,q6,q7⟩:=h.kept hw
 have gs:=yf w3 b 3 v'
 have R:=bI.blk q0
 refine ⟨⟨u1,u2,v',u4,by simpa using q0.set 3 v',rP q1 gs R (by decide) (by decide) (by decide) (by decide),yy q2 gs R (by decide),yy q3 gs R (by decide),FV (yy hown gs R (by decide)),yy q5 gs R (by decide),q6,q7⟩,(hw.but _).trans gs,_,q0.cell 3,q0.free 3⟩
theorem yD.uP (h:yD w bl b g m) (hw:w.grownBy w3 none) (hown:w3.ownsRow B 3 1 v' ps.length (ps.map (Value.int .i64))):yD (w3.setCell ⟨b,4,none⟩ v') bl b g { m with far:=ps }/\w.grownBy (w3.setCell ⟨b,4,none⟩ v') (some b)/\∃ u,w3.cell? ⟨b,4,none⟩=some u/\w3.frozen? ⟨b,4,none⟩=false:=by
 obtain ⟨u1,u2,u3,u4,q0,q1,q2,q3,q4,q5,q6,q7⟩:=h.kept hw
 have gs:=yf w3 b 4 v'
 have R:=bI.blk q0
 refine ⟨⟨u1,u2,u3,v',by simpa using q0.set 4 v',rP q1 gs R (by decide) (by decide) (by decide) (by decide),yy q2 gs R (by decide),yy q3 gs R (by decide),yy q4 gs R (by decide),FV (yy hown gs R (by decide)),q6,q7⟩,(hw.but _).trans gs,_,q0.cell 4,q0.free 4⟩
end
set_option maxRecDepth 100000 in
theorem Uv (bl:List Nat) (b g n:Nat) (m:Ln.Mod) (ah:Nat) (from_:Int) (w:World) (hm:yD w bl b g m) (hn:yH n m) (hv:yw m.obj) (hs:ah=1\/ah=2) (h0:0<=from_) (h1:from_<=562949953421312) :
  Calls Tryz.prog 104 #[aT b,.int .i64 ah,.int .i64 from_] w fun e w'=>e = .returned (.int .i64 (Ln.bF m ah from_))/\w.grownBy w' (some b)/\yD w' bl b g (Qz m ah (Ln.aG m ah from_)):=by
 obtain ⟨i0,hi,hz0,hz1,hz2⟩:=info_parts Tryz.j6
 have HM:=hid hm
 obtain ⟨v1,v2,v3,v4,q0,q1,-⟩:=hm
 have k0:w.cell? ⟨b,0,none⟩=some (.pointer (some ⟨g,0,none⟩)):=q0.cell 0
 have Og:=hv.2.1
 have hal:ah - 1 < m.obj.align.length:=by rw [Og.1]; omega
 have EB:=hid (show Ln.aF m.obj ah=uS (m.obj.align[ah - 1]'hal) by unfold Ln.aF; rw [jY,jF hal]; rfl)
 have BV:Ln.aF m.obj ah=4\/Ln.aF m.obj ah=8\/Ln.aF m.obj ah=16:=yY _
 have cB:=hid (TJ g m.obj ah w q1 Og (by omega) (by omega))
 rw [<- EB.o] at cB
 have RR:=wV from_ (Ln.aF m.obj ah) h0 (by omega) BV
 have cU:=hid (LX from_ (Ln.aF m.obj ah) w h0 (by omega) (by omega) (by omega))
 have cW:=hid (LZ g m.obj ah w q1)
 have hwl:(yp m.obj ah).length<=1200:=by
  have:=hv.1.1
  rcases hs with rfl | rfl
  ·exact this.1
  ·exact this.2.1
 have EP:=hid (show Ln.aG m ah from_=Ln.aL m ah 0 ((yp m.obj ah).drop 0) (Ln.rup from_ (Ln.aF m.obj ah)) from rfl)
 have EE:=hid (show Ln.bF m ah from_=Ln.bR m ah 0 ((yp m.obj ah).drop 0) (Ln.rup from_ (Ln.aF m.obj ah)) from rfl)
 clear EB BV
 generalize Ln.rup from_ (Ln.aF m.obj ah)=a0 at *
 generalize Ln.aF m.obj ah=bd at *
 generalize Ln.aG m ah from_=PL at *
 generalize Ln.bF m ah from_=PE at *
 generalize yp m.obj ah=ws at *
 have cS:=hid (fun (off at_:Int) W (hg:w.grownBy W none) h0 h1=>yoB bl b g n m ah off at_ W (HM.o.kept hg) hn h0 h1)
 have HN:=hid hn
 clear q0 q1 Og hn hv hal
 unfold aT at *
 go_enter Tryz.func104,Tryz.ntmps104
 go_wp2_with fail
 refine cB.o.mono ?_
 rintro e w1 ⟨rfl,rfl⟩
 go_wp2_with fail
 refine cU.o.mono ?_
 rintro e w1 ⟨rfl,rfl⟩
 go_wp2_with fail
 refine cW.o.mono ?_
 rintro e w1 ⟨aw,cw,rfl,-,rfl⟩
 clear cB cU cW
 go_wp2
 go_loopw [7,8,25] (fun at_ v i wr=>∃ (k:Nat) (a:Int) (acc:List Int),k<=ws.length/\i = .int .i64 k/\at_ = .int .i64 a/\acc.length=k/\PL=acc ++ Ln.aL m ah k (ws.drop k) a/\PE=Ln.bR m ah k (ws.drop k) a/\a0<=a/\a<=a0+4 * k/\wr.ownsRow w1.heap.size 3 1 v k (acc.map (Value.int .i64))/\w1.grownBy wr none) (fun _ _ i _=>ws.length - (intOf i).toNat)
 case atStart=>exact ⟨0,a0,[],Nat.zero_le _,rfl,rfl,rfl,EP.o,EE.o,Int.le_refl _,by omega,World.ownsRow_nil _ _ _ _,World.grownBy.refl _ _⟩
 case round =>
  obtain ⟨k,a,acc,hk,rfl,rfl,hacc,hpl,hpe,ha1,ha2,hown,hgr⟩:=hrel
  obtain ⟨av,cv,rfl⟩:=yh hown
  have HG:=hid hgr
  have hsz:=hgr.size
  have Rf:=hid hpl
  have Rc:=hid hpe
  clear hgr hpl hpe EP EE
  by_cases hlt:k < ws.length
  ·have hlt':(k:Int) < (ws.length:Int):=by omega
   have P2:=hid (Rf.o.trans (by rw [Zo m ah ws k hlt a]))
   have E2:=hid (Rc.o.trans (yjA m ah ws k hlt a))
   have w4:IntKind.i64.wrap (4 * (k:Int))=4 * k:=IntWalk.i64_in _ ⟨by omega,by omega⟩
   go_wp2_with (at_builtin; refine wpList_append_own _ rfl _ _ 35 rfl w1.heap.size 3 i0 (.int .i64 0) 1 8 Tryz.underlying35 hi hz0 hz1 hz2 rfl (by decide) _ _ _ rfl (hown.alloc _) ⟨wr.heap.size,0,none⟩ 1 1 [.int .i64 a] rfl rfl (cell_one_new _ _ _) (by intro u hu; simp at hu; subst hu; rfl) (by unfold maxLen; omega) (by omega) (by simp; omega) ?_; intro v' w3 hown' hgrow _; obtain ⟨mY,cv',rfl⟩:=yh hown'; have K:=hid (Hf (ya HG.o (aH wr (.cells #[.int .i64 a] 3) none)) hgrow (fun b hb=>(hown.lt b hb).1)); have HO:=hid hown'; clear hgrow hown')
   refine (cS.o (4 * k) a w3 K.o (by omega) (by omega)).mono ?_
   rintro e w5 ⟨rfl,h5⟩
   have K5:=hid (ya K.o h5)
   have xq:=hid (HO.o.kept h5 (Decidable.em _))
   clear h5 HO K hown
   cases est:Ln.stays m ah (4 * k) a
   ·rw [est] at P2 E2
    have P3:=hid (show PL=(acc ++ [a]) ++ Ln.aL m ah (k+1) (ws.drop (k+1)) a by rw [P2.o]; simp)
    have E3:=hid (show PE=Ln.bR m ah (k+1) (ws.drop (k+1)) a from E2.o)
    clear est P2 E2
    go_wp2
    go_roundw
    case rel=>exact ⟨k+1,a,acc ++ [a],by omega,by go_num,rfl,by simp [hacc],P3.o,E3.o,by omega,by omega,by rw [List.map_append]; exact xq.o,K5.o⟩
    case measure=>simp [intOf]; omega
   ·rw [est] at P2 E2
    have P3:=hid (show PL=(acc ++ [a]) ++ Ln.aL m ah (k+1) (ws.drop (k+1)) (a+4) by rw [P2.o]; simp)
    have E3:=hid (show PE=Ln.bR m ah (k+1) (ws.drop (k+1)) (a+4) from E2.o)
    have wa:IntKind.i64.wrap (a+4)=a+4:=IntWalk.i64_in _ ⟨by omega,by omega⟩
    clear est P2 E2
    go_wp2
    go_roundw
    case rel=>exact ⟨k+1,a+4,acc ++ [a],by omega,by go_num,rfl,by simp [hacc],P3.o,E3.o,by omega,by omega,by rw [List.map_append]; exact xq.o,K5.o⟩
    case measure=>simp [intOf]; omega
  ·obtain rfl:k=ws.length:=by omega
   have g3:decide ((ws.length:Int) < (ws.length:Int))=false:=by simp
   have P2:=hid (show PL=acc ++ [a] by rw [Rf.o,List.drop_length]; rfl)
   have E2:=hid (show PE=a by rw [Rc.o,List.drop_length]; rfl)
   have LP:PL.length=ws.length+1:=by rw [P2.o]; simp [hacc]
   have MP:=hid (show PL.map (Value.int .i64)=acc.map (Value.int .i64) ++ [.int .i64 a] by rw [P2.o]; simp)
   rcases hs with rfl | rfl
   ·have d1:((1:Int) == 1)=true:=rfl
    go_wp2_with (at_builtin; refine wpList_append_own _ rfl _ _ 35 rfl w1.heap.size 3 i0 (.int .i64 0) 1 8 Tryz.underlying35 hi hz0 hz1 hz2 rfl (by decide) _ _ _ rfl (hown.alloc _) ⟨wr.heap.size,0,none⟩ 1 1 [.int .i64 a] rfl rfl (cell_one_new _ _ _) (by intro u hu; simp at hu; subst hu; rfl) (by unfold maxLen; omega) (by omega) (by simp; omega) ?_; intro v' w3 hown' hgrow _; obtain ⟨mY,cv',rfl⟩:=yh hown'; have K:=hid (Hf (ya HG.o (aH wr (.cells #[.int .i64 a] 3) none)) hgrow (fun b hb=>(hown.lt b hb).1)); obtain ⟨t1,t2,u,c3,f3⟩:=HM.o.oz (ps:=PL) K.o (by rw [LP,MP.o]; exact hown'); have T1:=hid t1; have T2:=hid t2; clear hgrow hown' t1 t2)
    go_ret
    exact ⟨by rw [E2.o]; rfl,T2.o,by unfold Qz; rw [if_pos rfl]; exact T1.o⟩
   ·have d1:((2:Int) == 1)=false:=rfl
    go_wp2_with (at_builtin; refine wpList_append_own _ rfl _ _ 35 rfl w1.heap.size 3 i0 (.int .i64 0) 1 8 Tryz.underlying35 hi hz0 hz1 hz2 rfl (by decide) _ _ _ rfl (hown.alloc _) ⟨wr.heap.size,0,none⟩ 1 1 [.int .i64 a] rfl rfl (cell_one_new _ _ _) (by intro u hu; simp at hu; subst hu; rfl) (by unfold maxLen; omega) (by omega) (by simp; omega) ?_; intro v' w3 hown' hgrow _; obtain ⟨mY,cv',rfl⟩:=yh hown'; have K:=hid (Hf (ya HG.o (aH wr (.cells #[.int .i64 a] 3) none)) hgrow (fun b hb=>(hown.lt b hb).1)); obtain ⟨t1,t2,u,c3,f3⟩:=HM.o.uP (ps:=PL) K.o (by rw [LP,MP.o]; exact hown'); have T1:=hid t1; have T2:=hid t2; clear hgrow hown' t1 t2)
    go_ret
    exact ⟨by rw [E2.o]; rfl,T2.o,by unfold Qz; rw [if_neg (by decide)]; exact T1.o⟩
theorem Uk (g:Nat) (o:Lk.Obj) (ah:Nat) (w:World) (h:yu w g o) (hb4:xK o.align) (h1:1<=ah) (h3:ah<=4) :
  Calls Tryz.prog 106 #[.pointer (some ⟨g,0,none⟩),.int .i64 ah] w fun e w'=>e = .returned (.int .i64 (Ln.aF o ah))/\w'=w:=by
 obtain ⟨at_,ct,af,cf,ad,cd,aa,ca,fU,cs,ar,cr,hb,-,-,-,q4,-⟩:=h.open
 have hl:=hb4.1
 have hr:=hb4.2 (ah - 1) (by omega)
 obtain ⟨ga,off,rfl,hc⟩:=yz.aR q4 (by omega)
 have hck:=hc (ah - 1) (by omega)
 have k4:=hb.cell 4
 clear h hb hc q4
 have g1:(1:Int)<=(ah:Int):=by omega
 have g2:(ah:Int)<=4:=by omega
 have HL:=hid hl
 have hl4:4<=o.align.length:=by omega
 have hl5:o.align.length<=4:=by omega
 have hpf:ah - 1 < o.align.length:=by omega
 have hk:w.cell? ⟨ga,off+(ah - 1),none⟩=some (.int .i64 (o.align[ah - 1]'hpf)):=hck
 clear hck
 have EB:Ln.aF o ah=uS (o.align[ah - 1]'hpf):=by unfold Ln.aF; rw [jY,jF hpf]; rfl
 rw [EB]
 clear EB
 replace hr:2<=o.align[ah - 1]'hpf/\o.align[ah - 1]'hpf<=4:=hr
 generalize o.align[ah - 1]'hpf=x at *
 generalize o.align.length=n at *
 rcases (show x=2\/x=3\/x=4 from by omega) with rfl | rfl | rfl
 all_goals
  clear hr HL hb4
  go_enter Tryz.func106,Tryz.ntmps106
  go_wp2
  go_ret
  exact ⟨by simp [uS],rfl⟩
theorem Vh {m m':Ln.Mod} (h1:m'.obj=m.obj) (h2:m'.short=m.short) (ah off a:Int):Ln.stays m' ah off a=Ln.stays m ah off a:=by unfold Ln.stays; rw [h1,h2]
theorem Zp {m m':Ln.Mod} (h1:m'.obj=m.obj) (h2:m'.short=m.short) (ah:Int):∀ (ws:List Int) (k:Nat) (a:Int),Ln.aL m' ah k ws a=Ln.aL m ah k ws a:=by
 intro ws
 induction ws with
 | nil=>intro k a; rfl
 | cons x ws ih=>intro k a; unfold Ln.aL; rw [ih,Vh h1 h2]
theorem yjB {m m':Ln.Mod} (h1:m'.obj=m.obj) (h2:m'.short=m.short) (ah:Int):∀ (ws:List Int) (k:Nat) (a:Int),Ln.bR m' ah k ws a=Ln.bR m ah k ws a:=by
 intro ws
 induction ws with
 | nil=>intro k a; rfl
 | cons x ws ih=>intro k a; unfold Ln.bR; rw [ih,Vh h1 h2]
theorem Lj {m m':Ln.Mod} (h1:m'.obj=m.obj) (h2:m'.short=m.short) (ah:Nat) (f:Int):Ln.aG m' ah f=Ln.aG m ah f:=by
 unfold Ln.aG Ln.begin_; rw [Zp h1 h2,h1]
theorem LM {m m':Ln.Mod} (h1:m'.obj=m.obj) (h2:m'.short=m.short) (ah:Nat) (f:Int):Ln.bF m' ah f=Ln.bF m ah f:=by
 unfold Ln.bF Ln.begin_; rw [yjB h1 h2,h1]
theorem TD (m:Ln.Mod) (ah:Int):∀ (ws:List Int) (k:Nat) (a:Int),(Ln.aL m ah k ws a).length=ws.length+1/\∀ p∈Ln.aL m ah k ws a,a<=p/\p<=a+4 * ws.length:=by
 intro ws
 induction ws with
 | nil=>intro k a; refine ⟨rfl,fun p hp=>?_⟩; simp [Ln.aL] at hp; subst hp; simp
 | cons x ws ih =>
  intro k a
  unfold Ln.aL
  have:=ih (k+1) (if Ln.stays m ah (4 * k) a then a+4 else a)
  refine ⟨by rw [iE,this.1]; simp,fun p hp=>?_⟩
  rcases List.mem_cons.1 hp with rfl | hp
  ·simp only [iE]; omega
  ·have q:=this.2 p hp
   simp only [iE]
   split at q <;> omega
theorem ZE (m:Ln.Mod) (ah:Int):∀ (ws:List Int) (k:Nat) (a:Int),a<=Ln.bR m ah k ws a/\Ln.bR m ah k ws a<=a+4 * ws.length:=by
 intro ws
 induction ws with
 | nil=>intro k a; simp [Ln.bR]
 | cons x ws ih =>
  intro k a
  unfold Ln.bR
  have q:=ih (k+1) (if Ln.stays m ah (4 * k) a then a+4 else a)
  simp only [iE]
  split at q <;> rename_i e <;> simp only [e] <;> simp <;> omega
theorem yoN {o:Lk.Obj} (hv:yw o) (ah:Nat) (hs:ah=1\/ah=2):(yp o ah).length<=1200:=by
 have:=hv.1.1
 rcases hs with rfl | rfl
 ·exact this.1
 ·exact this.2.1
theorem DV {m:Ln.Mod} (hv:yw m.obj) (ah:Nat) (hs:ah=1\/ah=2) (f:Int) (h0:0<=f) (h1:f<=562949953421312) :
  (f<=Ln.bF m ah f/\Ln.bF m ah f<=f+4815)/\(Ln.aG m ah f).length<=1201/\∀ p∈Ln.aG m ah f,f<=p/\p<=f+4815:=by
 have hl:=yoN hv ah hs
 have r:=wV f (Ln.aF m.obj ah) h0 (by omega) (yY _)
 have e:=ZE m ah (yp m.obj ah) 0 (Ln.begin_ m ah f)
 have p:=TD m ah (yp m.obj ah) 0 (Ln.begin_ m ah f)
 have b:Ln.begin_ m ah f=Ln.rup f (Ln.aF m.obj ah):=rfl
 rw [b] at e p
 refine ⟨?_,?_,fun q hq=>?_⟩
 ·unfold Ln.bF; rw [b]; omega
 ·unfold Ln.aG; rw [b,p.1]; omega
 ·have:=p.2 q hq; omega
section
variable {w:World} {bl:List Nat} {b g n:Nat} {m:Ln.Mod} {x:Int} {ps:List Int}
theorem yD.rG (h:yD w bl b g m) (x:Int):yD (w.setCell ⟨b,5,none⟩ (.int .i64 x)) bl b g { m with data:=x }:=by
 obtain ⟨u1,u2,u3,u4,q0,q1,q2,q3,q4,q5,q6,q7⟩:=h
 have gs:=yf w b 5 (.int .i64 x)
 have R:=bI.blk q0
 exact ⟨u1,u2,u3,u4,by simpa using q0.set 5 (.int .i64 x),rP q1 gs R (by decide) (by decide) (by decide) (by decide),yy q2 gs R (by decide),yy q3 gs R (by decide),yy q4 gs R (by decide),yy q5 gs R (by decide),q6,q7⟩
theorem yD.uO (h:yD w bl b g m) (x:Int):yD (w.setCell ⟨b,6,none⟩ (.int .i64 x)) bl b g { m with bss:=x }:=by
 obtain ⟨u1,u2,u3,u4,q0,q1,q2,q3,q4,q5,q6,q7⟩:=h
 have gs:=yf w b 6 (.int .i64 x)
 have R:=bI.blk q0
 exact ⟨u1,u2,u3,u4,by simpa using q0.set 6 (.int .i64 x),rP q1 gs R (by decide) (by decide) (by decide) (by decide),yy q2 gs R (by decide),yy q3 gs R (by decide),yy q4 gs R (by decide),yy q5 gs R (by decide),q6,q7⟩
theorem yH.oz (h:yH n m) (hl:ps.length<=65536) (hp:∀ p∈ps,0<=p/\p<=1125899906842624):yH n { m with text:=ps }:=⟨⟨hl,hp⟩,h.far,h.data,h.bss,h.means,h.short,h.aj⟩
theorem yH.uP (h:yH n m) (hl:ps.length<=65536) (hp:∀ p∈ps,0<=p/\p<=1125899906842624):yH n { m with far:=ps }:=⟨h.text,⟨hl,hp⟩,h.data,h.bss,h.means,h.short,h.aj⟩
theorem yH.rG (h:yH n m) (hx:0<=x/\x<=1125899906842624):yH n { m with data:=x }:=⟨h.text,h.far,hx,h.bss,h.means,h.short,h.aj⟩
theorem yH.uO (h:yH n m) (hx:0<=x/\x<=1125899906842624):yH n { m with bss:=x }:=⟨h.text,h.far,h.data,hx,h.means,h.short,h.aj⟩
end
theorem LU:∀ (ms:List Ln.Mod) (t f d:Int),(Ln.bS ms t f d).length=ms.length:=by
 intro ms
 induction ms with
 | nil=>intro t f d; rfl
 | cons m ms ih=>intro t f d; unfold Ln.bS; rw [iE,ih,iE]
theorem UZ:∀ (ms:List Ln.Mod) (b:Int),(Ln.dX ms b).length=ms.length:=by
 intro ms
 induction ms with
 | nil=>intro b; rfl
 | cons m ms ih=>intro b; unfold Ln.dX; rw [iE,ih,iE]
theorem Vm {α:Type} {l r:List α} {x:α} {k:Nat} (hk:k < l.length) (h:l.drop k=x :: r):l[k]=x/\l.drop (k+1)=r:=by
 rw [kP hk] at h
 exact List.cons.inj h
end Go.Proofs.YtpgklkhgfcjceaaGreatDoor
