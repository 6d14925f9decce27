
import Derived.Test.YtnkkepfcpjllmaaGreatDoorU06
import Derived.Deep.RegionHeld3
import Derived.Laws.AppendOwnNone
set_option maxHeartbeats 16000000
set_option maxRecDepth 100000
namespace Go.Proofs.YtnkkepfcpjllmaaGreatDoor
open Go.RowKit
section
variable {P:Program} (w:World)
theorem Lj {o:Oper} {a:Act} {K:Act->World->Prop} {Q:Exit->Act->World->Prop} (s x:Operand) (t:TypeId)
  (ho:o.op = .call { callee:=.builtin .append,args:=#[s,x],argTypes:=#[t,t] })
  (base:Nat) (e:TypeId) (i:TypeInfo) (z:Value) (size bytes:Nat) (ht:P.underlying t=some (.slice e)) (hi:P.info? e=some i) (hz:i.zero=some z)
  (hsize:i.size=size) (hby:i.bytes=bytes) (hzs:z.cells.size=size) (hsz:0 < size)
  (v:Value) (n:Nat) (xs:List Value) (hs:a.eval s=v) (hown:w.ownsRow base e size v n xs)
  (ad:Addr) (m c:Nat) (news:List Value) (hx:a.eval x = .slice (some ad) m c) (hl:news.length=m * size) (hnews:∀ j u,news[j]?=some u->w.cell? (ad.add j)=some u) (h1:∀ u∈news,u.oneCell'=true)
  (h63:n+m<=maxLen) (hbytes:(n+m) * bytes<=140737488355328) (hbase:base<=w.heap.size)
  (h:∀ v' w',w'.ownsRow base e size v' (n+m) (xs ++ news)->w.grownBy w' v.ownBlock->(v' = .slice none 0 0↔v = .slice none 0 0/\m=0)->(v'.ownBlock=v.ownBlock\/v'.ownBlock=some w.heap.size)->K (a.put o.dst v') w'):o.wp P a w K Q:=by
 obtain ⟨v',w',hr,h2,h3,h4,h5⟩:=run_append_own_at (P:=P) w base t o.type e i z size bytes ht hi hz hsize hby hzs hsz v n xs hown ad m c news hl hnews h1 h63 hbytes hbase;unfold Oper.wp execOp;simp only [ho,resolve,invoke,builtin,Sem.run_bind,Sem.run_pure,Result.andThen_ok,List.map_toArray,List.map_cons,List.map_nil,hs,hx,hr];exact h v' w' h2 h3 h4 h5
end
theorem Dw.set {l:List Value} {i:Nat} {v v':Value} (h:Dw l) (hi:l[i]?=some v) (hv:∀ k,v'.ownBlock=some k->v.ownBlock=some k\/∀ u∈l,u.ownBlock≠some k):Dw (l.set i v'):=by
 unfold Dw at h ⊢;rw [List.pairwise_iff_getElem] at h ⊢;obtain ⟨hil,rfl⟩:=List.getElem?_eq_some_iff.1 hi;intro a c ha hc hac k;simp only [List.length_set] at ha hc;rw [List.getElem_set,List.getElem_set];by_cases e1:i=a
 ·subst e1;rw [if_pos rfl,if_neg (by omega)];intro hk hck;rcases hv k hk with h1 | h1
  ·exact h i c hil hc hac k h1 hck
  ·exact h1 _ (lM hc) hck
 ·rw [if_neg e1];by_cases e2:i=c
  ·subst e2;rw [if_pos rfl];intro hk hck;rcases hv k hck with h1 | h1
   ·exact h a i ha hil hac k hk h1
   ·exact h1 _ (lM ha) hk
  ·rw [if_neg e2];exact h a c ha hc hac k
theorem Dw.ne {l:List Value} (h:Dw l) {i j:Nat} {u v:Value} (hi:l[i]?=some u) (hj:l[j]?=some v) (hij:i≠j):∀ k,u.ownBlock=some k->v.ownBlock≠some k:=by
 unfold Dw at h;rw [List.pairwise_iff_getElem] at h;obtain ⟨hil,rfl⟩:=List.getElem?_eq_some_iff.1 hi;obtain ⟨hjl,rfl⟩:=List.getElem?_eq_some_iff.1 hj;intro k hk hk2;rcases Nat.lt_or_gt_of_ne hij with h1 | h1
 ·exact h i j hil hjl h1 k hk hk2
 ·exact h j i hjl hil h1 k hk2 hk
structure ow (B:Nat) (V W':World) (b g:Nat) (v v':Value):Prop where
 keep:∀ k,k < V.heap.size->some k≠v.ownBlock->k≠g->W'.heap[k]?=V.heap[k]?
 blk:∀ k,v'.ownBlock=some k->v.ownBlock=some k\/V.heap.size<=k
 os:W'.os=V.os
 tape:W'.tape=V.tape
 output:W'.output=V.output
 size:V.heap.size<=W'.heap.size
section
variable {B:Nat} {s:ByteArray} {b g:Nat} {V W':World} {o:Lk.Obj} {vt vf vd va vs vr v v':Value} {st st':As.St}
theorem qD.Pp (h:qD B V b g o vt vf vd va vs vr) (hb:b < V.heap.size):∀ u∈[gI b,gI g,vt,vf,vd,va,vs,vr],∀ k,u.ownBlock=some k->k < V.heap.size:=by
 intro u hu k hk;simp only [List.mem_cons,List.mem_nil_iff,or_false] at hu;rcases hu with rfl | rfl | rfl | rfl | rfl | rfl | rfl | rfl
 ·simp [gI,Value.ownBlock] at hk; omega
 ·have:=h.blk.lt; simp [gI,Value.ownBlock] at hk; omega
 ·exact (h.text.lt k hk).2
 ·exact (h.far.lt k hk).2
 ·exact (h.data.lt k hk).2
 ·exact (h.align.lt k hk).2
 ·exact (h.syms.lt k hk).2
 ·exact (h.aj.lt k hk).2
theorem ow.apart (n:ow B V W' b g v v') (h:qD B V b g o vt vf vd va vs vr) (hb:b < V.heap.size) {i:Nat} (hi:[gI b,gI g,vt,vf,vd,va,vs,vr][i]?=some v):Dw ([gI b,gI g,vt,vf,vd,va,vs,vr].set i v') :=
 h.apart.set hi fun k hk=>(n.blk k hk).imp id fun hle u hu hk2=>by have:=h.Pp hb u hu k hk2; omega
theorem ow.row (n:ow B V W' b g v v') (h:qD B V b g o vt vf vd va vs vr) {i j:Nat} (hi:[gI b,gI g,vt,vf,vd,va,vs,vr][i]?=some v) {u:Value} (hj:[gI b,gI g,vt,vf,vd,va,vs,vr][j]?=some u) (hij:i≠j) (hj1:1≠j)
  {e:TypeId} {size m:Nat} {xs:List Value} (hu:V.ownsRow B e size u m xs):W'.ownsRow B e size u m xs :=
 Iy hu fun k hk=>n.keep k (hu.lt k hk).2 (fun e=>h.apart.ne hi hj hij k e.symm hk) (fun e=>h.apart.ne (i:=1) (j:=j) rfl hj hj1 k (by rw [e]; rfl) hk)
theorem ow.does (n:ow B V W' b g v v') (h:yl B s b g st V) (uj:qD B V b g st.obj vt vf vd va vs vr) {i:Nat} (hi:[gI b,gI g,vt,vf,vd,va,vs,vr][i]?=some v) (h2:2<=i)
  (ho:∃ vt vf vd va vs vr,qD B W' b g st'.obj vt vf vd va vs vr) (hc:yK s g st'=yK s g st) (hok:jH s st')
  (hv:∀ k,v.ownBlock=some k->B<=k/\∃ cs t,yd V k cs t/\(t=3\/t=50\/t=54)):Does B s b g V st' W':=by
 have hbg:=h.lo;have hbv:some b≠v.ownBlock:=fun e=>uj.apart.ne (i:=0) (j:=i) rfl hi (by omega) b rfl e.symm
 have low:∀ k,k < B->W'.heap[k]?=V.heap[k]?:=fun k hk=>n.keep k (by have:=h.size; omega) (fun e=>by have:=(hv k e.symm).1; omega) (by omega)
 refine ⟨⟨by rw [hc]; exact (n.keep b h.blk.lt hbv hbg.2.2.2).trans h.blk,ho,h.lo,hok,?_⟩,⟨n.os,n.tape,n.output,n.size,low⟩,?_⟩
 ·exact ⟨fun i hi=>(World.cell?_of_block (low _ (by have:=h.lo; simp only; omega))).trans (h.tabs.form i hi),fun i hi=>(World.cell?_of_block (low _ (by have:=h.lo; simp only; omega))).trans (h.tabs.fix i hi)⟩
 ·intro k cs t h1 h2 h3 h4 h5 hb;refine (n.keep k hb.lt ?_ ?_).trans hb
  ·intro e;obtain ⟨-,cs',t',hb',ht'⟩:=hv k e.symm
   have:=hb.symm.trans hb'
   simp at this;rcases ht' with rfl | rfl | rfl
   ·exact h3 this.2
   ·exact h4 this.2
   ·exact h5 this.2
  ·rintro rfl
   have:=hb.symm.trans uj.blk
   simp at this;exact h2 this.2
theorem Jo {e:TypeId} {size m:Nat} {xs:List Value} (hu:V.ownsRow B e size v m xs) (he:e=3\/e=50\/e=54):∀ k,v.ownBlock=some k->B<=k/\∃ cs t,yd V k cs t/\(t=3\/t=50\/t=54):=by
 intro k hk;refine ⟨(hu.lt k hk).1,?_⟩;rcases hu.2 with ⟨rfl,_⟩ | ⟨g',cap,cur,rfl,_,hg,_⟩
 ·simp [Value.ownBlock] at hk
 ·obtain rfl:g'=k:=by simpa [Value.ownBlock] using hk
  exact ⟨cur,e,hg,he⟩
theorem ow.app {ob:Obj} {w3:World} {off:Nat} (_hv:∀ k,v.ownBlock=some k->k < V.heap.size) (hg:(V.alloc ob).grownBy w3 v.ownBlock) (hat:v'.ownBlock=v.ownBlock\/v'.ownBlock=some (V.alloc ob).heap.size):ow B V (w3.setCell ⟨g,off,none⟩ v') b g v v':=by
 have gs:=yy w3 g off v';refine ⟨fun k hk hne hkg=>?_,fun k hk=>?_,?_,?_,?_,?_⟩
 ·rw [gs.block k (by have:=hg.size; simp at this; omega) (by simpa using hkg),hg.block k (by simp; omega) hne,Below.heap_alloc V ob k hk]
 ·rcases hat with e | e
  ·exact .inl (by rw [<- e]; exact hk)
  ·rw [e] at hk;simp at hk;exact .inr (by omega)
 ·rw [gs.os,hg.os]; rfl
 ·rw [gs.tape,hg.tape]; rfl
 ·rw [gs.output,hg.output]; rfl
 ·have:=gs.size; have:=hg.size; simp at this; omega
end
theorem wJ {B:Nat} {s:ByteArray} {b g:Nat} {st:As.St} {W:World} (h:yl B s b g st W):W.cell? ⟨b,14,none⟩=some (.pointer (some ⟨g,0,none⟩)):=by
 have c:=yP h 14;simpa only [yK,bB,yml,bf] using c
theorem zi {B:Nat} {s:ByteArray} {b g:Nat} {st:As.St} {W:World} (h:yl B s b g st W):W.cell? ⟨b,13,none⟩=some (.int .i64 st.ah):=by
 have c:=yP h 13;simpa only [yK,bB,yml,bf] using c
theorem Xw (ys:List Lk.Sym) (nm:List UInt8) (k:Nat) (hk:k < ys.length) (h:ys[k].name=nm) (hall:∀ j (hj:j < ys.length),j < k->ys[j].name≠nm):As.eH ys nm=some k:=by
 unfold As.eH;rw [List.findIdx?_eq_some_iff_getElem];exact ⟨hk,by simp [h],fun j hj=>by simpa using hall j (by omega) hj⟩
theorem Xv (ys:List Lk.Sym) (nm:List UInt8) (hall:∀ j (hj:j < ys.length),ys[j].name≠nm):As.eH ys nm=none:=by
 unfold As.eH;rw [List.findIdx?_eq_none_iff];intro y hy;obtain ⟨j,hj,rfl⟩:=List.getElem_of_mem hy;simpa using hall j hj
theorem Lh {w:World} {base:Nat} {e:TypeId} {size n:Nat} {v:Value} {xs:List Value} {g o:Nat} {u:Value} (h:w.ownsRow base e size v n xs) (hk:∀ k,v.ownBlock=some k->g≠k):(w.setCell ⟨g,o,none⟩ u).ownsRow base e size v n xs :=
 Iy h fun k hk'=>Below.heap_setCell _ _ _ _ (fun e=>hk k hk' e.symm)
def Qq (r:Nat×Bool):Value:=.tuple #[.int .i64 r.1,.bool r.2]
theorem jH.zX {s:ByteArray} {st:As.St} (h:jH s st) (o:Lk.Obj) (h1:o.text.length<=1200) (h2:o.far.length<=1200) (h3:o.data.length<=64) (h4:0<=o.bss/\o.bss<=64) (h5:o.align.length=4) (h6:o.syms.length<=16) (h7:o.aj.length<=32):jH s { st with obj:=o } :=
 ⟨h.size,h.p,h.tok,h.fe,h.fa,h.op,h.ah,h1,h2,h3,h4,h5,h6,h7⟩
theorem yl.Bg {B:Nat} {s:ByteArray} {b g:Nat} {V W':World} {st:As.St} {vt vf vd va vs vr v':Value} (h:yl B s b g st V) (ho:qD B V b g st.obj vt vf vd va vs vr) (n:ow B V W' b g vs v') (ys:List Lk.Sym) (hys:ys.length<=16)
  (hblk:yd W' g #[vt,vf,vd,.int .i64 st.obj.bss,va,v',vr] 40) (hown:W'.ownsRow B 50 4 v' ys.length (ys.flatMap iF)):Does B s b g V { st with obj:={ st.obj with syms:=ys } } W':=by
 refine n.does h ho (i:=6) rfl (by omega) ⟨vt,vf,vd,va,v',vr,hblk,?_,?_,?_,?_,hown,?_,n.apart ho h.blk.lt (i:=6) rfl⟩ rfl (h.ok.zX _ h.ok.text h.ok.far h.ok.data h.ok.bss h.ok.align hys h.ok.aj) (Jo ho.syms (by simp))
 ·exact n.row ho (i:=6) (j:=2) rfl rfl (by omega) (by omega) ho.text
 ·exact n.row ho (i:=6) (j:=3) rfl rfl (by omega) (by omega) ho.far
 ·exact n.row ho (i:=6) (j:=4) rfl rfl (by omega) (by omega) ho.data
 ·exact n.row ho (i:=6) (j:=5) rfl rfl (by omega) (by omega) ho.align
 ·exact n.row ho (i:=6) (j:=7) rfl rfl (by omega) (by omega) ho.aj
theorem TT (B:Nat) (s:ByteArray) (b g:Nat) (st:As.St) (t:As.Tok) (W:World) (h:yl B s b g st W) (ht:Aw t) :
  Calls Tryz.prog 60 #[.pointer (some ⟨b,0,none⟩),tokA t] W fun en W'=>en = .returned (Qq (As.au t st).1)/\Does B s b g W (As.au t st).2 W':=by
 obtain ⟨i1,hi1,hy0,hy1,hy2⟩:=info_parts Tryz.AZ;have L0:=hid ((Loc.begin h).alloc (kQ t) 62);have HW:=hid h;have hpos:=ht.pos;have cF:=hid (fun V hV=>Gi B s b g st V hV);clear h;unfold tokA
 cases hf:As.failed st
 ·have RS:=hid (show As.au t st=match As.eH st.obj.syms t.text with
   | some i=>((i,true),st)
   | none=>if 16<=st.obj.syms.length then ((0,false),As.refuse 11 t.pos st) else ((st.obj.syms.length,true),{ st with obj:={ st.obj with syms:=st.obj.syms ++ [⟨t.text,0,0,0⟩] } }) by unfold As.au; rw [hf]; rfl)
  rw [hf] at cF;clear hf;generalize As.au t st=X at *;go_enter Tryz.func60,Tryz.ntmps60;go_wp2_with fail;refine Calls.fO (Loc B s b g W [(W.heap.size,kQ t,62)] st) L0.o ?_;clear L0;generalize hr:W.heap.size=r at *;have HR:=hid hr;clear hr;intro V hV;have L:=hid hV;clear hV;refine (cF.o V L.o.d.1).mono ?_;rintro e V' ⟨rfl,rfl⟩;clear cF;obtain ⟨vt,vf,vd,va,vs,vr,ho⟩:=L.o.d.1.own;obtain ⟨gu,cs,rfl⟩:=yi ho.syms;have HO:=hid ho;have hcap:=yZ ho.syms;have SI:=hid (nS.aF ho.syms);have hn16:=L.o.d.1.ok.syms;have c14:=wJ L.o.d.1;have g5:=ho.blk.cell 5;simp only [bB,yml,bf] at g5;clear ho;go_wp2
  go_loopw [18] (fun i wr=>∃ k:Nat,k<=st.obj.syms.length/\i = .int .i64 k/\(∀ j (hj:j < st.obj.syms.length),j < k->st.obj.syms[j].name≠t.text)/\V'.grownBy wr none) (fun i _=>st.obj.syms.length - (intOf i).toNat)
  case atStart=>exact ⟨0,Nat.zero_le _,rfl,fun j _ hj=>absurd hj (Nat.not_lt_zero j),World.grownBy.refl _ _⟩
  case round =>
   obtain ⟨k,hk,rfl,hall,hgr⟩:=hrel;have HA:=hid hall;have HG:=hid hgr;have LW:=hid (L.o.grown hgr);have Ol:=yb c14 hgr;have q5:=yb g5 hgr;clear hall hgr c14 g5;obtain ⟨m0,m1,m2,m3⟩:=(⟨LW.o.d,LW.o.l (r,kQ t,62) (by simp)⟩:lX B s b g W r t st wr).cells;have hrl:r < wr.heap.size:=(LW.o.l (r,kQ t,62) (by simp)).lt;have hrn:r≠wr.heap.size:=by omega
   by_cases hlt:k < st.obj.syms.length
   ·obtain ⟨sg,hsg,hgs,hc⟩:=SI.o.grown HG.o (by omega);obtain ⟨k0,k1,k2,k3⟩:=hc k hlt;clear hc;subst hsg;by_cases e1:st.obj.syms[k].name=t.text
    ·have E:=hid (Xw _ _ k hlt e1 HA.o);have b1:((bs st.obj.syms[k].name).toList == (bs t.text).toList)=true:=by rw [e1]; simp
     clear e1;go_wp2;go_ret2;rw [RS.o,E.o];exact ⟨rfl,(LW.o.d.alloc _).does HW.o⟩
    ·have E:=hid e1;have b1:((bs st.obj.syms[k].name).toList == (bs t.text).toList)=false:=by rw [yA,yA]; simpa using e1
     clear e1;go_wp2
     go_roundw
     case rel=>exact ⟨k+1,by omega,by go_num,fun j hj hjk=>(Nat.lt_succ_iff_lt_or_eq.1 hjk).elim (fun h=>HA.o j hj h) (fun h=>by subst h; exact E.o),ya HG.o (aW _ _ _)⟩
     case measure=>simp [intOf]; omega
   ·have EN:=hid (Xv st.obj.syms t.text (fun j hj=>HA.o j hj (by omega)));rw [EN.o] at RS;by_cases h16:16<=st.obj.syms.length
    ·have D:decide ((16:Int)<=(st.obj.syms.length:Int))=true:=by simp; omega
     have RF:=hid (show X=((0,false),As.refuse 11 t.pos st) by rw [RS.o]; simp only; rw [if_pos h16]);go_wp2_with fail;refine (yM B s b g st 11 t.pos wr LW.o.d.1 (by omega) hpos).mono ?_;rintro e V2 ⟨rfl,h2⟩;have HF:=hid (LW.o.d.after h2);clear h2;go_wp2;go_ret2;rw [RF.o];exact ⟨rfl,HF.o.does HW.o⟩
    ·have D:decide ((16:Int)<=(st.obj.syms.length:Int))=false:=by simp; omega
     have RF:=hid (show X=((st.obj.syms.length,true),{ st with obj:={ st.obj with syms:=st.obj.syms ++ [⟨t.text,0,0,0⟩] } }) by rw [RS.o]; simp only; rw [if_neg h16]);have hgl:g < wr.heap.size:=by have:=HO.o.blk.lt; have:=HG.o.size; omega
     have HOW:=hid (HO.o.keep (W':=wr) (fun k _ hk=>HG.o.block k hk (by simp)));have GA:=hid (aW wr (.cells #[.string (bs t.text),.int .i64 0,.int .i64 0,.int .i64 0] 50) none);have Gs:Hd ((wr.alloc (.cells #[.string (bs t.text),.int .i64 0,.int .i64 0,.int .i64 0] 50)).drew.cell? ⟨b,14,none⟩=some (.pointer (some ⟨g,0,none⟩))):=yb Ol (yg GA.o);have Gt:Hd ((wr.alloc (.cells #[.string (bs t.text),.int .i64 0,.int .i64 0,.int .i64 0] 50)).drew.cell? ⟨r,2,none⟩=some (.string (bs t.text))):=yb m2 (yg GA.o);have LT:=hid (LW.o.l (r,kQ t,62) (by simp));have hrs:Hd (some r≠Value.ownBlock (.slice gu st.obj.syms.length cs)):=fun e=>by
      obtain ⟨-,cs',t',hb',ht'⟩:=Jo HOW.o.syms (by simp) r e.symm
      have:=LT.o.symm.trans hb'
      simp at this;rcases ht' with rfl | rfl | rfl <;> exact absurd this.2 (by decide)
     have Rs:Hd (some b≠Value.ownBlock (.slice gu st.obj.syms.length cs)):=fun e=>HOW.o.apart.ne (i:=0) (j:=6) rfl rfl (by omega) b rfl e.symm
     have hgs0:Hd (some g≠Value.ownBlock (.slice gu st.obj.syms.length cs)):=fun e=>HOW.o.apart.ne (i:=1) (j:=6) rfl rfl (by omega) g rfl e.symm
     have rF:Hd (∀ w3,(wr.alloc (.cells #[.string (bs t.text),.int .i64 0,.int .i64 0,.int .i64 0] 50)).grownBy w3 (Value.ownBlock (.slice gu st.obj.syms.length cs))->w3.cell? ⟨b,14,none⟩=some (.pointer (some ⟨g,0,none⟩))):=fun w3 h=>h.cell Gs.o Rs.o
     have rG:Hd (∀ w3,(wr.alloc (.cells #[.string (bs t.text),.int .i64 0,.int .i64 0,.int .i64 0] 50)).grownBy w3 (Value.ownBlock (.slice gu st.obj.syms.length cs))->w3.cell? ⟨r,2,none⟩=some (.string (bs t.text))):=fun w3 h=>h.cell Gt.o hrs.o
     have rH:Hd (∀ w3,(wr.alloc (.cells #[.string (bs t.text),.int .i64 0,.int .i64 0,.int .i64 0] 50)).grownBy w3 (Value.ownBlock (.slice gu st.obj.syms.length cs))->yd w3 g #[vt,vf,vd,.int .i64 st.obj.bss,va,.slice gu st.obj.syms.length cs,vr] 40):=fun w3 h=>(HOW.o.blk.grown GA.o (by simp)).grown h hgs0.o
     have hgb:Hd (g≠b):=fun e=>LW.o.d.1.lo.2.2.2 e.symm
     have Ru:Hd (r≠g):=fun e=>by
      subst e
      have:=LT.o.symm.trans HOW.o.blk
      simp at this
     have FIN:Hd (∀ w3 eP cap',(wr.alloc (.cells #[.string (bs t.text),.int .i64 0,.int .i64 0,.int .i64 0] 50)).grownBy w3 (Value.ownBlock (.slice gu st.obj.syms.length cs))->(Value.ownBlock (.slice eP (st.obj.syms.length+1) cap')=Value.ownBlock (.slice gu st.obj.syms.length cs)\/Value.ownBlock (.slice eP (st.obj.syms.length+1) cap')=some (wr.alloc (.cells #[.string (bs t.text),.int .i64 0,.int .i64 0,.int .i64 0] 50)).heap.size) ->
       w3.ownsRow B 50 4 (.slice eP (st.obj.syms.length+1) cap') (st.obj.syms.length+1) (st.obj.syms.flatMap iF ++ [.string (bs t.text),.int .i64 0,.int .i64 0,.int .i64 0]) ->
       Does B s b g W { st with obj:={ st.obj with syms:=st.obj.syms ++ [⟨t.text,0,0,0⟩] } } (w3.setCell ⟨g,5,none⟩ (.slice eP (st.obj.syms.length+1) cap'))/\(w3.setCell ⟨g,5,none⟩ (.slice eP (st.obj.syms.length+1) cap')).cell? ⟨b,14,none⟩=some (.pointer (some ⟨g,0,none⟩))/\(w3.setCell ⟨g,5,none⟩ (.slice eP (st.obj.syms.length+1) cap')).cell? ⟨r,2,none⟩=some (.string (bs t.text))/\(w3.setCell ⟨g,5,none⟩ (.slice eP (st.obj.syms.length+1) cap')).cell? ⟨g,5,none⟩=some (.slice eP (st.obj.syms.length+1) cap')):=fun w3 eP cap' gd hat hown=>by
      have nr:ow B wr (w3.setCell ⟨g,5,none⟩ (.slice eP (st.obj.syms.length+1) cap')) b g (.slice gu st.obj.syms.length cs) (.slice eP (st.obj.syms.length+1) cap'):=ow.app (fun k hk=>(HOW.o.syms.lt k hk).2) gd hat
      have nb:=(rH.o w3 gd).set 5 (.slice eP (st.obj.syms.length+1) cap');have gs:=yy w3 g 5 (.slice eP (st.obj.syms.length+1) cap');refine ⟨(LW.o.d.does HW.o).after (LW.o.d.1.Bg HOW.o nr _ (by simp; omega) (by simpa using nb) ?_),gs.cell (rF.o w3 gd) (by simpa using hgb.o.symm),gs.cell (rG.o w3 gd) (by simpa using Ru.o),?_⟩
      ·have e:(st.obj.syms ++ [(⟨t.text,0,0,0⟩:Lk.Sym)]).flatMap iF=st.obj.syms.flatMap iF ++ [.string (bs t.text),.int .i64 0,.int .i64 0,.int .i64 0]:=by rw [List.flatMap_append]; rfl
       rw [e,iA,List.length_singleton];exact Lh hown (fun k hk=>by
        rcases hat with h1 | h1
        ·rw [h1] at hk;exact fun e=>hgs0.o (by rw [e,hk])
        ·rw [h1] at hk;simp at hk
         have:=HOW.o.blk.lt
         omega)
      ·have:=nb.cell 5
       simpa using this
     go_wp2;have hA:Hd ((wr.alloc (.cells #[.string (bs t.text),.int .i64 0,.int .i64 0,.int .i64 0] 50)).drew.ownsRow B 50 4 (.slice gu st.obj.syms.length cs) st.obj.syms.length (st.obj.syms.flatMap iF)):=(HOW.o.syms.alloc _).drew;have hN:Hd (∀ j u,[Value.string (bs t.text),.int .i64 0,.int .i64 0,.int .i64 0][j]?=some u->(wr.alloc (.cells #[.string (bs t.text),.int .i64 0,.int .i64 0,.int .i64 0] 50)).drew.cell? ((⟨wr.heap.size,0,none⟩:Addr).add j)=some u):=World.news_of_block (heap_alloc_new wr (.cells #[.string (bs t.text),.int .i64 0,.int .i64 0,.int .i64 0] 50));have mh:Hd (∀ u∈[Value.string (bs t.text),.int .i64 0,.int .i64 0,.int .i64 0],u.oneCell'=true):=by intro u hu; simp at hu; rcases hu with rfl | rfl | rfl | rfl <;> rfl
     have h63:Hd (st.obj.syms.length+1<=maxLen):=by show _<=_; unfold maxLen; omega
     have hby:Hd ((st.obj.syms.length+1) * 40<=140737488355328):=by show _<=_; omega
     have hbs:Hd (B<=(wr.alloc (.cells #[.string (bs t.text),.int .i64 0,.int .i64 0,.int .i64 0] 50)).drew.heap.size):=by have:=LW.o.d.1.size; show _<=_; simp; omega
     refine wp_region_held_drew (S:=(fun w'=>w'.cell? ⟨b,14,none⟩=some (.pointer (some ⟨g,0,none⟩))/\w'.cell? ⟨r,2,none⟩=some (.string (bs t.text)))) (by kernel_rfl) ⟨Ol,m2⟩ ?_;intro hS
     iterate 10
      refine yH (v:=?_) rfl (by kernel_rfl) (fun _ _ _ h=>h) hS ?_ ?_
      rotate_left
      ·intro w' hw'; obtain ⟨x0,x1⟩:=hw'; go_simp; with_reducible rfl
     refine jG (i:=11) (v:=?_) rfl ?_ hS ?_
     rotate_left
     ·intro w' hw'; obtain ⟨x0,x1⟩:=hw'; go_simp; with_reducible rfl
     refine jG (i:=12) (v:=?_) rfl ?_ hS ?_
     rotate_left
     ·intro w' hw'; obtain ⟨x0,x1⟩:=hw'; go_simp; with_reducible rfl
     refine jG (i:=13) (v:=?_) rfl ?_ hS ?_
     rotate_left
     ·intro w' hw'; obtain ⟨x0,x1⟩:=hw'; go_simp; with_reducible rfl
     refine wpAnyH_ready (rs:=[10,14]) (by kernel_rfl) (by simp) ?_;refine AllReadyH.cons rfl (fun K hK=>?_) (AllReadyH.cons rfl (fun K hK=>?_) AllReadyH.nil)
     ·go_simp;refine hK.out _ _ hS (fun hS2=>?_);clear hK K;refine wpAnyH_ready (rs:=[14]) (by kernel_rfl) (by simp) ?_;refine AllReadyH.cons rfl (fun K hK=>?_) AllReadyH.nil;go_simp;refine hK.out _ _ ⟨Gs.o,Gt.o⟩ (fun lq=>?_);clear hK K hS2 lq;refine wpAnyH_ready (rs:=[15]) (by kernel_rfl) (by simp) ?_;refine AllReadyH.cons rfl (fun K hK=>?_) AllReadyH.nil;rw [if_pos (by kernel_rfl)];refine Lj _ (.tmp 53) (.tmp 57) 37 rfl B 50 i1 (.agg #[.string ⟨#[]⟩,.int .i64 0,.int .i64 0,.int .i64 0]) 4 40 Tryz.underlying37 hi1 hy0 hy1 hy2 rfl (by decide) (.slice gu st.obj.syms.length cs) st.obj.syms.length (st.obj.syms.flatMap iF) (by kernel_rfl) hA.o ⟨wr.heap.size,0,none⟩ 1 1 [.string (bs t.text),.int .i64 0,.int .i64 0,.int .i64 0] (by kernel_rfl) rfl hN.o mh.o h63.o hby.o hbs.o ?_
      intro v' w3 hown' hgrow _ hat
      obtain ⟨eP,cap',rfl⟩:=yi hown';have gd:(wr.alloc (.cells #[.string (bs t.text),.int .i64 0,.int .i64 0,.int .i64 0] 50)).grownBy w3 (Value.ownBlock (.slice gu st.obj.syms.length cs)):=⟨hgrow.os,hgrow.tape,hgrow.output,hgrow.size,hgrow.block⟩
      have kU:Value.ownBlock (.slice eP (st.obj.syms.length+1) cap')=Value.ownBlock (.slice gu st.obj.syms.length cs)\/Value.ownBlock (.slice eP (st.obj.syms.length+1) cap')=some (wr.alloc (.cells #[.string (bs t.text),.int .i64 0,.int .i64 0,.int .i64 0] 50)).heap.size:=hat
      have F:=hid (FIN.o _ _ _ gd kU hown');have n14:=rF.o _ gd;have n2:=rG.o _ gd;have ng:=rH.o _ gd;have m5:=ng.cell 5;have f5:=ng.free 5;simp only [bB,yml,bf] at m5;clear hown' hgrow gd hat kU ng;refine hK.out _ _ ⟨n14,n2⟩ (fun rZ=>?_);clear hK K
      iterate 2
       refine yH (v:=?_) rfl (by kernel_rfl) (fun _ _ _ h=>h) rZ ?_ ?_
       rotate_left
       ·intro w' hw'; obtain ⟨x0,x1⟩:=hw'; go_simp; with_reducible rfl
      refine wpAnyH_ready (rs:=[18]) (by kernel_rfl) (by simp) ?_;refine AllReadyH.cons rfl (fun K hK=>?_) AllReadyH.nil;go_simp;refine hK.out _ _ ⟨F.o.2.1,F.o.2.2.1⟩ (fun hS5=>?_);clear hK K;refine wpAnyH_done (by kernel_rfl) ?_ _
      try simp only [oC,oF,oq,oD,iW,iR,iT]
      have z14:=F.o.2.1;have z5:=F.o.2.2.2;clear hA hN mh h63 hby hbs Ol q5 m0 m1 m2 m3 n14 n2 m5 f5 rZ hS5 hS;go_wp2;go_ret2;rw [RF.o];exact ⟨rfl,F.o.1⟩
     ·go_simp;refine hK.out _ _ ⟨Gs.o,Gt.o⟩ (fun hS2=>?_);clear hK K;refine wpAnyH_ready (rs:=[10]) (by kernel_rfl) (by simp) ?_;refine AllReadyH.cons rfl (fun K hK=>?_) AllReadyH.nil;go_simp;refine hK.out _ _ ⟨Gs.o,Gt.o⟩ (fun lq=>?_);clear hK K hS2 lq;refine wpAnyH_ready (rs:=[15]) (by kernel_rfl) (by simp) ?_;refine AllReadyH.cons rfl (fun K hK=>?_) AllReadyH.nil;rw [if_pos (by kernel_rfl)];refine Lj _ (.tmp 53) (.tmp 57) 37 rfl B 50 i1 (.agg #[.string ⟨#[]⟩,.int .i64 0,.int .i64 0,.int .i64 0]) 4 40 Tryz.underlying37 hi1 hy0 hy1 hy2 rfl (by decide) (.slice gu st.obj.syms.length cs) st.obj.syms.length (st.obj.syms.flatMap iF) (by kernel_rfl) hA.o ⟨wr.heap.size,0,none⟩ 1 1 [.string (bs t.text),.int .i64 0,.int .i64 0,.int .i64 0] (by kernel_rfl) rfl hN.o mh.o h63.o hby.o hbs.o ?_
      intro v' w3 hown' hgrow _ hat
      obtain ⟨eP,cap',rfl⟩:=yi hown';have gd:(wr.alloc (.cells #[.string (bs t.text),.int .i64 0,.int .i64 0,.int .i64 0] 50)).grownBy w3 (Value.ownBlock (.slice gu st.obj.syms.length cs)):=⟨hgrow.os,hgrow.tape,hgrow.output,hgrow.size,hgrow.block⟩
      have kU:Value.ownBlock (.slice eP (st.obj.syms.length+1) cap')=Value.ownBlock (.slice gu st.obj.syms.length cs)\/Value.ownBlock (.slice eP (st.obj.syms.length+1) cap')=some (wr.alloc (.cells #[.string (bs t.text),.int .i64 0,.int .i64 0,.int .i64 0] 50)).heap.size:=hat
      have F:=hid (FIN.o _ _ _ gd kU hown');have n14:=rF.o _ gd;have n2:=rG.o _ gd;have ng:=rH.o _ gd;have m5:=ng.cell 5;have f5:=ng.free 5;simp only [bB,yml,bf] at m5;clear hown' hgrow gd hat kU ng;refine hK.out _ _ ⟨n14,n2⟩ (fun rZ=>?_);clear hK K
      iterate 2
       refine yH (v:=?_) rfl (by kernel_rfl) (fun _ _ _ h=>h) rZ ?_ ?_
       rotate_left
       ·intro w' hw'; obtain ⟨x0,x1⟩:=hw'; go_simp; with_reducible rfl
      refine wpAnyH_ready (rs:=[18]) (by kernel_rfl) (by simp) ?_;refine AllReadyH.cons rfl (fun K hK=>?_) AllReadyH.nil;go_simp;refine hK.out _ _ ⟨F.o.2.1,F.o.2.2.1⟩ (fun hS5=>?_);clear hK K;refine wpAnyH_done (by kernel_rfl) ?_ _
      try simp only [oC,oF,oq,oD,iW,iR,iT]
      have z14:=F.o.2.1;have z5:=F.o.2.2.2;clear hA hN mh h63 hby hbs Ol q5 m0 m1 m2 m3 n14 n2 m5 f5 rZ hS5 hS;go_wp2;go_ret2;rw [RF.o];exact ⟨rfl,F.o.1⟩
 ·have R:=hid (show As.au t st=((0,false),st) by unfold As.au; rw [hf]; rfl);rw [hf] at cF;clear hf;go_enter Tryz.func60,Tryz.ntmps60;go_wp2_with fail;refine (cF.o _ L0.o.d.1).mono ?_;rintro e w1 ⟨rfl,rfl⟩;go_wp2;go_ret2;rw [R.o];exact ⟨rfl,L0.o.d.does HW.o⟩
theorem Ud (s:List UInt8) (lo hi:Int) (st:As.St) (h0:lo<=0) (h1:0<=hi):lo<=(As.number s lo hi st).1/\(As.number s lo hi st).1<=hi:=by
 have key:∀ neg pos st,lo<=(As.aN s neg pos lo hi st).1/\(As.aN s neg pos lo hi st).1<=hi:=by
  intro neg pos st;unfold As.aN;generalize (if neg then -(st.tok.n:Int) else (st.tok.n:Int))=x;split
  ·by_cases h:x < lo\/hi < x
   ·rw [if_pos h]; exact ⟨h0,h1⟩
   ·rw [if_neg h]; simp only; omega
  ·exact ⟨h0,h1⟩
 unfold As.number;split
 ·exact key _ _ _
 ·exact key _ _ _
theorem XQ (s:List UInt8) (st:As.St) (h:Aw st.tok):Aw (As.name s st).1:=by
 unfold As.name;split
 ·exact h
 ·exact LJ
theorem OI (B:Nat) (s:ByteArray) (b g:Nat) (st:As.St) (W:World) (h:yl B s b g st W) :
  Calls Tryz.prog 135 #[.pointer (some ⟨b,0,none⟩)] W fun en W'=>en = .returned (.int .i64 (As.symbol (sl s) st).1)/\Does B s b g W (As.symbol (sl s) st).2 W':=by
 have HW:=hid h;have cN:=hid (Xu B s b g st W h);have HT:=hid (XQ (sl s) st h.ok.tok);clear h;have RS:=hid (show As.symbol (sl s) st=((As.au (As.name (sl s) st).1 (As.name (sl s) st).2).1.1,(As.au (As.name (sl s) st).1 (As.name (sl s) st).2).2) from rfl);generalize As.symbol (sl s) st=X at *;generalize As.name (sl s) st=R at *;obtain ⟨t,st1⟩:=R;simp only at HT RS cN;go_enter Tryz.func135,Tryz.ntmps135;go_wp2_with fail;refine cN.o.mono ?_;rintro e V ⟨rfl,h1⟩;have D1:=hid (h1.does HW.o);clear h1 cN;unfold tokA;go_wp2_with fail;refine (TT B s b g st1 t _ (D1.o.alloc _).1 HT.o).mono ?_;rintro e V2 ⟨rfl,h2⟩
 have D2:=hid ((D1.o.alloc _).after h2);clear h2 D1;unfold Qq;go_wp2;go_ret;rw [RS.o];exact ⟨rfl,D2.o⟩
theorem Qf (B:Nat) (s:ByteArray) (b g:Nat) (st:As.St) (W:World) (h:yl B s b g st W) :
  Calls Tryz.prog 133 #[.pointer (some ⟨b,0,none⟩)] W fun en W'=>en = .returned (.tuple #[.int .i64 (As.target (sl s) st).1.1,.int .i64 (As.target (sl s) st).1.2])/\Does B s b g W (As.target (sl s) st).2 W':=by
 have cN:=hid (OI B s b g st W h);clear h;have RS:=hid (show As.target (sl s) st=if (As.symbol (sl s) st).2.tok.is [43] then (((As.symbol (sl s) st).1,(As.number (sl s) 0 2047 (As.advance (sl s) (As.symbol (sl s) st).2)).1),(As.number (sl s) 0 2047 (As.advance (sl s) (As.symbol (sl s) st).2)).2)
  else if (As.symbol (sl s) st).2.tok.is [45] then (((As.symbol (sl s) st).1,-(As.number (sl s) 0 2048 (As.advance (sl s) (As.symbol (sl s) st).2)).1),(As.number (sl s) 0 2048 (As.advance (sl s) (As.symbol (sl s) st).2)).2)
  else (((As.symbol (sl s) st).1,0),(As.symbol (sl s) st).2) from rfl)
 generalize As.target (sl s) st=X at *;generalize As.symbol (sl s) st=R at *;obtain ⟨i,st1⟩:=R;simp only at RS cN;go_enter Tryz.func133,Tryz.ntmps133;go_wp2_with fail;refine cN.o.mono ?_;rintro e V ⟨rfl,h1⟩;have D1:=hid h1;clear h1 cN;obtain ⟨c2,c3,c4,c5⟩:=zx D1.o.1;go_wp2_with fail;refine (OA st1.tok [43] V).mono ?_;rintro e V1 ⟨rfl,hg⟩;have D2:=hid (D1.o.grown hg);clear hg D1 c2 c3 c4 c5
 cases hp:st1.tok.is [43]
 ·rw [hp,if_neg (by simp)] at RS;clear hp;obtain ⟨c2,c3,c4,c5⟩:=zx D2.o.1;go_wp2_with fail;refine (OA st1.tok [45] V1).mono ?_;rintro e V2 ⟨rfl,hg⟩;have D3:=hid (D2.o.grown hg);clear hg D2 c2 c3 c4 c5
  cases hm:st1.tok.is [45]
  ·rw [hm,if_neg (by simp)] at RS;clear hm;go_wp2;go_ret2;rw [RS.o];exact ⟨rfl,D3.o⟩
  ·rw [hm,if_pos rfl] at RS;clear hm;go_wp2_with fail;refine (FT B s b g st1 V2 D3.o.1).mono ?_;rintro e V3 ⟨rfl,h3⟩;have D4:=hid (D3.o.aR h3);clear h3 D3;generalize As.advance (sl s) st1=st2 at *;go_wp2_with fail;refine (Iz B s b g st2 0 2048 V3 D4.o.1).mono ?_;rintro e V4 ⟨rfl,h4⟩;have D5:=hid (D4.o.aR h4);clear h4 D4;have NB:=Ud (sl s) 0 2048 st2 (by omega) (by omega);generalize As.number (sl s) 0 2048 st2=R4 at *;obtain ⟨nn,uK⟩:=R4;simp only at NB RS D5 ⊢;go_wp2;go_ret2;rw [RS.o];exact ⟨rfl,D5.o⟩
 ·rw [hp,if_pos rfl] at RS;clear hp;go_wp2_with fail;refine (FT B s b g st1 V1 D2.o.1).mono ?_;rintro e V3 ⟨rfl,h3⟩;have D4:=hid (D2.o.aR h3);clear h3 D2;generalize As.advance (sl s) st1=st2 at *;go_wp2_with fail;refine (Iz B s b g st2 0 2047 V3 D4.o.1).mono ?_;rintro e V4 ⟨rfl,h4⟩;have D5:=hid (D4.o.aR h4);clear h4 D4;generalize As.number (sl s) 0 2047 st2=R4 at *;obtain ⟨nn,uK⟩:=R4;simp only at RS D5 ⊢;go_wp2;go_ret2;rw [RS.o];exact ⟨rfl,D5.o⟩
theorem Uz (B:Nat) (s:ByteArray) (b g:Nat) (st:As.St) (W:World) (h:yl B s b g st W) :
  Calls Tryz.prog 132 #[.pointer (some ⟨b,0,none⟩)] W fun en W'=>en = .returned (.tuple #[.int .i64 (As.place (sl s) st).1.1,.int .i64 (As.place (sl s) st).1.2])/\kP B s b g W (As.place (sl s) st).2 W':=by
 have cN:=hid (Iz B s b g st (-2048) 2047 W h);clear h;have RS:=hid (show As.place (sl s) st=(((As.number (sl s) (-2048) 2047 st).1,(As.register (sl s) (As.sign (sl s) [40] (As.number (sl s) (-2048) 2047 st).2)).1),As.sign (sl s) [41] (As.register (sl s) (As.sign (sl s) [40] (As.number (sl s) (-2048) 2047 st).2)).2) from rfl);generalize As.place (sl s) st=X at *;generalize As.number (sl s) (-2048) 2047 st=R at *;obtain ⟨nn,st1⟩:=R;simp only at RS cN;go_enter Tryz.func132,Tryz.ntmps132;go_wp2_with fail;refine cN.o.mono ?_;rintro e V ⟨rfl,h1⟩;have D1:=hid h1;clear h1 cN;go_wp2_with fail;refine (za B s b g st1 [40] V D1.o.1).mono ?_
 rintro e V1 ⟨rfl,h1⟩;have D2:=hid (D1.o.after h1);clear h1 D1;generalize As.sign (sl s) [40] st1=st2 at *;go_wp2_with fail;refine (yX B s b g st2 V1 D2.o.1).mono ?_;rintro e V2 ⟨rfl,h1⟩;have D3:=hid (D2.o.after h1);clear h1 D2;generalize As.register (sl s) st2=R2 at *;obtain ⟨rg,iV⟩:=R2;simp only at RS D3 ⊢;go_wp2_with fail;refine (za B s b g iV [41] V2 D3.o.1).mono ?_;rintro e V3 ⟨rfl,h1⟩;have D4:=hid (D3.o.after h1);clear h1 D3;go_wp2;go_ret2;rw [RS.o];exact ⟨rfl,D4.o⟩
def yE (W:World) (ao:Option Addr) (cap:Nat) (ws:List Int):Prop :=
 (ao=none/\cap=0/\ws=[])\/∃ wg off cs,ao=some ⟨wg,off,none⟩/\yd W wg cs 3/\∀ i (h:i < ws.length),cs[off+i]?=some (.int .i64 ws[i])
theorem yE.kept {W W':World} {ao:Option Addr} {cap:Nat} {ws:List Int} (h:yE W ao cap ws) (hk:∀ k cs,yd W k cs 3->ao.map (·.block)=some k->yd W' k cs 3):yE W' ao cap ws:=by
 rcases h with h | ⟨wg,off,cs,rfl,h1,h2⟩
 ·exact .inl h
 ·exact .inr ⟨wg,off,cs,rfl,hk wg cs h1 rfl,h2⟩
theorem yE.grown {W W':World} {ao:Option Addr} {cap:Nat} {ws:List Int} (h:yE W ao cap ws) (hg:W.grownBy W' none):yE W' ao cap ws:=h.kept fun _ _ hb _=>hb.grown hg (by simp)
theorem PI {P:Program} (w:World) {o:Oper} {a:Act} {K:Act->World->Prop} {Q:Exit->Act->World->Prop} (s x:Operand) (t:TypeId)
  (ho:o.op = .call { callee:=.builtin .append,args:=#[s,x],argTypes:=#[t,t] })
  (base:Nat) (i:TypeInfo) (ht:P.underlying t=some (.slice 3)) (hi:P.info? 3=some i) (hz:i.zero=some (.int .i64 0))
  (hsize:i.size=1) (hby:i.bytes=8)
  (v:Value) (n:Nat) (xs:List Value) (hs:a.eval s=v) (hown:w.ownsRow base 3 1 v n xs)
  (ao:Option Addr) (cap:Nat) (ws:List Int) (hx:a.eval x = .slice ao ws.length cap) (hw:yE w ao cap ws)
  (h63:n+ws.length<=65535) (hbase:base<=w.heap.size)
  (h:∀ v' w',w'.ownsRow base 3 1 v' (n+ws.length) (xs ++ ws.map (Value.int .i64))->w.grownBy w' v.ownBlock->(v'.ownBlock=v.ownBlock\/v'.ownBlock=some w.heap.size)->K (a.put o.dst v') w'):o.wp P a w K Q:=by
 rcases hw with ⟨rfl,rfl,rfl⟩ | ⟨wg,off,cs,rfl,hb,hc⟩
 ·have hrun:=run_append_owned_none (P:=P) (w:=w) base t o.type 3 i 1 ht hi v n xs hown;have hx':a.eval x = .slice none 0 0:=hx;have h':=h v w (by simpa using hown) ⟨rfl,rfl,rfl,Nat.le_refl _,fun _ _ _=>rfl⟩ (.inl rfl);unfold Oper.wp;simp [execOp,ho,resolve,invoke,builtin,hs,hx',hrun,Result.andThen];exact h'
 ·refine Lj w s x t ho base 3 i (.int .i64 0) 1 8 ht hi hz hsize hby rfl (by decide) v n xs hs hown ⟨wg,off,none⟩ ws.length cap (ws.map (Value.int .i64)) hx (by simp) ?_ (by intro u hu; simp at hu; obtain ⟨y,_,rfl⟩:=hu; rfl) (by unfold maxLen; omega) (by omega) hbase (fun v' w' h1 h2 _ h4=>h v' w' h1 h2 h4);intro j u hu;rw [List.getElem?_map,Option.map_eq_some_iff] at hu;obtain ⟨y,hy,rfl⟩:=hu;obtain ⟨hj,rfl⟩:=List.getElem?_eq_some_iff.1 hy
  have:=hb.cell (off+j)
  rw [hc j hj] at this;have e:(⟨wg,off,none⟩:Addr).add j=⟨wg,off+j,none⟩:=by
   unfold Addr.add;by_cases h0:j=0
   ·subst h0; simp
   ·simp [h0]
  rw [e];exact this
theorem yl.Ja {B:Nat} {s:ByteArray} {b g:Nat} {st:As.St} {W:World} (h:yl B s b g st W):yw W g st.obj:=by
 obtain ⟨vt,vf,vd,va,vs,vr,ho⟩:=h.own;exact ⟨vt,vf,vd,va,vs,vr,ho.blk,Iu ho.text (Nat.zero_le _),Iu ho.far (Nat.zero_le _),Iu ho.data (Nat.zero_le _),Iu ho.align (Nat.zero_le _),Iu ho.syms (Nat.zero_le _),Iu ho.aj (Nat.zero_le _)⟩
theorem jH.small {s:ByteArray} {st:As.St} (h:jH s st):ou st.obj:=⟨by have:=h.text; omega,by have:=h.far; omega,by have:=h.data; omega,by have:=h.align; omega,by have:=h.syms; omega,by have:=h.aj; omega⟩
theorem yjp (o:Lk.Obj) (ah:Nat):nC o (ah:Int)=As.aA o ah:=by
 unfold nC As.aA ym;by_cases h4:ah=4
 ·rw [if_pos (by omega),if_pos h4]
 by_cases h1:ah=1
 ·rw [if_neg (by omega),if_neg h4,if_pos (by omega),if_pos h1]
 by_cases h2:ah=2
 ·rw [if_neg (by omega),if_neg h4,if_neg (by omega),if_neg h1,if_pos (by omega),if_pos h2]
 by_cases h3:ah=3
 ·rw [if_neg (by omega),if_neg h4,if_neg (by omega),if_neg h1,if_neg (by omega),if_neg h2,if_pos (by omega),if_pos h3]
 ·rw [if_neg (by omega),if_neg h4,if_neg (by omega),if_neg h1,if_neg (by omega),if_neg h2,if_neg (by omega),if_neg h3]; rfl
theorem Ug {s:ByteArray} {st:As.St} (h:jH s st):0<=As.aA st.obj st.ah/\As.aA st.obj st.ah<=1200:=by
 have h1:=h.text;have h2:=h.far;have h3:=h.data;have h4:=h.bss;unfold As.aA
 repeat' split
 all_goals omega
theorem Lx (B:Nat) (s:ByteArray) (b g:Nat) (st:As.St) (W:World) (h:yl B s b g st W) :
  Calls Tryz.prog 61 #[.pointer (some ⟨g,0,none⟩),.int .i64 st.ah] W fun e W'=>e = .returned (.int .i64 (4 * As.aA st.obj st.ah))/\W'=W:=by
 rw [<- yjp];exact yet g st.obj st.ah W h.Ja h.ok.small h.ok.bss
theorem yjc (B:Nat) (s:ByteArray) (b g:Nat) (st:As.St) (W:World) (h:yl B s b g st W) :
  Calls Tryz.prog 160 #[.pointer (some ⟨b,0,none⟩)] W fun e W'=>e = .returned (.int .i64 (As.limit st.ah))/\W'=W:=by
 have c:=zi h;have hs:=h.ok.ah;clear h;generalize st.ah=ah at *;rcases (show ah=1\/ah=2\/ah=3\/ah=4 by omega) with rfl | rfl | rfl | rfl
 all_goals
  go_enter Tryz.func160,Tryz.ntmps160;go_wp2;go_ret;exact ⟨rfl,rfl⟩
theorem Ql {B:Nat} {s:ByteArray} {b g:Nat} {st:As.St} {W:World} (h:yl B s b g st W):W.cell? ⟨b,10,none⟩=some (.int .i64 st.op.pos):=by
 have c:=yP h 10;simpa only [yK,bB,yml,bf] using c
section
variable {B:Nat} {s:ByteArray} {b g:Nat} {V W':World} {st:As.St} {vt vf vd va vs vr v':Value}
theorem yl.newText (h:yl B s b g st V) (ho:qD B V b g st.obj vt vf vd va vs vr) (n:ow B V W' b g vt v') (xs:List Int) (hxs:xs.length<=1200)
  (hblk:yd W' g #[v',vf,vd,.int .i64 st.obj.bss,va,vs,vr] 40) (hown:W'.ownsRow B 3 1 v' xs.length (xs.map (Value.int .i64))):Does B s b g V { st with obj:={ st.obj with text:=xs } } W':=by
 refine n.does h ho (i:=2) rfl (by omega) ⟨v',vf,vd,va,vs,vr,hblk,hown,?_,?_,?_,?_,?_,n.apart ho h.blk.lt (i:=2) rfl⟩ rfl (h.ok.zX _ hxs h.ok.far h.ok.data h.ok.bss h.ok.align h.ok.syms h.ok.aj) (Jo ho.text (by simp))
 ·exact n.row ho (i:=2) (j:=3) rfl rfl (by omega) (by omega) ho.far
 ·exact n.row ho (i:=2) (j:=4) rfl rfl (by omega) (by omega) ho.data
 ·exact n.row ho (i:=2) (j:=5) rfl rfl (by omega) (by omega) ho.align
 ·exact n.row ho (i:=2) (j:=6) rfl rfl (by omega) (by omega) ho.syms
 ·exact n.row ho (i:=2) (j:=7) rfl rfl (by omega) (by omega) ho.aj
theorem yl.vT (h:yl B s b g st V) (ho:qD B V b g st.obj vt vf vd va vs vr) (n:ow B V W' b g vf v') (xs:List Int) (hxs:xs.length<=1200)
  (hblk:yd W' g #[vt,v',vd,.int .i64 st.obj.bss,va,vs,vr] 40) (hown:W'.ownsRow B 3 1 v' xs.length (xs.map (Value.int .i64))):Does B s b g V { st with obj:={ st.obj with far:=xs } } W':=by
 refine n.does h ho (i:=3) rfl (by omega) ⟨vt,v',vd,va,vs,vr,hblk,?_,hown,?_,?_,?_,?_,n.apart ho h.blk.lt (i:=3) rfl⟩ rfl (h.ok.zX _ h.ok.text hxs h.ok.data h.ok.bss h.ok.align h.ok.syms h.ok.aj) (Jo ho.far (by simp))
 ·exact n.row ho (i:=3) (j:=2) rfl rfl (by omega) (by omega) ho.text
 ·exact n.row ho (i:=3) (j:=4) rfl rfl (by omega) (by omega) ho.data
 ·exact n.row ho (i:=3) (j:=5) rfl rfl (by omega) (by omega) ho.align
 ·exact n.row ho (i:=3) (j:=6) rfl rfl (by omega) (by omega) ho.syms
 ·exact n.row ho (i:=3) (j:=7) rfl rfl (by omega) (by omega) ho.aj
theorem yl.ru (h:yl B s b g st V) (ho:qD B V b g st.obj vt vf vd va vs vr) (n:ow B V W' b g vd v') (xs:List Int) (hxs:xs.length<=64)
  (hblk:yd W' g #[vt,vf,v',.int .i64 st.obj.bss,va,vs,vr] 40) (hown:W'.ownsRow B 3 1 v' xs.length (xs.map (Value.int .i64))):Does B s b g V { st with obj:={ st.obj with data:=xs } } W':=by
 refine n.does h ho (i:=4) rfl (by omega) ⟨vt,vf,v',va,vs,vr,hblk,?_,?_,hown,?_,?_,?_,n.apart ho h.blk.lt (i:=4) rfl⟩ rfl (h.ok.zX _ h.ok.text h.ok.far hxs h.ok.bss h.ok.align h.ok.syms h.ok.aj) (Jo ho.data (by simp))
 ·exact n.row ho (i:=4) (j:=2) rfl rfl (by omega) (by omega) ho.text
 ·exact n.row ho (i:=4) (j:=3) rfl rfl (by omega) (by omega) ho.far
 ·exact n.row ho (i:=4) (j:=5) rfl rfl (by omega) (by omega) ho.align
 ·exact n.row ho (i:=4) (j:=6) rfl rfl (by omega) (by omega) ho.syms
 ·exact n.row ho (i:=4) (j:=7) rfl rfl (by omega) (by omega) ho.aj
theorem ow.app0 {v:Value} {w3:World} {off:Nat} (hg:V.grownBy w3 v.ownBlock) (hat:v'.ownBlock=v.ownBlock\/v'.ownBlock=some V.heap.size):ow B V (w3.setCell ⟨g,off,none⟩ v') b g v v':=by
 have gs:=yy w3 g off v';refine ⟨fun k hk hne hkg=>?_,fun k hk=>?_,?_,?_,?_,?_⟩
 ·rw [gs.block k (by have:=hg.size; omega) (by simpa using hkg),hg.block k hk hne]
 ·rcases hat with e | e
  ·exact .inl (by rw [<- e]; exact hk)
  ·rw [e] at hk;simp at hk;exact .inr (by omega)
 ·rw [gs.os,hg.os]
 ·rw [gs.tape,hg.tape]
 ·rw [gs.output,hg.output]
 ·have:=gs.size; have:=hg.size; omega
end
end Go.Proofs.YtnkkepfcpjllmaaGreatDoor
