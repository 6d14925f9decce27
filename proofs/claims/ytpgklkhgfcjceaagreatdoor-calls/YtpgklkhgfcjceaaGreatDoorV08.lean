
import Derived.Test.YtpgklkhgfcjceaaGreatDoorV07
import Derived.Deep.LoopGhost
import Derived.Deep.RegionLaw
import Derived.Deep.AppendLies
set_option maxHeartbeats 16000000
namespace Go.Proofs.YtpgklkhgfcjceaaGreatDoor
open Go.RowKit
theorem ypz {w:World} {base:Nat} {e:TypeId} {n cap sg j:Nat} {xs:List Value} {u:Value} (h:w.ownsRow base e 1 (.slice (some ⟨sg,0,none⟩) n cap) n xs) :
  (w.setCell ⟨sg,j,none⟩ u).ownsRow base e 1 (.slice (some ⟨sg,0,none⟩) n cap) n (xs.set j u):=by
 refine ⟨by rw [List.length_set]; exact h.1,?_⟩
 rcases h.2 with ⟨h1,h2⟩ | ⟨g',cap',cur,hv,hb,hg,h3,h4,h5,h6⟩
 ·simp at h1
 ·simp only [Value.slice.injEq,Option.some.injEq,Addr.mk.injEq] at hv
  obtain ⟨⟨rfl,_⟩,_,rfl⟩:=hv
  refine .inr ⟨sg,cap,cur.setIfInBounds j u,rfl,hb,JU hg u,h3,h4,by simpa using h5,?_⟩
  rw [Array.toList_setIfInBounds,List.take_set,h6]
theorem F4 {w:World} {base:Nat} {e:TypeId} {n cap:Nat} {ao:Option Addr} {xs:List Value} (h:w.ownsRow base e 1 (.slice ao n cap) n xs) (h0:0 < n):∃ sg,ao=some ⟨sg,0,none⟩/\(∀ o,w.frozen? ⟨sg,o,none⟩=false)/\n<=cap/\cap<=maxLen/\∀ i,i < n->w.cell? ⟨sg,i,none⟩=xs[i]?:=by
 rcases h.2 with ⟨h1,h2⟩ | ⟨g',cap',cur,hv,_,hg,h3,h4,h5,h6⟩
 ·omega
 ·simp only [Value.slice.injEq] at hv
  obtain ⟨rfl,_,rfl⟩:=hv
  refine ⟨g',rfl,fun o=>(show yc w g' cur e from hg).free o,h3,h4,fun i hi=>?_⟩
  rw [(show yc w g' cur e from hg).cell i,<- h6,List.getElem?_take]
  simp [hi]
section
variable {W0 W:World} {b g:Nat} {dW vo:Value} {st:Mc.St}
theorem yv.CS {sg n cap:Nat} (h:yv W0 b g dW st (.slice (some ⟨sg,0,none⟩) n cap) vo W) (hn:n=st.data.length) (i:Nat) (v:Int) (hv:0<=v/\v < 4294967296) :
  yv W0 b g dW { st with data:=st.data.set i v } (.slice (some ⟨sg,0,none⟩) n cap) vo (W.setCell ⟨sg,i,none⟩ (.int .i64 v)):=by
 have hsb:sg≠b:=h.apart.1 sg rfl
 have hso:∀ k,vo.ownBlock=some k->k≠sg:=fun k e c=>h.apart.2.2 sg rfl (by rw [e,c])
 have hlo:=(h.data.lt sg rfl).1
 subst hn
 refine ⟨h.blk.grown (yf W sg i _) (by simp; omega),?_,Bc h.o hso,h.apart,h.lo,yN h.gr (yf W sg i _) (by intro k e; simp at e; omega),⟨h.ok.regs,h.ok.words,h.ok.zero,by simpa using h.ok.data,fun j=>?_,h.ok.pc,h.ok.next,h.ok.o,h.ok.steps,h.ok.read⟩⟩
 ·have:=ypz (j:=i) (u:=.int .i64 v) h.data
  simp only [List.length_set,List.map_set]
  exact this
 ·show 0<=(st.data.set i v).getD j 0/\(st.data.set i v).getD j 0 < 4294967296
  rw [jY,List.getElem?_set]
  split
  ·split
   ·simpa using hv
   ·rename_i h1 h2
    subst h1
    simp
  ·have:=h.ok.j5 j
   rw [jY] at this
   exact this
end
theorem ymL (W0:World) (b g:Nat) (dW:Value) (st:Mc.St) (vd vo:Value) (m:Im.dK) (a v:Int) (W:World) (h:yv W0 b g dW st vd vo W) (hI:lJ W0 g m) (hT:Im.jo m) (h0:0<=a) (h1:a < 4294967296) (hv:0<=v/\v < 4294967296) :
  Calls Tryz.prog 124 #[.pointer (some ⟨b,0,none⟩),.int .i64 a,.int .i64 v] W fun e W'=>e = .returned (.tuple #[])/\kN W0 b g dW (Mc.store m a v st) W':=by
 have cP:=hid (Ud W0 b g dW st vd vo m a W h hI hT h0 h1)
 have H:=hid h
 have r:=Im.jK m.data st.data.length a
 obtain ⟨X,hX⟩:∃ X,X=Mc.store m a v st:=⟨_,rfl⟩
 rw [<- hX]
 unfold Mc.store at hX
 have RX:=hid hX
 clear h hI hT hX
 generalize Im.place m.data st.data.length a=i at *
 go_enter Tryz.func124,Tryz.ntmps124
 go_wp2_with fail
 refine cP.o.mono ?_
 rintro e V ⟨rfl,n,hV⟩
 have H1:Hd (yv W0 b g dW st vd vo V):=by rw [hV]; exact H.o.grown (ye (World.grownBy.refl _ _) n)
 clear hV H cP
 by_cases hi:0<=i
 ·have d:decide (i < 0)=false:=by simp; omega
  rw [if_pos hi] at RX
  obtain ⟨k,rfl⟩:=Int.eq_ofNat_of_zero_le hi
  have hk:k < st.data.length:=by omega
  obtain ⟨ad,cd,hvd⟩:=yh H1.o.data
  subst hvd
  obtain ⟨sg,rfl,hf,hc1,hc2,hcells⟩:=F4 H1.o.data (by omega)
  have c34:=H1.o.c.2.2.1
  have ck:=hcells k hk
  rw [List.getElem?_map,jF hk,Option.map_some] at ck
  have fk:=hf k
  have g1:(k:Int) < (st.data.length:Int):=by omega
  rw [Int.toNat_natCast] at RX
  clear hf hcells
  go_wp2
  go_end0
  rw [RX.o]
  exact ⟨rfl,_,_,H1.o.CS rfl k v hv⟩
 ·have d:decide (i < 0)=true:=by simp; omega
  rw [if_neg hi] at RX
  have c:=H1.o.c.2.2.2.2.2.1
  have f:=H1.o.free 37
  go_wp2
  (try simp only [Exit.inBlock,Exit.then]); refine bodyPost_ret (results_none rfl _ _ _) rfl ?_
  rw [RX.o]
  exact ⟨rfl,_,_,H1.o.kC 5⟩
theorem ynY (W0:World) (b g:Nat) (dW:Value) (st:Mc.St) (vd vo:Value) (m:Im.dK) (rd a:Int) (W:World) (h:yv W0 b g dW st vd vo W) (hI:lJ W0 g m) (hT:Im.jo m) (h0:0<=a) (h1:a < 4294967296) (hr0:0<=rd) (hr1:rd < 32) :
  Calls Tryz.prog 123 #[.pointer (some ⟨b,0,none⟩),.int .i64 rd,.int .i64 a] W fun e W'=>e = .returned (.tuple #[])/\kN W0 b g dW (Mc.load m rd a st) W':=by
 have cC:=hid (L9 g m a W (hI.kept h.gr) hT h0 h1)
 have cP:=hid (fun W hW=>Ud W0 b g dW st vd vo m a W hW hI hT h0 h1)
 have cS:=hid (fun v W hW=>xJ W0 b g dW st vd vo rd v W hW hr0 hr1)
 have H:=hid h
 have c0:=h.c.1
 have r:=Im.jK m.data st.data.length a
 obtain ⟨X,hX⟩:∃ X,X=Mc.load m rd a st:=⟨_,rfl⟩
 rw [<- hX]
 unfold Mc.load at hX
 have RX:=hid hX
 clear h hI hT hX
 generalize Im.place m.data st.data.length a=i at *
 generalize Im.code m a=cd at *
 go_enter Tryz.func123,Tryz.ntmps123
 go_wp2_with fail
 refine cC.o.mono ?_
 rintro e V ⟨rfl,n,hV⟩
 have H1:Hd (yv W0 b g dW st vd vo V):=by rw [hV]; exact H.o.grown (ye (World.grownBy.refl _ _) n)
 clear hV H cC c0
 cases cd with
 | some wv =>
  simp only at RX
  go_wp2_with fail
  refine (cS.o wv V H1.o).mono ?_
  rintro e V2 ⟨rfl,h2⟩
  have H2:=hid h2
  clear h2
  go_wp2
  (try simp only [Exit.inBlock,Exit.then]); refine bodyPost_ret (results_none rfl _ _ _) rfl ?_
  rw [RX.o]
  exact ⟨rfl,_,_,H2.o⟩
 | none =>
  simp only at RX
  go_wp2_with fail
  refine (cP.o V H1.o).mono ?_
  rintro e V2 ⟨rfl,n2,hV2⟩
  have H2:Hd (yv W0 b g dW st vd vo V2):=by rw [hV2]; exact H1.o.grown (ye (World.grownBy.refl _ _) n2)
  clear hV2 H1 cP
  by_cases hi:0<=i
  ·have d:decide (i < 0)=false:=by simp; omega
   rw [if_pos hi] at RX
   obtain ⟨k,rfl⟩:=Int.eq_ofNat_of_zero_le hi
   have hk:k < st.data.length:=by omega
   obtain ⟨ad,cd,hvd⟩:=yh H2.o.data
   subst hvd
   obtain ⟨sg,rfl,hf,hc1,hc2,hcells⟩:=F4 H2.o.data (by omega)
   have c34:=H2.o.c.2.2.1
   have ck:=hcells k hk
   rw [List.getElem?_map,jF hk,Option.map_some] at ck
   have g1:(k:Int) < (st.data.length:Int):=by omega
   rw [Int.toNat_natCast,jY,jF hk,Option.getD_some] at RX
   clear hf hcells
   go_wp2_with fail
   refine (cS.o _ V2 H2.o).mono ?_
   rintro e V3 ⟨rfl,h3⟩
   have H3:=hid h3
   clear h3
   go_wp2
   go_end0
   rw [RX.o]
   exact ⟨rfl,_,_,H3.o⟩
  ·have d:decide (i < 0)=true:=by simp; omega
   rw [if_neg hi] at RX
   have c:=H2.o.c.2.2.2.2.2.1
   have f:=H2.o.free 37
   go_wp2
   (try simp only [Exit.inBlock,Exit.then]); refine bodyPost_ret (results_none rfl _ _ _) rfl ?_
   rw [RX.o]
   exact ⟨rfl,_,_,H2.o.kC 4⟩
section
variable {P:Program} (w:World)
theorem Ld {ops:Array Oper} {rest:List Oper} {o:Oper} {a:Act} {Q:Exit->Act->World->Prop} (hgd:o.guard=none) (s x:Operand) (t:TypeId)
  (ho:o.op = .call { callee:=.builtin .append,args:=#[s,x],argTypes:=#[t,t] })
  (base:Nat) (e:TypeId) (i:TypeInfo) (z:Value) (size bytes:Nat) (ht:P.underlying t=some (.slice e)) (hi:P.info? e=some i) (hz:i.zero=some z)
  (hsize:i.size=size) (hby:i.bytes=bytes) (hzs:z.cells.size=size) (hsz:0 < size)
  (v:Value) (n:Nat) (xs:List Value) (hs:a.eval s=v) (hown:w.ownsRow base e size v n xs)
  (ad:Addr) (m c:Nat) (news:List Value) (hx:a.eval x = .slice (some ad) m c) (hl:news.length=m * size) (hnews:∀ j u,news[j]?=some u->w.cell? (ad.add j)=some u) (h1:∀ u∈news,u.oneCell'=true)
  (h63:n+m<=maxLen) (hbytes:(n+m) * bytes<=140737488355328) (hbase:base<=w.heap.size)
  (h:∀ v' w',w'.ownsRow base e size v' (n+m) (xs ++ news)->w.grownBy w' v.ownBlock->(v'.ownBlock=v.ownBlock\/v'.ownBlock=some w.heap.size)->wpList P ops Q rest (a.put o.dst v') w'):wpList P ops Q (o :: rest) a w:=by
 refine wpList_plain hgd fun K hK=>?_
 obtain ⟨v',w',hr,h2,h3,-,h5⟩:=run_append_own_at (P:=P) w base t o.type e i z size bytes ht hi hz hsize hby hzs hsz v n xs hown ad m c news hl hnews h1 h63 hbytes hbase
 unfold Oper.wp execOp
 simp only [ho,resolve,invoke,builtin,Sem.run_bind,Sem.run_pure,Result.andThen_ok,List.map_toArray,List.map_cons,List.map_nil,hs,hx,hr]
 exact hK _ _ (h v' w' h2 h3 h5)
end
section
variable {W0 W w3:World} {b g:Nat} {dW vd vo v':Value} {st:Mc.St} {ob:Obj}
theorem yv.uI (h:yv W0 b g dW st vd vo W) (hg:(W.alloc ob).grownBy w3 vo.ownBlock):yc w3 b (jD g dW st vd vo).toArray 93 :=
 (h.blk.grown (aH W ob none) (by simp)).grown hg (fun e=>h.apart.2.1 b e.symm rfl)
theorem yv.CO (h:yv W0 b g dW st vd vo W) (hg:(W.alloc ob).grownBy w3 vo.ownBlock):w3.cell? ⟨b,39,none⟩=some vo :=
 ((h.uI hg).cell 39).trans (List.getElem?_toArray.trans (Vv g dW st vd vo h.ok.regs 5))
theorem yv.Fv (h:yv W0 b g dW st vd vo W) (x:Int) (hx:st.o.length < 16) (hown:w3.ownsRow W0.heap.size 3 1 v' (st.o.length+1) (st.o.map (Value.int .i64) ++ [.int .i64 x])) (hg:(W.alloc ob).grownBy w3 vo.ownBlock) (hb:v'.ownBlock=vo.ownBlock\/v'.ownBlock=some (W.alloc ob).heap.size) :
  yv W0 b g dW { st with o:=st.o ++ [x] } vd v' (w3.setCell ⟨b,39,none⟩ v'):=by
 have hsz:(W.alloc ob).heap.size=W.heap.size+1:=Array.size_push _
 have hlt:=h.blk.lt
 have hv:∀ k,v'.ownBlock=some k->k≠b:=fun k e=>by
  rcases hb with hb | hb
  ·exact h.apart.2.1 k (by rw [<- hb]; exact e)
  ·rw [e,hsz] at hb; simp at hb; omega
 have hd:=(h.data.alloc ob).kept hg (by
  cases Fe:vo.ownBlock with
  | none=>cases hvd:vd.ownBlock <;> simp
  | some k=>right; intro c; exact h.apart.2.2 k c Fe)
 refine ⟨?_,Bc hd h.apart.1,?_,⟨h.apart.1,hv,fun k e=>?_⟩,h.lo,?_,⟨h.ok.regs,h.ok.words,h.ok.zero,h.ok.data,h.ok.j5,h.ok.pc,h.ok.next,by simp; omega,h.ok.steps,h.ok.read⟩⟩
 ·have:=(h.uI hg).set 39 v'
  rw [fQ,FX g dW st { st with o:=st.o ++ [x] } vd vo vd v' h.ok.regs rfl 5 v' rfl] at this
  exact this
 ·have:=Bc (b:=b) (o:=39) (u:=v') hown hv
  simpa using this
 ·intro c
  rcases hb with hb | hb
  ·exact h.apart.2.2 k e (by rw [<- hb]; exact c)
  ·rw [c,hsz] at hb
   have:=(h.data.lt k e).2
   simp at hb
   omega
 ·refine yN (yN (ya h.gr (aH W ob none)) hg (fun k e=>(h.o.lt k e).1)) (yf w3 b 39 v') (by intro k e; simp at e; have:=h.lo; omega)
end
set_option maxRecDepth 100000 in
theorem yot (W0:World) (b g:Nat) (dW:Value) (st:Mc.St) (vd vo:Value) (x:Int) (W:World) (h:yv W0 b g dW st vd vo W) :
  Calls Tryz.prog 183 #[.pointer (some ⟨b,0,none⟩),.int .i64 x] W fun e W'=>e = .returned (.tuple #[])/\kN W0 b g dW (if 16<=st.o.length then { st with dG:=6 } else { st with o:=st.o ++ [x] }) W':=by
 obtain ⟨i0,hi,hz0,hz1,hz2⟩:=info_parts Tryz.j6
 obtain ⟨ao,co,Fe⟩:=yh h.o
 subst Fe
 have H:=hid h
 have KU:=h.c.2.2.2.2.2.2.2.1
 have hcap:=pV h.o
 have hsz:=h.gr.size
 by_cases hl:16<=st.o.length
 ·have d:decide ((16:Int)<=(st.o.length:Int))=true:=by simp; omega
  have c:=h.c.2.2.2.2.2.1
  have f:=h.free 37
  rw [if_pos hl]
  clear h
  go_enter Tryz.func183,Tryz.ntmps183
  go_wp2
  (try simp only [Exit.inBlock,Exit.then]); refine bodyPost_ret (results_none rfl _ _ _) rfl ?_
  exact ⟨rfl,_,_,H.o.kC 6⟩
 ·have d:decide ((16:Int)<=(st.o.length:Int))=false:=by simp; omega
  rw [if_neg hl]
  have HO:=hid h.o
  clear h
  go_enter Tryz.func183,Tryz.ntmps183
  go_wp2_with (at_builtin; refine Ld _ rfl _ _ 35 rfl W0.heap.size 3 i0 (.int .i64 0) 1 8 Tryz.underlying35 hi hz0 hz1 hz2 rfl (by decide) _ _ _ rfl (HO.o.alloc _) ⟨W.heap.size,0,none⟩ 1 1 [.int .i64 x] rfl rfl (cell_one_new _ _ _) (by intro u hu; simp at hu; subst hu; rfl) (by unfold maxLen; omega) (by omega) (by simp; omega) ?_; intro v' w3 hown' hgrow hblk; obtain ⟨mY,cv',rfl⟩:=yh hown'; have KB:=H.o.uI hgrow; have f39:=KB.free 39; have k39:=H.o.CO hgrow; have K:=hid (H.o.Fv x (by omega) hown' hgrow hblk); clear hgrow hown' KB hblk)
  go_wp2
  go_end0
  exact ⟨rfl,_,_,K.o⟩
def aT (b:Nat):Value:=.pointer (some ⟨b,0,none⟩)
def ny (g:Nat):Array Value:=#[aT g,.slice none 0 0,.slice none 0 0,.slice none 0 0,.slice none 0 0,.int .i64 0,.int .i64 0]
structure nX (W0:World) (P:Nat) (bt bf bd:Int) (vm:Value) (bl gl:List Nat) (os:List Lk.Obj) (W:World):Prop where
 blk:yc W P #[.int .i64 bt,.int .i64 bf,.int .i64 bd,vm,.pointer none,.int .i64 0,.int .i64 0,.int .i64 0] 125
 row:W.ownsRow W0.heap.size 121 1 vm bl.length (bl.map aT)
 iB:gl.length=bl.length
 gy:os.length=bl.length
 mods:∀ i (h:i < bl.length),yc W bl[i] (ny (gl[i]'(by rw [iB]; exact h))) 130
 objs:∀ i (h:i < bl.length),yu W (gl[i]'(by rw [iB]; exact h)) (os[i]'(by rw [gy]; exact h))
 few:bl.length<=4096
 syms:∀ o∈os,o.syms.length<=65535
 lo:W0.heap.size<=P
 los:∀ b∈bl,W0.heap.size<=b
 gr:W0.grownBy W none
 nd:bl.Nodup
def bI (W:World) (row:Option Nat) (e:TypeId):Prop:=∀ k,row=some k->∃ cur,yc W k cur e
theorem bI.own {W:World} {B size n:Nat} {e:TypeId} {v:Value} {xs:List Value} (h:W.ownsRow B e size v n xs):bI W v.ownBlock e:=by
 intro k hk
 rcases h.2 with ⟨h1,_⟩ | ⟨g,cap,cur,hv,_,hg,_⟩
 ·rw [h1] at hk; simp [Value.ownBlock] at hk
 ·rw [hv] at hk
  simp only [Value.ownBlock,Option.some.injEq] at hk
  subst hk
  exact ⟨cur,hg⟩
theorem bI.blk {W:World} {b:Nat} {cs:Array Value} {e:TypeId} (h:yc W b cs e):bI W (some b) e:=fun k hk=>by
 simp only [Option.some.injEq] at hk
 subst hk
 exact ⟨cs,h⟩
theorem yK {W W':World} {row:Option Nat} {e t:TypeId} {b:Nat} {cs:Array Value} (h:yc W b cs t) (hg:W.grownBy W' row) (hr:bI W row e) (hne:t≠e):yc W' b cs t :=
 h.grown hg (fun c=>by
  obtain ⟨cur,hc⟩:=hr b c.symm
  have:=hc.symm.trans h
  simp at this
  exact hne this.2.symm)
theorem yy {W W':World} {row:Option Nat} {e t:TypeId} {B size n:Nat} {v:Value} {xs:List Value} (h:W.ownsRow B t size v n xs) (hg:W.grownBy W' row) (hr:bI W row e) (hne:t≠e):W'.ownsRow B t size v n xs :=
 h.kept hg (by
  cases hv:v.ownBlock with
  | none=>exact .inl rfl
  | some k =>
   right
   intro c
   obtain ⟨cur,hc⟩:=bI.own h k hv
   obtain ⟨Ya,hc2⟩:=hr k c.symm
   have:=hc.symm.trans hc2
   simp at this
   exact hne this.2)
theorem rP {W W':World} {row:Option Nat} {e:TypeId} {g:Nat} {o:Lk.Obj} (h:yu W g o) (hg:W.grownBy W' row) (hr:bI W row e) (h1:71≠e) (h2:3≠e) (h3:100≠e) (h4:102≠e):yu W' g o:=by
 obtain ⟨vt,vf,vd,va,vs,vr,hb,q1,q2,q3,q4,q5,q6⟩:=h
 exact ⟨vt,vf,vd,va,vs,vr,yK hb hg hr h1,yy q1 hg hr h2,yy q2 hg hr h2,yy q3 hg hr h2,yy q4 hg hr h2,yy q5 hg hr h3,yy q6 hg hr h4⟩
def lX (ts:List TypeId) (W W':World):Prop:=∀ k cs t,yc W k cs t->t ∉ ts->yc W' k cs t
theorem lX.grown {ts:List TypeId} {W W':World} (h:W.grownBy W' none):lX ts W W':=fun _ _ _ hb _=>hb.grown h (by simp)
theorem lX.trans {ts:List TypeId} {A B C:World} (h:lX ts A B) (k:lX ts B C):lX ts A C:=fun b cs t hb ht=>k b cs t (h b cs t hb ht) ht
theorem lX.row {ts:List TypeId} {W W':World} {row:Option Nat} {e:TypeId} (h:W.grownBy W' row) (hr:bI W row e) (he:e∈ts):lX ts W W':=fun _ _ _ hb ht=>yK hb h hr (fun c=>ht (c ▸ he))
theorem lX.own {ts:List TypeId} {W W':World} (h:lX ts W W') {B size n:Nat} {t:TypeId} {v:Value} {xs:List Value} (ho:W.ownsRow B t size v n xs) (ht:t ∉ ts):W'.ownsRow B t size v n xs:=by
 refine ⟨ho.1,?_⟩
 rcases ho.2 with q | ⟨g,cap,cur,hv,hb,hg,r⟩
 ·exact .inl q
 ·exact .inr ⟨g,cap,cur,hv,hb,h g cur t hg ht,r⟩
theorem lX.obj {ts:List TypeId} {W W':World} (h:lX ts W W') {g:Nat} {o:Lk.Obj} (ho:yu W g o) (h1:71 ∉ ts) (h2:3 ∉ ts) (h3:100 ∉ ts) (h4:102 ∉ ts):yu W' g o:=by
 obtain ⟨vt,vf,vd,va,vs,vr,hb,q1,q2,q3,q4,q5,q6⟩:=ho
 exact ⟨vt,vf,vd,va,vs,vr,h _ _ _ hb h1,h.own q1 h2,h.own q2 h2,h.own q3 h2,h.own q4 h2,h.own q5 h3,h.own q6 h4⟩
theorem Tryz.uD:(Tryz.prog.info? 121).map (fun i=>(i.zero,i.size,i.bytes))=some (some (.pointer none),1,8):=by kernel_rfl
section
variable {W0 W W':World} {P:Nat} {bt bf bd:Int} {vm:Value} {bl gl:List Nat} {os:List Lk.Obj}
theorem nX.kept (h:nX W0 P bt bf bd vm bl gl os W) (hg:W.grownBy W' none):nX W0 P bt bf bd vm bl gl os W' :=
 ⟨h.blk.grown hg (by simp),h.row.kept hg (by cases vm.ownBlock <;> simp),h.iB,h.gy,fun i hi=>(h.mods i hi).grown hg (by simp),fun i hi=>(h.objs i hi).kept hg,h.few,h.syms,h.lo,h.los,ya h.gr hg,h.nd⟩
theorem nX.ty {row:Option Nat} {e:TypeId} (h:nX W0 P bt bf bd vm bl gl os W) (hg:W.grownBy W' row) (hr:bI W row e) (hlo:∀ k,row=some k->W0.heap.size<=k) (h1:125≠e) (h2:121≠e) (h3:130≠e) (h4:71≠e) (h5:3≠e) (h6:100≠e) (h7:102≠e):nX W0 P bt bf bd vm bl gl os W' :=
 ⟨yK h.blk hg hr h1,yy h.row hg hr h2,h.iB,h.gy,fun i hi=>yK (h.mods i hi) hg hr h3,fun i hi=>rP (h.objs i hi) hg hr h4 h5 h6 h7,h.few,h.syms,h.lo,h.los,yN h.gr hg hlo,h.nd⟩
theorem nX.iW {am:Option Addr} {cm:Nat} (h:nX W0 P bt bf bd (.slice am bl.length cm) bl gl os W):rY W am bl os:=by
 refine ⟨fun hp=>?_,h.gy.symm,fun i h1 h2=>⟨_,(h.mods i h1).cell 0,h.objs i h1⟩,by rw [h.gy]; exact h.few,h.syms⟩
 obtain ⟨sg,hs,-,-,-,hc⟩:=F4 h.row hp
 refine ⟨sg,0,hs,fun i hi=>?_⟩
 rw [Nat.zero_add,hc i hi,List.getElem?_map,jF hi]
 rfl
theorem nX.more {og:Nat} {o:Lk.Obj} {w3:World} {v':Value} (h:nX W0 P bt bf bd vm bl gl os W) (ho:yu W og o) (hf:bl.length < 4096) (hs:o.syms.length<=65535)
  (hown:w3.ownsRow W0.heap.size 121 1 v' (bl.length+1) (bl.map aT ++ [aT W.heap.size])) (hg:((W.alloc (.cells (ny og) 130)).alloc (.cells #[aT W.heap.size] 121)).grownBy w3 vm.ownBlock) :
  nX W0 P bt bf bd v' (bl ++ [W.heap.size]) (gl ++ [og]) (os ++ [o]) (w3.setCell ⟨P,3,none⟩ v'):=by
 have A1:=aH W (.cells (ny og) 130) none
 have A2:=aH (W.alloc (.cells (ny og) 130)) (.cells #[aT W.heap.size] 121) none
 have A:=ya A1 A2
 have hA:=h.kept A
 have RT:=bI.own hA.row
 have BM:=(yc.new W (ny og) 130).grown A2 (by simp)
 have b3:=yK hA.blk hg RT (by decide)
 have RP:=bI.blk b3
 have gs:=yf w3 P 3 v'
 have hlt:=h.gr.size
 have hrow:∀ k,vm.ownBlock=some k->W0.heap.size<=k:=fun k e=>(h.row.lt k e).1
 refine ⟨?_,?_,by simp [h.iB],by simp [h.gy],?_,?_,by simp; omega,?_,h.lo,?_,?_,?_⟩
 ·have:=b3.set 3 v'
  rw [fQ] at this
  exact this
 ·have:=yy hown gs RP (by decide)
  simpa using this
 ·intro i hi
  have hg1:(gl ++ [og])[i]?=some ((gl ++ [og])[i]'(by simp [h.iB]; simpa using hi)):=jF _
  by_cases hlt2:i < bl.length
  ·have e1:(bl ++ [W.heap.size])[i]=bl[i]:=List.getElem_append_left hlt2
   have e2:(gl ++ [og])[i]'(by simp [h.iB]; omega)=gl[i]'(by rw [h.iB]; exact hlt2):=List.getElem_append_left _
   rw [e1,e2]
   exact yK (yK (hA.mods i hlt2) hg RT (by decide)) gs RP (by decide)
  ·have hi2:i=bl.length:=by simp at hi; omega
   subst hi2
   have e1:(bl ++ [W.heap.size])[bl.length]=W.heap.size:=by simp
   have e2:(gl ++ [og])[bl.length]'(by simp [h.iB])=og:=by simp [<- h.iB]
   rw [e1,e2]
   exact yK (yK BM hg RT (by decide)) gs RP (by decide)
 ·intro i hi
  by_cases hlt2:i < bl.length
  ·have e1:(os ++ [o])[i]'(by simp [h.gy]; omega)=os[i]'(by rw [h.gy]; exact hlt2):=List.getElem_append_left _
   have e2:(gl ++ [og])[i]'(by simp [h.iB]; omega)=gl[i]'(by rw [h.iB]; exact hlt2):=List.getElem_append_left _
   rw [e1,e2]
   exact rP (rP (hA.objs i hlt2) hg RT (by decide) (by decide) (by decide) (by decide)) gs RP (by decide) (by decide) (by decide) (by decide)
  ·have hi2:i=bl.length:=by simp at hi; omega
   subst hi2
   have e1:(os ++ [o])[bl.length]'(by simp [h.gy])=o:=by simp [<- h.gy]
   have e2:(gl ++ [og])[bl.length]'(by simp [h.iB])=og:=by simp [<- h.iB]
   rw [e1,e2]
   exact rP (rP (ho.kept A) hg RT (by decide) (by decide) (by decide) (by decide)) gs RP (by decide) (by decide) (by decide) (by decide)
 ·intro x hx
  rcases List.mem_append.1 hx with hx | hx
  ·exact h.syms x hx
  ·simp at hx; subst hx; exact hs
 ·intro x hx
  rcases List.mem_append.1 hx with hx | hx
  ·exact h.los x hx
  ·simp at hx; subst hx; exact hlt
 ·exact yN (yN (ya h.gr A) hg hrow) gs (by intro k e; simp at e; have:=h.lo; omega)
 ·rw [List.nodup_append]
  refine ⟨h.nd,by simp,fun a ha b hb=>?_⟩
  simp at hb
  subst hb
  obtain ⟨i,hi,rfl⟩:=List.getElem_of_mem ha
  exact Nat.ne_of_lt (h.mods i hi).lt
end
set_option maxRecDepth 100000 in
theorem VK (W0:World) (P:Nat) (bt bf bd:Int) (vm:Value) (bl gl:List Nat) (os:List Lk.Obj) (og:Nat) (o:Lk.Obj) (W:World) (h:nX W0 P bt bf bd vm bl gl os W) (ho:yu W og o) (hf:bl.length < 4096) (hs:o.syms.length<=65535) :
  Calls Tryz.prog 101 #[aT P,aT og] W fun e W'=>e = .returned (.tuple #[])/\(∃ JQ b,nX W0 P bt bf bd JQ (bl ++ [b]) (gl ++ [og]) (os ++ [o]) W')/\lX [121,125] W W':=by
 obtain ⟨i0,hi,hz0,hz1,hz2⟩:=info_parts Tryz.uD
 obtain ⟨am,cm,rfl⟩:=yh h.row
 have H:=hid h
 have HO:=hid ho
 have c3:W.cell? ⟨P,3,none⟩=some (.slice am bl.length cm):=h.blk.cell 3
 have hP:=h.blk.lt
 have hcap:=pV h.row
 have hsz:=h.gr.size
 have SZ:(W.alloc (.cells (ny og) 130)).heap.size=W.heap.size+1:=Array.size_push _
 have CN:=hid (show ∀ j u,[aT W.heap.size][j]?=some u->((W.alloc (.cells (ny og) 130)).alloc (.cells #[aT W.heap.size] 121)).cell? ((⟨W.heap.size+1,0,none⟩:Addr).add j)=some u by
  have:=cell_one_new (W.alloc (.cells (ny og) 130)) (aT W.heap.size) 121
  rw [SZ] at this
  exact this)
 have HR:=hid ((h.kept (ya (aH W (.cells (ny og) 130) none) (aH _ (.cells #[aT W.heap.size] 121) none))).row)
 have HB:=hid ((h.kept (ya (aH W (.cells (ny og) 130) none) (aH _ (.cells #[aT W.heap.size] 121) none))).blk)
 have HS:=hid (show W0.heap.size<=((W.alloc (.cells (ny og) 130)).alloc (.cells #[aT W.heap.size] 121)).heap.size from (h.kept (ya (aH W (.cells (ny og) 130) none) (aH _ (.cells #[aT W.heap.size] 121) none))).gr.size)
 clear h ho SZ
 unfold aT
 go_enter Tryz.func101,Tryz.ntmps101
 go_wp2_with (at_builtin; refine Ld _ rfl _ _ 120 rfl W0.heap.size 121 i0 (.pointer none) 1 8 Tryz.underlying120 hi hz0 hz1 hz2 rfl (by decide) _ _ _ rfl HR.o ⟨W.heap.size+1,0,none⟩ 1 1 [aT W.heap.size] rfl rfl CN.o (by intro u hu; simp at hu; subst hu; rfl) (by unfold maxLen; omega) (by omega) HS.o ?_; intro v' w3 hown' hgrow hblk; obtain ⟨mY,cv',rfl⟩:=yh hown'; have RT:=bI.own HR.o; have b3:=yK HB.o hgrow RT (by decide); have f3:=b3.free 3; have k3:=b3.cell 3; have K:=hid (H.o.more HO.o hf hs hown' hgrow); have FR:=hid (((lX.grown (ts:=[121,125]) (ya (aH W (.cells (ny og) 130) none) (aH _ (.cells #[aT W.heap.size] 121) none))).trans (lX.row hgrow RT (by decide))).trans (lX.row (yf w3 P 3 (.slice mY (bl.length+1) cv')) (bI.blk b3) (by decide))); clear hgrow hown' RT b3 hblk)
 go_end0
 exact ⟨rfl,⟨_,_,K.o⟩,FR.o⟩
structure qx (W:World) (mg:Nat) (gs:List Nat) (ms:List (Lk.Obj×Bool)):Prop where
 len:gs.length=ms.length
 row:∃ cur,yc W mg cur 159/\∀ i (h:i < ms.length),cur[i * 2]?=some (aT (gs[i]'(by rw [len]; exact h)))/\cur[i * 2+1]?=some (.bool ms[i].2)
 objs:∀ i (h:i < ms.length),yu W (gs[i]'(by rw [len]; exact h)) ms[i].1
 syms:∀ m∈ms,m.1.syms.length<=65535
def rO (ts:List TypeId) (mg:Nat) (W W':World):Prop:=∀ k cs t,yc W k cs t->t ∉ ts->k≠mg->yc W' k cs t
theorem rO.refl (ts:List TypeId) (mg:Nat) (W:World):rO ts mg W W:=fun _ _ _ h _ _=>h
theorem lX.x {ts:List TypeId} {A B:World} (h:lX ts A B) (mg:Nat):rO ts mg A B:=fun k cs t hb ht _=>h k cs t hb ht
theorem rO.trans {ts:List TypeId} {mg:Nat} {A B C:World} (h:rO ts mg A B) (k:rO ts mg B C):rO ts mg A C:=fun b cs t hb ht hn=>k b cs t (h b cs t hb ht hn) ht hn
theorem rO.set (ts:List TypeId) (W:World) (mg o:Nat) (v:Value):rO ts mg W (W.setCell ⟨mg,o,none⟩ v):=fun _ _ _ hb _ hn=>hb.grown (yf W mg o v) (by simp; omega)
def qA (ms:List (Lk.Obj×Bool)):Nat:=(ms.filter fun m=>!m.2).length
section
variable {W W':World} {mg:Nat} {gs:List Nat} {ms:List (Lk.Obj×Bool)}
theorem qx.frame {ts:List TypeId} (h:qx W mg gs ms) (hf:lX ts W W') (h0:159 ∉ ts) (h1:71 ∉ ts) (h2:3 ∉ ts) (h3:100 ∉ ts) (h4:102 ∉ ts):qx W' mg gs ms:=by
 obtain ⟨cur,hb,hc⟩:=h.row
 exact ⟨h.len,⟨cur,hf _ _ _ hb h0,hc⟩,fun i hi=>hf.obj (h.objs i hi) h1 h2 h3 h4,h.syms⟩
theorem qx.kept (h:qx W mg gs ms) (hg:W.grownBy W' none):qx W' mg gs ms:=h.frame (ts:=[]) (lX.grown hg) (by simp) (by simp) (by simp) (by simp) (by simp)
theorem qx.cells (h:qx W mg gs ms) (i:Nat) (hi:i < ms.length):W.cell? ⟨mg,i * 2,none⟩=some (aT (gs[i]'(by rw [h.len]; exact hi)))/\W.cell? ⟨mg,i * 2+1,none⟩=some (.bool ms[i].2)/\W.frozen? ⟨mg,i * 2+1,none⟩=false:=by
 obtain ⟨cur,hb,hc⟩:=h.row
 exact ⟨(hb.cell _).trans (hc i hi).1,(hb.cell _).trans (hc i hi).2,hb.free _⟩
theorem qx.put (h:qx W mg gs ms) (i:Nat) (hi:i < ms.length):qx (W.setCell ⟨mg,i * 2+1,none⟩ (.bool true)) mg gs (ms.set i (ms[i].1,true)):=by
 obtain ⟨cur,hb,hc⟩:=h.row
 have RT:=bI.blk hb
 have gs':=yf W mg (i * 2+1) (.bool true)
 have hsz:i * 2+1 < cur.size:=by
  have:=(hc i hi).2
  exact (Array.getElem?_eq_some_iff.1 this).1
 refine ⟨by rw [List.length_set]; exact h.len,⟨_,hb.set (i * 2+1) (.bool true),fun j hj=>?_⟩,fun j hj=>?_,fun m hm=>?_⟩
 ·rw [List.length_set] at hj
  rw [Array.getElem?_setIfInBounds,Array.getElem?_setIfInBounds,if_neg (by omega)]
  refine ⟨(hc j hj).1,?_⟩
  by_cases e:i=j
  ·subst e
   rw [if_pos rfl,if_pos hsz,List.getElem_set_self]
  ·rw [if_neg (by omega),List.getElem_set_ne e]
   exact (hc j hj).2
 ·rw [List.length_set] at hj
  have e:(ms.set i (ms[i].1,true))[j].1=ms[j].1:=by
   by_cases e:i=j
   ·subst e; rw [List.getElem_set_self]
   ·rw [List.getElem_set_ne e]
  rw [e]
  exact rP (h.objs j hj) gs' RT (by decide) (by decide) (by decide) (by decide)
 ·obtain ⟨j,hj,rfl⟩:=List.getElem_of_mem hm
  rw [List.length_set] at hj
  by_cases e:i=j
  ·subst e; rw [List.getElem_set_self]; exact h.syms ms[i] (gW hi)
  ·rw [List.getElem_set_ne e]; exact h.syms _ (gW hj)
end
theorem Vt (ms:List (Lk.Obj×Bool)) (k:Nat) (os:List Lk.Obj) (h:k < ms.length):Ln.pass (ms.drop k) os=if ms[k].2=false/\Ln.needs os ms[k].1=true then ((ms[k].1,true) :: (Ln.pass (ms.drop (k+1)) (os ++ [ms[k].1])).1,(Ln.pass (ms.drop (k+1)) (os ++ [ms[k].1])).2.1,true) else (ms[k] :: (Ln.pass (ms.drop (k+1)) os).1,(Ln.pass (ms.drop (k+1)) os).2.1,(Ln.pass (ms.drop (k+1)) os).2.2):=by
 rw [kP h]
 generalize ms[k]=m
 obtain ⟨o,t⟩:=m
 rw [Ln.pass]
theorem UG:∀ (ms:List (Lk.Obj×Bool)) (i:Nat) (h:i < ms.length) (o:Lk.Obj),ms[i].2=false->qA (ms.set i (o,true))+1=qA ms:=by
 intro ms
 induction ms with
 | nil=>intro i h; simp at h
 | cons m ms ih =>
  intro i h o hf
  obtain ⟨mo,mt⟩:=m
  cases i with
  | zero =>
   simp only [om] at hf
   subst hf
   simp [qA]
  | succ i =>
   have:=ih i (by simpa using h) o (by simpa using hf)
   unfold qA at this ⊢
   simp only [fT,List.filter_cons]
   split <;> (try simp only [iE]) <;> omega
theorem ynh (ms:List (Lk.Obj×Bool)):qA ms<=ms.length:=List.length_filter_le _ _
structure vP (ms1:List (Lk.Obj×Bool)) (os1:List Lk.Obj) (j:Nat) (ms2:List (Lk.Obj×Bool)) (os2:List Lk.Obj) (more:Bool):Prop where
 len:ms2.length=ms1.length
 rest:ms2.drop j=ms1.drop j
 eq:Ln.pass ms1 os1=(ms2.take j ++ (Ln.pass (ms1.drop j) os2).1,(Ln.pass (ms1.drop j) os2).2.1,more || (Ln.pass (ms1.drop j) os2).2.2)
 un:qA ms2+(if more then 1 else 0)<=qA ms1
theorem vP.start (ms:List (Lk.Obj×Bool)) (os:List Lk.Obj):vP ms os 0 ms os false:=⟨rfl,rfl,by simp,by simp⟩
theorem vP.at {ms1 ms2:List (Lk.Obj×Bool)} {os1 os2:List Lk.Obj} {j:Nat} {more:Bool} (h:vP ms1 os1 j ms2 os2 more) (hj:j < ms1.length):ms2[j]'(by rw [h.len]; exact hj)=ms1[j]:=by
 have e:=h.rest
 rw [kP (by rw [h.len]; exact hj),kP hj] at e
 exact (List.cons.inj e).1
theorem vP.yes {ms1 ms2:List (Lk.Obj×Bool)} {os1 os2:List Lk.Obj} {j:Nat} {more:Bool} (h:vP ms1 os1 j ms2 os2 more) (hj:j < ms1.length) (hj2:j < ms2.length) (h1:ms2[j].2=false) (h2:Ln.needs os2 ms2[j].1=true):vP ms1 os1 (j+1) (ms2.set j (ms2[j].1,true)) (os2 ++ [ms2[j].1]) true:=by
 have ea:=h.at hj
 have e:=h.eq
 rw [Vt ms1 j os2 hj,<- ea,if_pos ⟨h1,h2⟩] at e
 refine ⟨by rw [List.length_set]; exact h.len,?_,?_,?_⟩
 ·have r:=h.rest
  rw [List.drop_set_of_lt (by omega),<- List.drop_drop (i:=1) (j:=j),<- List.drop_drop (i:=1) (j:=j) (l:=ms1),r]
 ·rw [e]
  have t:(ms2.set j (ms2[j].1,true)).take (j+1)=ms2.take j ++ [(ms2[j].1,true)]:=by
   rw [List.take_succ_eq_append_getElem (by rw [List.length_set]; exact hj2),List.getElem_set_self,List.take_set_of_le (by omega)]
  rw [t]
  simp
 ·have:=UG ms2 j hj2 ms2[j].1 h1
  have u:=h.un
  simp only [if_true]
  omega
theorem vP.no {ms1 ms2:List (Lk.Obj×Bool)} {os1 os2:List Lk.Obj} {j:Nat} {more:Bool} (h:vP ms1 os1 j ms2 os2 more) (hj:j < ms1.length) (hj2:j < ms2.length) (h1:¬ (ms2[j].2=false/\Ln.needs os2 ms2[j].1=true)):vP ms1 os1 (j+1) ms2 os2 more:=by
 have ea:=h.at hj
 have e:=h.eq
 rw [Vt ms1 j os2 hj,<- ea,if_neg h1] at e
 refine ⟨h.len,?_,?_,h.un⟩
 ·have r:=h.rest
  rw [<- List.drop_drop (i:=1) (j:=j),<- List.drop_drop (i:=1) (j:=j) (l:=ms1),r]
 ·rw [e,List.take_succ_eq_append_getElem hj2,List.append_assoc]
  rfl
theorem vP.fin {ms1 ms2:List (Lk.Obj×Bool)} {os1 os2:List Lk.Obj} {j:Nat} {more:Bool} (h:vP ms1 os1 j ms2 os2 more) (hj:j=ms1.length):Ln.pass ms1 os1=(ms2,os2,more):=by
 have e:=h.eq
 subst hj
 rw [List.drop_length,Ln.pass,List.take_of_length_le (by rw [h.len]; exact Nat.le_refl _)] at e
 rw [e]
 simp
set_option maxRecDepth 100000 in
theorem Zu (W0:World) (P:Nat) (bt bf bd:Int) (vm:Value) (bl gl:List Nat) (os:List Lk.Obj) (mg cm:Nat) (gs:List Nat) (ms:List (Lk.Obj×Bool)) (W:World) (h:nX W0 P bt bf bd vm bl gl os W) (hm:qx W mg gs ms) (hc:bl.length+qA ms<=4096) (hml:W0.heap.size<=mg) (hn:ms.length<=4096) (hcm:ms.length<=cm/\cm<=maxLen) :
  Calls Tryz.prog 100 #[aT P,.slice (some ⟨mg,0,none⟩) ms.length cm] W fun e W'=>e = .returned (.tuple #[])/\(∃ JQ Jb Oa,nX W0 P bt bf bd JQ Jb Oa (Ln.fZ (ms.length+1) ms os) W'/\Jb.length<=bl.length+qA ms)/\rO [121,125] mg W W':=by
 have H:=hid h
 have HM:=hid hm
 have hcm1:=hcm.2
 unfold maxLen at hcm1
 clear h hm
 unfold aT
 go_enter Tryz.func100,Tryz.ntmps100
 obtain ⟨T,hT⟩:∃ T,T=Ln.fZ (ms.length+1) ms os:=⟨_,rfl⟩
 rw [<- hT]
 have HT:=hid hT
 clear hT
 have hu:=ynh ms
 go_wp2
 go_loopg [4] (ms.length+1) (fun g mo wr=>∃ (more:Bool) (ms1:List (Lk.Obj×Bool)) (os1:List Lk.Obj) (Jc KZ:List Nat) (Lb:Value),mo = .bool more/\nX W0 P bt bf bd Lb Jc KZ os1 wr/\qx wr mg gs ms1/\ms1.length=ms.length/\Jc.length+qA ms1<=bl.length+qA ms/\rO [121,125] mg W wr/\(more=true->qA ms1+1<=g/\T=Ln.fZ g ms1 os1)/\(more=false->T=os1))
 case atStart=>exact ⟨true,ms,os,bl,gl,vm,rfl,H.o,HM.o,rfl,Nat.le_refl _,rO.refl _ _ _,fun _=>⟨by omega,HT.o⟩,fun c=>by cases c⟩
 case round =>
  obtain ⟨more,ms1,os1,Jc,KZ,Lb,rfl,hg,hm,hl,hb,hfr,hy,hno⟩:=hrel
  cases more with
  | false =>
   have E:=hid (hno rfl)
   have HG:=hid hg
   have Gr:=hid hfr
   clear hg hm hfr hy hno
   go_wp2
   go_end0
   rw [E.o]
   exact ⟨rfl,⟨Lb,Jc,KZ,HG.o,by omega⟩,Gr.o⟩
  | true =>
   obtain ⟨hk,hE⟩:=hy rfl
   obtain ⟨gk',rfl⟩:∃ k,gk=k+1:=⟨gk - 1,by omega⟩
   have E:=hid hE
   have HG:=hid hg
   have Gt:=hid hm
   have Gr:=hid hfr
   clear hg hm hfr hy hno hE
   obtain ⟨U,hU⟩:∃ U:World,U=wr:=⟨_,rfl⟩
   subst hU
   go_wp2
   go_loopw [4,9] (fun mo i wr=>∃ (j:Nat) (qI:Bool) (ms2:List (Lk.Obj×Bool)) (os2:List Lk.Obj) (ug zl:List Nat) (CX:Value),j<=ms.length/\i = .int .i64 j/\mo = .bool qI/\nX W0 P bt bf bd CX ug zl os2 wr/\qx wr mg gs ms2/\vP ms1 os1 j ms2 os2 qI/\ug.length+qA ms2<=bl.length+qA ms/\rO [121,125] mg W wr) (fun _ i _=>ms.length - (intOf i).toNat)
   case atStart=>exact ⟨0,false,ms1,os1,Jc,KZ,Lb,Nat.zero_le _,rfl,rfl,HG.o,Gt.o,vP.start _ _,hb,Gr.o⟩
   case round =>
    obtain ⟨j,qI,ms2,os2,ug,zl,CX,hj,rfl,rfl,hg2,hm2,hp2,hb2,hf2⟩:=hrel
    have HG2:=hid hg2
    have Dq:=hid hm2
    have xQ:=hid hp2
    have lS:=hid hf2
    clear hg2 hm2 hp2 hf2
    by_cases hlt:j < ms.length
    ·have hj1:j < ms1.length:=by omega
     have hj2:j < ms2.length:=by rw [xQ.o.len]; exact hj1
     obtain ⟨m0,m1,Ow⟩:=Dq.o.cells j hj2
     have g1:(j:Int) < (ms.length:Int):=by omega
     have YES:=hid (xQ.o.yes hj1 hj2)
     have NO:=hid (xQ.o.no hj1 hj2)
     have OB:=hid (Dq.o.objs j hj2)
     have SY:=Dq.o.syms ms2[j] (gW hj2)
     have PT:=hid (fun V (hV:qx V mg gs ms2)=>hV.put j hj2)
     have US:=hid (UG ms2 j hj2 ms2[j].1)
     generalize ms2[j]=mj at *
     obtain ⟨oj,tj⟩:=mj
     dsimp only at *
     unfold aT at m0
     generalize hgj:gs[j]'_=gj at *
     have Q0:=hid hgj
     clear hgj
     cases tj with
     | true =>
      have E2:=hid (NO.o (fun c=>by cases c.1))
      go_wp2
      go_roundw
      case rel=>exact ⟨j+1,qI,ms2,os2,ug,zl,CX,by omega,by go_num,rfl,HG2.o,Dq.o,E2.o,hb2,lS.o⟩
      case measure=>simp [intOf]; omega
     | false =>
      obtain ⟨am,Sq,Yz⟩:=yh HG2.o.row
      subst Yz
      have c3:wr.cell? ⟨P,3,none⟩=some (.slice am ug.length Sq):=HG2.o.blk.cell 3
      have cN:=hid (yok P am Sq ug os2 gj oj wr c3 HG2.o.iW OB.o SY)
      clear c3
      go_wp2_with fail
      refine cN.o.mono ?_
      rintro e W5 ⟨rfl,h5⟩
      have KH:=hid (HG2.o.kept h5)
      have Dr:=hid (Dq.o.kept h5)
      have QV:=hid (lS.o.trans ((lX.grown h5).x mg))
      have KP:=hid (OB.o.kept h5)
      have m0':=yd m0 h5
      have YJ:=yd m1 h5
      clear h5 cN m0 m1 Ow
      obtain ⟨-,-,Ow⟩:=Dr.o.cells j hj2
      cases hn2:Ln.needs os2 oj with
      | false =>
       have E2:=hid (NO.o (fun c=>by rw [hn2] at c; cases c.2))
       clear hn2
       go_wp2
       go_roundw
       case rel=>exact ⟨j+1,qI,ms2,os2,ug,zl,_,by omega,by go_num,rfl,KH.o,Dr.o,E2.o,hb2,QV.o⟩
       case measure=>simp [intOf]; omega
      | true =>
       have E2:=hid (YES.o trivial hn2)
       have hus:=US.o trivial
       clear hn2
       obtain ⟨cur,hcb,-⟩:=Dr.o.row
       have RM:=bI.blk hcb
       have GS:=yf W5 mg (j * 2+1) (.bool true)
       have Iz:=hid (KH.o.ty GS RM (by intro k e; simp at e; omega) (by decide) (by decide) (by decide) (by decide) (by decide) (by decide) (by decide))
       have tN:=hid (PT.o W5 Dr.o)
       have XV:=hid (rP KP.o GS RM (by decide) (by decide) (by decide) (by decide))
       have XF:=hid (QV.o.trans (rO.set _ W5 mg (j * 2+1) (.bool true)))
       have n0:(W5.setCell ⟨mg,j * 2+1,none⟩ (.bool true)).cell? ⟨mg,j * 2,none⟩=some (.pointer (some ⟨gj,0,none⟩)):=by
        obtain ⟨q0,-,-⟩:=tN.o.cells j (by rw [List.length_set]; exact hj2)
        exact q0.trans (by rw [<- Q0.o]; rfl)
       clear hcb RM GS PT
       have cT:=hid (VK W0 P bt bf bd _ ug zl os2 gj oj _ Iz.o XV.o (by omega) SY)
       unfold aT at cT
       go_wp2_with fail
       refine cT.o.mono ?_
       rintro e W7 ⟨rfl,⟨Tn,b7,h7⟩,f7⟩
       have IB:=hid h7
       have jA:=hid (tN.o.frame f7 (by decide) (by decide) (by decide) (by decide) (by decide))
       have Iy:=hid (XF.o.trans (f7.x mg))
       clear h7 f7 cT n0 m0' YJ Ow
       go_wp2
       go_roundw
       case rel=>exact ⟨j+1,true,_,_,_,_,_,by omega,by go_num,rfl,IB.o,jA.o,E2.o,by simp; omega,Iy.o⟩
       case measure=>simp [intOf]; omega
    ·obtain rfl:j=ms.length:=by omega
     have E2:=hid (xQ.o.fin (by omega))
     have g3:decide ((ms.length:Int) < (ms.length:Int))=false:=by simp
     have TE:=hid (show T=if (Ln.pass ms1 os1).2.2=true then Ln.fZ gk' (Ln.pass ms1 os1).1 (Ln.pass ms1 os1).2.1 else (Ln.pass ms1 os1).2.1 from E.o)
     rw [E2.o] at TE
     dsimp only at TE
     have hun:=xQ.o.un
     have hl2:=xQ.o.len
     go_wp2
     go_roundg gk'
     case measure=>omega
     case rel =>
      refine ⟨qI,ms2,os2,ug,zl,CX,rfl,HG2.o,Dq.o,by omega,hb2,lS.o,fun c=>?_,fun c=>?_⟩
      ·subst c
       simp only [if_true] at hun
       exact ⟨by omega,by rw [TE.o,if_pos rfl]⟩
      ·subst c
       rw [TE.o,if_neg (by decide)]
theorem Tryz.zx:(Tryz.prog.info? 5).map (fun i=>(i.zero,i.size,i.bytes))=some (some (.int .u8 0),1,1):=by kernel_rfl
def xw (l:List UInt8):List Value:=l.map fun c=>.int .u8 c.toNat
def gD (W:World) (b:Nat) (l:List UInt8):Prop :=
 ∃ ao cap,yc W b #[.slice ao l.length cap] 105/\W.ownsRow (b+1) 5 1 (.slice ao l.length cap) l.length (xw l)
theorem VO (W:World):gD (W.alloc (.cells #[.slice none 0 0] 105)) W.heap.size [] :=
 ⟨none,0,yc.new W _ _,World.ownsRow_nil _ _ _ _⟩
theorem ymw (n:Int):bits .and .i64 n 255=n % 256:=by
 have Ob:(BitVec.ofInt 64 255).toNat=2 ^ 8 - 1:=by decide
 have key:(BitVec.ofInt 64 n &&& BitVec.ofInt 64 255).toNat=(n % ((2 ^ 64:Nat):Int)).toNat % 2 ^ 8:=by
  rw [BitVec.toNat_and,BitVec.toNat_ofInt,Ob,Nat.and_two_pow_sub_one_eq_mod]
 show IntKind.i64.wrap ((BitVec.ofInt 64 n &&& BitVec.ofInt 64 255).toNat:Nat)=n % 256
 rw [key,IntKind.wrap_i64]
 omega
def zK (x:Int):UInt8:=UInt8.ofNat (x % 256).toNat
theorem ypm (x:Int):((zK x).toNat:Int)=bits .and .i64 x 255 % 256:=by
 rw [ymw]
 unfold zK
 rw [UInt8.toNat_ofNat']
 omega
theorem ypn {w:World} {base:Nat} {v:Value} {n:Nat} {xs:List Value} {x:Int} (h:w.ownsRow base 5 1 v n (xs ++ [.int .u8 (bits .and .i64 x 255 % 256)])):w.ownsRow base 5 1 v n (xs ++ [.int .u8 (zK x).toNat]):=by
 rw [ypm]; exact h
def Df (b:Nat) (w w':World):Prop:=∀ k cs t,k≠b->t≠5->yc w k cs t->yc w' k cs t
theorem Df.refl (b:Nat) (w:World):Df b w w:=fun _ _ _ _ _ h=>h
theorem Df.trans {b:Nat} {x y z:World} (h:Df b x y) (k:Df b y z):Df b x z:=fun i cs t hi ht hb=>k i cs t hi ht (h i cs t hi ht hb)
def Wk (b:Nat) (w w':World):Prop:=Below b w w'/\Df b w w'
theorem Wk.refl (b:Nat) (w:World):Wk b w w:=⟨Below.refl _ _,Df.refl _ _⟩
theorem Wk.trans {b:Nat} {x y z:World} (h:Wk b x y) (k:Wk b y z):Wk b x z:=⟨h.1.trans k.1,h.2.trans k.2⟩
theorem Wk.alloc {b:Nat} {x y:World} (h:Wk b x y) (hb:b<=y.heap.size) (o:Obj):Wk b x (y.alloc o) :=
 ⟨h.1.alloc hb o,h.2.trans fun _ _ _ _ _ hk=>hk.grown (aH y o none) (by simp)⟩
theorem ypg {wr w1:World} {b:Nat} {o:Obj} {base:Nat} {v0:Value} {n:Nat} {xs:List Value} (hown:wr.ownsRow base 5 1 v0 n xs) (hg:(wr.alloc o).grownBy w1 v0.ownBlock) (v:Value):Df b wr (w1.setCell ⟨b,0,none⟩ v):=by
 intro k cs t hk ht hb
 have h1:=hb.grown (aH wr o none) (by simp)
 have h2:yc w1 k cs t:=h1.grown hg (by
  rcases hown.2 with ⟨rfl,_⟩ | ⟨g,cap,cur,rfl,_,hh,_⟩
  ·simp [Value.ownBlock]
  ·intro e
   simp only [Value.ownBlock,Option.some.injEq] at e
   subst e
   unfold yc at hb
   rw [hb] at hh
   simp only [Option.some.injEq,Obj.cells.injEq] at hh
   exact ht hh.2.1)
 exact h2.grown (yf w1 b 0 v) (by simpa using hk)
theorem Qv {w wr w1:World} {b:Nat} {l:List UInt8} {ao:Option Addr} {cap:Nat} {o:Obj} {v:Value} {c:UInt8} (hb:yc wr b #[.slice ao l.length cap] 105) (hwk:Wk b w wr) (hown0:wr.ownsRow (b+1) 5 1 (.slice ao l.length cap) l.length (xw l))
  (hg:(wr.alloc o).grownBy w1 (Value.ownBlock (.slice ao l.length cap))) (hrow:∀ g,Value.ownBlock (.slice ao l.length cap)=some g->b+1<=g) (hown:w1.ownsRow (b+1) 5 1 v (l.length+1) (xw l ++ [.int .u8 c.toNat])) :
  gD (w1.setCell ⟨b,0,none⟩ v) b (l ++ [c])/\Wk b w (w1.setCell ⟨b,0,none⟩ v):=by
 have hkt:=ypg (b:=b) hown0 hg v
 have hB1:yc w1 b #[.slice ao l.length cap] 105:=(hb.grown (aH wr o none) (by simp)).grown hg (fun e=>by have:=hrow b e.symm; omega)
 obtain ⟨fA,cap',rfl⟩:=yh hown
 have hlen:(l ++ [c]).length=l.length+1:=by simp
 refine ⟨⟨fA,cap',?_,?_⟩,?_⟩
 ·rw [hlen]
  exact hB1.set 0 _
 ·have e:xw (l ++ [c])=xw l ++ [.int .u8 c.toNat]:=by simp [xw]
  rw [hlen,e]
  exact ownsRow_setCell_below hown (Nat.lt_succ_self b) _
 ·refine ⟨?_,hwk.2.trans hkt⟩
  exact ((hwk.1.alloc (Nat.le_of_lt hb.lt) o).grown hg (by have:=hb.lt; simp; omega) (fun g hg=>by have:=hrow g hg; omega)).setCell (Nat.le_refl b) _
theorem Ht {wr w1:World} {b:Nat} {cs:Array Value} {t:TypeId} {o:Obj} {row:Option Nat} (hb:yc wr b cs t) (hg:(wr.alloc o).grownBy w1 row) (hrow:∀ g,row=some g->b+1<=g):yc w1 b cs t :=
 (hb.grown (aH wr o none) (by simp)).grown hg (fun e=>by have:=hrow b e.symm; omega)
theorem UJ (b:Nat) (n:Int) (size:Nat) (l:List UInt8) (w:World) (h:gD w b l) (hl:l.length<=16777216) (hs:size<=4) (hn0:-1099511627776<=n) (hn1:n<=1099511627776) :
  Calls Tryz.prog 58 #[.pointer (some ⟨b,0,none⟩),.int .i64 n,.int .i64 size] w fun e w'=>e = .returned (.tuple #[])/\gD w' b (l ++ Lk.le n size)/\Wk b w w':=by
 obtain ⟨i0,hi,hz0,hz1,hz2⟩:=info_parts Tryz.zx
 have H:=hid h
 clear h
 go_enter Tryz.func58,Tryz.ntmps58
 go_wp2
 go_loopw [1,6] (fun m i wr=>∃ (k:Nat) (x:Int),k<=size/\i = .int .i64 k/\m = .int .i64 x/\-1099511627776<=x/\x<=1099511627776/\(∃ acc:List UInt8,acc.length=l.length+k/\gD wr b acc/\l ++ Lk.le n size=acc ++ Lk.le x (size - k))/\Wk b w wr) (fun _ i _=>size - (intOf i).toNat)
 case atStart=>exact ⟨0,n,Nat.zero_le _,rfl,rfl,hn0,hn1,⟨l,rfl,H.o,by simp⟩,Wk.refl _ _⟩
 case round =>
  obtain ⟨k,x,hk,rfl,rfl,hx0,hx1,hdone,hbel⟩:=hrel
  have HD:=hid hdone
  have HB:=hid hbel
  clear hdone hbel
  by_cases hlt:k < size
  ·obtain ⟨acc,hdl,hw,hle⟩:=HD.o
   obtain ⟨ao,cap,hblk,hown⟩:=hw
   have c0:=hblk.cell 0
   have f0:=hblk.free 0
   have hbl:=hblk.lt
   have xg:=hid hblk
   have KL:=hid hle
   have KA:=hid hdl
   have Oi:acc.length<=16777220:=by omega
   have hrow:=hid (show ∀ g,Value.ownBlock (.slice ao acc.length cap)=some g->b+1<=g from fun g hg=>(hown.lt g hg).1)
   clear hblk hle hdl HD
   go_wp2_with (at_builtin; refine wpList_append_own _ rfl _ _ 42 rfl (b+1) 5 i0 (.int .u8 0) 1 1 Tryz.underlying42 hi hz0 hz1 hz2 rfl (by decide) (.slice ao acc.length cap) acc.length (xw acc) rfl (hown.alloc _) ⟨wr.heap.size,0,none⟩ 1 1 [.int .u8 (bits .and .i64 x 255 % 256)] rfl rfl (cell_one_new _ _ _) (by intro u hu; simp at hu; subst hu; rfl) (by unfold maxLen; omega) (by omega) (by simp; omega) ?_; intro v' w3 hown' hgrow _; obtain ⟨fA,cap',rfl⟩:=yh hown'; have m0:=(Ht xg.o hgrow hrow.o).cell 0; have n0:=(Ht xg.o hgrow hrow.o).free 0; have P:=hid (Qv xg.o HB.o hown hgrow hrow.o (ypn hown')); clear hown' hgrow hown c0 f0)
   go_roundw
   case rel =>
    refine ⟨k+1,x / 256,by omega,by go_num,rfl,by omega,by omega,⟨acc ++ [zK x],?_,P.o.1,?_⟩,P.o.2⟩
    ·have:=KA.o; simp; omega
    ·have e:size - k=(size - (k+1))+1:=by omega
     rw [KL.o,e]
     simp [Lk.le,zK]
   case measure=>simp [intOf]; omega
  ·go_wp2
   go_end0
   obtain ⟨acc,hdl,hw,hle⟩:=HD.o
   have e:size - k=0:=by omega
   rw [e] at hle
   simp only [Lk.le,List.append_nil] at hle
   rw [hle]
   exact ⟨rfl,hw,HB.o⟩
theorem WC (s:ByteArray) (k:Nat) (h:k < s.size):(sl s).take (k+1)=(sl s).take k ++ [s[k]]:=by
 have h':k < s.data.toList.length:=by rw [Array.length_toList]; exact h
 unfold sl
 rw [List.take_succ_eq_append_getElem h']
 rfl
theorem Pq (b:Nat) (s:ByteArray) (l:List UInt8) (w:World) (h:gD w b l) (hl:l.length<=16777216) (hs:s.size<=1048576) :
  Calls Tryz.prog 57 #[.pointer (some ⟨b,0,none⟩),.string s] w fun e w'=>e = .returned (.tuple #[])/\gD w' b (l ++ sl s)/\Wk b w w':=by
 obtain ⟨i0,hi,hz0,hz1,hz2⟩:=info_parts Tryz.zx
 have H:=hid h
 clear h
 go_enter Tryz.func57,Tryz.ntmps57
 go_wp2
 go_loopw [4] (fun i wr=>∃ (k:Nat),k<=s.size/\i = .int .i64 k/\(∃ acc:List UInt8,acc.length=l.length+k/\gD wr b acc/\l ++ (sl s).take k=acc)/\Wk b w wr) (fun i _=>s.size - (intOf i).toNat)
 case atStart=>exact ⟨0,Nat.zero_le _,rfl,⟨l,rfl,H.o,by simp⟩,Wk.refl _ _⟩
 case round =>
  obtain ⟨k,hk,rfl,hdone,hbel⟩:=hrel
  have HD:=hid hdone
  have HB:=hid hbel
  clear hdone hbel
  by_cases hlt:k < s.size
  ·obtain ⟨acc,hdl,hw,hle⟩:=HD.o
   obtain ⟨ao,cap,hblk,hown⟩:=hw
   have c0:=hblk.cell 0
   have f0:=hblk.free 0
   have hbl:=hblk.lt
   have xg:=hid hblk
   have KL:=hid hle
   have KA:=hid hdl
   have Oi:acc.length<=33554432:=by omega
   have hrow:=hid (show ∀ g,Value.ownBlock (.slice ao acc.length cap)=some g->b+1<=g from fun g hg=>(hown.lt g hg).1)
   have HOW:=hid hown
   have hne:=World.new_ne wr ⟨b,0,none⟩ (by simpa using c0)
   have g1:(0:Int)<=(k:Int):=by omega
   have g2:(k:Int) < (s.size:Int):=by omega
   have hA:Hd ((wr.alloc (.cells #[.int .u8 s[k].toNat] 5)).drew.ownsRow (b+1) 5 1 (.slice ao acc.length cap) acc.length (xw acc)):=(hown.alloc _).drew
   have hN:Hd (∀ j u,[Value.int .u8 s[k].toNat][j]?=some u->(wr.alloc (.cells #[.int .u8 s[k].toNat] 5)).drew.cell? ((⟨wr.heap.size,0,none⟩:Addr).add j)=some u):=World.news_of_block (heap_alloc_new wr (.cells #[.int .u8 s[k].toNat] 5))
   have gQ:Hd (∀ u∈[Value.int .u8 (s[k].toNat:Int)],u.oneCell'=true):=by intro u hu; simp at hu; subst hu; rfl
   have h63:Hd (acc.length+1<=maxLen):=by show _<=_; unfold maxLen; omega
   have hby:Hd ((acc.length+1) * 1<=140737488355328):=by show _<=_; omega
   have hbs:Hd (b+1<=(wr.alloc (.cells #[.int .u8 s[k].toNat] 5)).drew.heap.size):=by show _<=_; simp; omega
   have SE:Hd ((wr.alloc (.cells #[.int .u8 s[k].toNat] 5)).drew.heap.size=wr.heap.size+1):=by show _=_; simp
   clear hblk hle hdl HD hown
   go_wp2
   refine wp_region_any (by kernel_rfl) ?_
   change wpAny _ Region.Mode.any _ _ _ _ _ wr.drew
   refine wpAny_take (i:=0) (v:=?_) rfl (by kernel_rfl) (by kernel_rfl) (by kernel_rfl) (fun _ _ _ h=>h) (Or.inl ⟨by kernel_rfl,?_⟩) ?_
   rotate_left
   ·intro w; go_simp; with_reducible rfl
   refine wpAny_take (i:=1) (v:=?_) rfl (by kernel_rfl) (by kernel_rfl) (by kernel_rfl) (fun _ _ _ h=>h) (Or.inl ⟨by kernel_rfl,?_⟩) ?_
   rotate_left
   ·intro w; go_simp; with_reducible rfl
   refine wpAny_take (i:=2) (v:=?_) rfl (by kernel_rfl) (by kernel_rfl) (by kernel_rfl) (fun _ _ _ h=>h) (Or.inl ⟨by kernel_rfl,?_⟩) ?_
   rotate_left
   ·intro w; go_simp; with_reducible rfl
   refine wpAny_take (i:=3) (v:=?_) rfl (by kernel_rfl) (by kernel_rfl) (by kernel_rfl) (fun _ _ _ h=>h) (Or.inl ⟨by kernel_rfl,?_⟩) ?_
   rotate_left
   ·intro w; go_simp; with_reducible rfl
   refine wpAny_take (i:=5) (v:=?_) rfl (by kernel_rfl) (by kernel_rfl) (by kernel_rfl) (fun _ _ _ h=>h) (Or.inl ⟨by kernel_rfl,?_⟩) ?_
   rotate_left
   ·intro w; go_simp; with_reducible rfl
   refine wpAny_take (i:=6) (v:=?_) rfl (by kernel_rfl) (by kernel_rfl) (by kernel_rfl) (fun _ _ _ h=>h) (Or.inl ⟨by kernel_rfl,?_⟩) ?_
   rotate_left
   ·intro w; go_simp; with_reducible rfl
   refine wpAny_take (i:=7) (v:=?_) rfl (by kernel_rfl) (by kernel_rfl) (by kernel_rfl) (fun _ _ _ h=>h) (Or.inl ⟨by kernel_rfl,?_⟩) ?_
   rotate_left
   ·intro w; go_simp; with_reducible rfl
   refine wpAny_ready (rs:=[4,8]) (by kernel_rfl) (by simp) ?_
   refine AllReady.cons rfl (fun K hK=>?_) (AllReady.cons rfl (fun K hK=>?_) AllReady.nil)
   ·go_simp
    refine hK _ _ ?_
    clear hK K
    refine wpAny_ready (rs:=[8]) (by kernel_rfl) (by simp) ?_
    refine AllReady.cons rfl (fun K hK=>?_) AllReady.nil
    go_simp
    refine hK _ _ ?_
    clear hK K
    refine wpAny_ready (rs:=[9]) (by kernel_rfl) (by simp) ?_
    refine AllReady.cons rfl (fun K hK=>?_) AllReady.nil
    rw [if_pos (by kernel_rfl)]
    refine wp_append_own _ (.tmp 15) (.tmp 19) 42 rfl (b+1) 5 i0 (.int .u8 0) 1 1 Tryz.underlying42 hi hz0 hz1 hz2 rfl (by decide) (.slice ao acc.length cap) acc.length (xw acc) (by kernel_rfl) hA.o ⟨wr.heap.size,0,none⟩ 1 1 [.int .u8 s[k].toNat] (by kernel_rfl) rfl hN.o gQ.o h63.o hby.o hbs.o ?_
    intro v' w3 hown' hgrow _
    obtain ⟨fA,cap',rfl⟩:=yh hown'
    have gd:(wr.alloc (.cells #[.int .u8 s[k].toNat] 5)).grownBy w3 (Value.ownBlock (.slice ao acc.length cap)):=⟨hgrow.os,hgrow.tape,hgrow.output,hgrow.size,hgrow.block⟩
    have m0:=(Ht xg.o gd hrow.o).cell 0
    have n0:=(Ht xg.o gd hrow.o).free 0
    have P:=hid (Qv xg.o HB.o HOW.o gd hrow.o hown')
    clear hown' hgrow gd
    refine hK _ _ ?_
    clear hK K
    refine wpAny_take (i:=10) (v:=?_) rfl (by kernel_rfl) (by kernel_rfl) (by kernel_rfl) (fun _ _ _ h=>h) (Or.inl ⟨by kernel_rfl,?_⟩) ?_
    rotate_left
    ·intro w; go_simp; with_reducible rfl
    refine wpAny_take (i:=11) (v:=?_) rfl (by kernel_rfl) (by kernel_rfl) (by kernel_rfl) (fun _ _ _ h=>h) (Or.inl ⟨by kernel_rfl,?_⟩) ?_
    rotate_left
    ·intro w; go_simp; with_reducible rfl
    refine wpAny_ready (rs:=[12]) (by kernel_rfl) (by simp) ?_
    refine AllReady.cons rfl (fun K hK=>?_) AllReady.nil
    go_simp
    refine hK _ _ ?_
    clear hK K
    refine wpAny_done (by kernel_rfl) ?_ _
    clear hA hN gQ h63 hby hbs SE c0 f0 hne
    go_wp2
    go_roundw
    case rel =>
     refine ⟨k+1,by omega,by go_num,⟨acc ++ [s[k]],?_,P.o.1,?_⟩,P.o.2⟩
     ·have:=KA.o; simp; omega
     ·rw [<- KL.o,List.append_assoc,WC s k hlt]
    case measure=>simp [intOf]; omega
   ·go_simp
    refine hK _ _ ?_
    clear hK K
    refine wpAny_ready (rs:=[4]) (by kernel_rfl) (by simp) ?_
    refine AllReady.cons rfl (fun K hK=>?_) AllReady.nil
    go_simp
    refine hK _ _ ?_
    clear hK K
    refine wpAny_ready (rs:=[9]) (by kernel_rfl) (by simp) ?_
    refine AllReady.cons rfl (fun K hK=>?_) AllReady.nil
    rw [if_pos (by kernel_rfl)]
    refine wp_append_own _ (.tmp 15) (.tmp 19) 42 rfl (b+1) 5 i0 (.int .u8 0) 1 1 Tryz.underlying42 hi hz0 hz1 hz2 rfl (by decide) (.slice ao acc.length cap) acc.length (xw acc) (by kernel_rfl) hA.o ⟨wr.heap.size,0,none⟩ 1 1 [.int .u8 s[k].toNat] (by kernel_rfl) rfl hN.o gQ.o h63.o hby.o hbs.o ?_
    intro v' w3 hown' hgrow _
    obtain ⟨fA,cap',rfl⟩:=yh hown'
    have gd:(wr.alloc (.cells #[.int .u8 s[k].toNat] 5)).grownBy w3 (Value.ownBlock (.slice ao acc.length cap)):=⟨hgrow.os,hgrow.tape,hgrow.output,hgrow.size,hgrow.block⟩
    have m0:=(Ht xg.o gd hrow.o).cell 0
    have n0:=(Ht xg.o gd hrow.o).free 0
    have P:=hid (Qv xg.o HB.o HOW.o gd hrow.o hown')
    clear hown' hgrow gd
    refine hK _ _ ?_
    clear hK K
    refine wpAny_take (i:=10) (v:=?_) rfl (by kernel_rfl) (by kernel_rfl) (by kernel_rfl) (fun _ _ _ h=>h) (Or.inl ⟨by kernel_rfl,?_⟩) ?_
    rotate_left
    ·intro w; go_simp; with_reducible rfl
    refine wpAny_take (i:=11) (v:=?_) rfl (by kernel_rfl) (by kernel_rfl) (by kernel_rfl) (fun _ _ _ h=>h) (Or.inl ⟨by kernel_rfl,?_⟩) ?_
    rotate_left
    ·intro w; go_simp; with_reducible rfl
    refine wpAny_ready (rs:=[12]) (by kernel_rfl) (by simp) ?_
    refine AllReady.cons rfl (fun K hK=>?_) AllReady.nil
    go_simp
    refine hK _ _ ?_
    clear hK K
    refine wpAny_done (by kernel_rfl) ?_ _
    clear hA hN gQ h63 hby hbs SE c0 f0 hne
    go_wp2
    go_roundw
    case rel =>
     refine ⟨k+1,by omega,by go_num,⟨acc ++ [s[k]],?_,P.o.1,?_⟩,P.o.2⟩
     ·have:=KA.o; simp; omega
     ·rw [<- KL.o,List.append_assoc,WC s k hlt]
    case measure=>simp [intOf]; omega
  ·go_wp2
   go_end0
   obtain ⟨acc,hdl,hw,hle⟩:=HD.o
   rw [List.take_of_length_le (by rw [yr]; omega)] at hle
   rw [hle]
   exact ⟨rfl,hw,HB.o⟩
theorem ypN (l:List UInt8):strOfNums (l.map fun c=>(c.toNat:Int))=bs l:=by
 unfold strOfNums bs
 rw [List.map_map,List.map_congr_left (g:=id) (fun c _=>by simp),List.map_id]
theorem yln {w:World} {base:Nat} {ao:Option Addr} {cap:Nat} {l:List UInt8} (h:w.ownsRow base 5 1 (.slice ao l.length cap) l.length (xw l)) :
  (convert 42 9 (.slice ao l.length cap)).run Tryz.prog w = .ok (.string (bs l)) w:=by
 rcases h.2 with ⟨h1,h2⟩ | ⟨g,cap',cur,hv,_⟩
 ·simp only [Value.slice.injEq] at h1
  obtain ⟨rfl,h3,rfl⟩:=h1
  have:l=[]:=List.length_eq_zero_iff.1 h3
  subst this
  exact run_convert_bytes_nil w 42 5 Tryz.underlying42 Tryz.underlying5 _ _ 9 Tryz.underlying9
 ·simp only [Value.slice.injEq] at hv
  obtain ⟨rfl,_,rfl⟩:=hv
  have:=run_convert_bytes_arg (P:=Tryz.prog) w 42 5 Tryz.underlying42 Tryz.underlying5 g 0 l.length cap (l.map fun c=>(c.toNat:Int)) (by simp) (fun i hi=>by
   have q:=h.cellAt i (by omega)
   rw [Nat.zero_add,q]
   simp [xw,hi]) 9 Tryz.underlying9
  rw [ypN] at this
  exact this
theorem UN (b:Nat) (l:List UInt8) (w:World) (h:gD w b l) :
  Calls Tryz.prog 62 #[.pointer (some ⟨b,0,none⟩)] w fun e w'=>e = .returned (.string (bs l))/\w'=w:=by
 obtain ⟨ao,cap,hblk,hown⟩:=h
 have c0:=hblk.cell 0
 have hr:=yln hown
 clear hblk hown
 go_enter Tryz.func62,Tryz.ntmps62
 go_wp2
 go_ret
 exact ⟨rfl,rfl⟩
end Go.Proofs.YtpgklkhgfcjceaaGreatDoor
