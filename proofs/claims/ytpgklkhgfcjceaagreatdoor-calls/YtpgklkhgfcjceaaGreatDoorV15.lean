
import Derived.Test.YtpgklkhgfcjceaaGreatDoorV14
import Derived.Laws.AppendOwnNone
set_option maxHeartbeats 16000000
namespace Go.Proofs.YtpgklkhgfcjceaaGreatDoor
open Go.RowKit
def pU (W:World) (ao:Option Addr) (cap:Nat) (ws:List Int):Prop :=
 (ao=none/\cap=0/\ws=[])\/∃ wg off cs,ao=some ⟨wg,off,none⟩/\yc W wg cs 3/\∀ i (h:i < ws.length),cs[off+i]?=some (.int .i64 ws[i])
theorem pU.kept {W W':World} {ao:Option Addr} {cap:Nat} {ws:List Int} (h:pU W ao cap ws) (hk:∀ k cs,yc W k cs 3->ao.map (·.block)=some k->yc W' k cs 3):pU W' ao cap ws:=by
 rcases h with h | ⟨wg,off,cs,rfl,h1,h2⟩
 ·exact .inl h
 ·exact .inr ⟨wg,off,cs,rfl,hk wg cs h1 rfl,h2⟩
theorem pU.grown {W W':World} {ao:Option Addr} {cap:Nat} {ws:List Int} (h:pU W ao cap ws) (hg:W.grownBy W' none):pU W' ao cap ws:=h.kept fun _ _ hb _=>hb.grown hg (by simp)
theorem OO {P:Program} (w:World) {o:Oper} {a:Act} {K:Act->World->Prop} {Q:Exit->Act->World->Prop} (s x:Operand) (t:TypeId)
  (ho:o.op = .call { callee:=.builtin .append,args:=#[s,x],argTypes:=#[t,t] })
  (base:Nat) (i:TypeInfo) (ht:P.underlying t=some (.slice 3)) (hi:P.info? 3=some i) (hz:i.zero=some (.int .i64 0))
  (hsize:i.size=1) (hby:i.bytes=8)
  (v:Value) (n:Nat) (xs:List Value) (hs:a.eval s=v) (hown:w.ownsRow base 3 1 v n xs)
  (ao:Option Addr) (cap:Nat) (ws:List Int) (hx:a.eval x = .slice ao ws.length cap) (hw:pU w ao cap ws)
  (h63:n+ws.length<=65535) (hbase:base<=w.heap.size)
  (h:∀ v' w',w'.ownsRow base 3 1 v' (n+ws.length) (xs ++ ws.map (Value.int .i64))->w.grownBy w' v.ownBlock->(v'.ownBlock=v.ownBlock\/v'.ownBlock=some w.heap.size)->K (a.put o.dst v') w'):o.wp P a w K Q:=by
 rcases hw with ⟨rfl,rfl,rfl⟩ | ⟨wg,off,cs,rfl,hb,hc⟩
 ·have hrun:=run_append_owned_none (P:=P) (w:=w) base t o.type 3 i 1 ht hi v n xs hown
  have hx':a.eval x = .slice none 0 0:=hx
  have h':=h v w (by simpa using hown) ⟨rfl,rfl,rfl,Nat.le_refl _,fun _ _ _=>rfl⟩ (.inl rfl)
  unfold Oper.wp
  simp [execOp,ho,resolve,invoke,builtin,hs,hx',hrun,Result.andThen]
  exact h'
 ·refine yZ w s x t ho base 3 i (.int .i64 0) 1 8 ht hi hz hsize hby rfl (by decide) v n xs hs hown ⟨wg,off,none⟩ ws.length cap (ws.map (Value.int .i64)) hx (by simp) ?_ (by intro u hu; simp at hu; obtain ⟨y,_,rfl⟩:=hu; rfl) (by unfold maxLen; omega) (by omega) hbase (fun v' w' h1 h2 _ h4=>h v' w' h1 h2 h4)
  intro j u hu
  rw [List.getElem?_map,Option.map_eq_some_iff] at hu
  obtain ⟨y,hy,rfl⟩:=hu
  obtain ⟨hj,rfl⟩:=List.getElem?_eq_some_iff.1 hy
  have:=hb.cell (off+j)
  rw [hc j hj] at this
  have e:(⟨wg,off,none⟩:Addr).add j=⟨wg,off+j,none⟩:=by
   unfold Addr.add
   by_cases h0:j=0
   ·subst h0; simp
   ·simp [h0]
  rw [e]
  exact this
theorem yl.DC {B:Nat} {s:ByteArray} {b g:Nat} {st:As.St} {W:World} (h:yl B s b g st W):yu W g st.obj:=by
 obtain ⟨vt,vf,vd,va,vs,vr,ho⟩:=h.own
 exact ⟨vt,vf,vd,va,vs,vr,ho.blk,yW ho.text (Nat.zero_le _),yW ho.far (Nat.zero_le _),yW ho.data (Nat.zero_le _),yW ho.align (Nat.zero_le _),yW ho.syms (Nat.zero_le _),yW ho.aj (Nat.zero_le _)⟩
theorem jm.small {s:ByteArray} {st:As.St} (h:jm s st):tK st.obj:=⟨by have:=h.text; omega,by have:=h.far; omega,by have:=h.data; omega,by have:=h.align; omega,by have:=h.syms; omega,by have:=h.aj; omega⟩
theorem yoz (o:Lk.Obj) (ah:Nat):uV o (ah:Int)=As.bK o ah:=by
 unfold uV As.bK yp
 by_cases h4:ah=4
 ·rw [if_pos (by omega),if_pos h4]
 by_cases h1:ah=1
 ·rw [if_neg (by omega),if_neg h4,if_pos (by omega),if_pos h1]
 by_cases h2:ah=2
 ·rw [if_neg (by omega),if_neg h4,if_neg (by omega),if_neg h1,if_pos (by omega),if_pos h2]
 by_cases h3:ah=3
 ·rw [if_neg (by omega),if_neg h4,if_neg (by omega),if_neg h1,if_neg (by omega),if_neg h2,if_pos (by omega),if_pos h3]
 ·rw [if_neg (by omega),if_neg h4,if_neg (by omega),if_neg h1,if_neg (by omega),if_neg h2,if_neg (by omega),if_neg h3]; rfl
theorem Px {s:ByteArray} {st:As.St} (h:jm s st):0<=As.bK st.obj st.ah/\As.bK st.obj st.ah<=1200:=by
 have h1:=h.text
 have h2:=h.far
 have h3:=h.data
 have h4:=h.bss
 unfold As.bK
 repeat' split
 all_goals omega
theorem Hl (B:Nat) (s:ByteArray) (b g:Nat) (st:As.St) (W:World) (h:yl B s b g st W) :
  Calls Tryz.prog 87 #[.pointer (some ⟨g,0,none⟩),.int .i64 st.ah] W fun e W'=>e = .returned (.int .i64 (4 * As.bK st.obj st.ah))/\W'=W:=by
 rw [<- yoz]
 exact Lh g st.obj st.ah W h.DC h.ok.small h.ok.bss
theorem ynT (B:Nat) (s:ByteArray) (b g:Nat) (st:As.St) (W:World) (h:yl B s b g st W) :
  Calls Tryz.prog 218 #[.pointer (some ⟨b,0,none⟩)] W fun e W'=>e = .returned (.int .i64 (As.limit st.ah))/\W'=W:=by
 have c:=tH h
 have hs:=h.ok.ah
 clear h
 generalize st.ah=ah at *
 rcases (show ah=1\/ah=2\/ah=3\/ah=4 by omega) with rfl | rfl | rfl | rfl
 all_goals
  go_enter Tryz.func218,Tryz.ntmps218
  go_wp2
  go_ret
  exact ⟨rfl,rfl⟩
theorem Mt {B:Nat} {s:ByteArray} {b g:Nat} {st:As.St} {W:World} (h:yl B s b g st W):W.cell? ⟨b,10,none⟩=some (.int .i64 st.op.pos):=by
 have c:=yL h 10
 simpa only [yE,bC,bG,bE] using c
section
variable {B:Nat} {s:ByteArray} {b g:Nat} {V W':World} {st:As.St} {vt vf vd va vs vr v':Value}
theorem yl.newText (h:yl B s b g st V) (ho:qy B V b g st.obj vt vf vd va vs vr) (n:lY B V W' b g vt v') (xs:List Int) (hxs:xs.length<=1200)
  (hblk:yc W' g #[v',vf,vd,.int .i64 st.obj.bss,va,vs,vr] 71) (hown:W'.ownsRow B 3 1 v' xs.length (xs.map (Value.int .i64))):Does B s b g V { st with obj:={ st.obj with text:=xs } } W':=by
 refine n.does h ho (i:=2) rfl (by omega) ⟨v',vf,vd,va,vs,vr,hblk,hown,?_,?_,?_,?_,?_,n.apart ho h.blk.lt (i:=2) rfl⟩ rfl (h.ok.uH _ hxs h.ok.far h.ok.data h.ok.bss h.ok.align h.ok.syms h.ok.aj) (D8 ho.text (by simp))
 ·exact n.row ho (i:=2) (j:=3) rfl rfl (by omega) (by omega) ho.far
 ·exact n.row ho (i:=2) (j:=4) rfl rfl (by omega) (by omega) ho.data
 ·exact n.row ho (i:=2) (j:=5) rfl rfl (by omega) (by omega) ho.align
 ·exact n.row ho (i:=2) (j:=6) rfl rfl (by omega) (by omega) ho.syms
 ·exact n.row ho (i:=2) (j:=7) rfl rfl (by omega) (by omega) ho.aj
theorem yl.Fq (h:yl B s b g st V) (ho:qy B V b g st.obj vt vf vd va vs vr) (n:lY B V W' b g vf v') (xs:List Int) (hxs:xs.length<=1200)
  (hblk:yc W' g #[vt,v',vd,.int .i64 st.obj.bss,va,vs,vr] 71) (hown:W'.ownsRow B 3 1 v' xs.length (xs.map (Value.int .i64))):Does B s b g V { st with obj:={ st.obj with far:=xs } } W':=by
 refine n.does h ho (i:=3) rfl (by omega) ⟨vt,v',vd,va,vs,vr,hblk,?_,hown,?_,?_,?_,?_,n.apart ho h.blk.lt (i:=3) rfl⟩ rfl (h.ok.uH _ h.ok.text hxs h.ok.data h.ok.bss h.ok.align h.ok.syms h.ok.aj) (D8 ho.far (by simp))
 ·exact n.row ho (i:=3) (j:=2) rfl rfl (by omega) (by omega) ho.text
 ·exact n.row ho (i:=3) (j:=4) rfl rfl (by omega) (by omega) ho.data
 ·exact n.row ho (i:=3) (j:=5) rfl rfl (by omega) (by omega) ho.align
 ·exact n.row ho (i:=3) (j:=6) rfl rfl (by omega) (by omega) ho.syms
 ·exact n.row ho (i:=3) (j:=7) rfl rfl (by omega) (by omega) ho.aj
theorem yl.CJ (h:yl B s b g st V) (ho:qy B V b g st.obj vt vf vd va vs vr) (n:lY B V W' b g vd v') (xs:List Int) (hxs:xs.length<=64)
  (hblk:yc W' g #[vt,vf,v',.int .i64 st.obj.bss,va,vs,vr] 71) (hown:W'.ownsRow B 3 1 v' xs.length (xs.map (Value.int .i64))):Does B s b g V { st with obj:={ st.obj with data:=xs } } W':=by
 refine n.does h ho (i:=4) rfl (by omega) ⟨vt,vf,v',va,vs,vr,hblk,?_,?_,hown,?_,?_,?_,n.apart ho h.blk.lt (i:=4) rfl⟩ rfl (h.ok.uH _ h.ok.text h.ok.far hxs h.ok.bss h.ok.align h.ok.syms h.ok.aj) (D8 ho.data (by simp))
 ·exact n.row ho (i:=4) (j:=2) rfl rfl (by omega) (by omega) ho.text
 ·exact n.row ho (i:=4) (j:=3) rfl rfl (by omega) (by omega) ho.far
 ·exact n.row ho (i:=4) (j:=5) rfl rfl (by omega) (by omega) ho.align
 ·exact n.row ho (i:=4) (j:=6) rfl rfl (by omega) (by omega) ho.syms
 ·exact n.row ho (i:=4) (j:=7) rfl rfl (by omega) (by omega) ho.aj
theorem lY.app0 {v:Value} {w3:World} {off:Nat} (hg:V.grownBy w3 v.ownBlock) (hat:v'.ownBlock=v.ownBlock\/v'.ownBlock=some V.heap.size):lY B V (w3.setCell ⟨g,off,none⟩ v') b g v v':=by
 have gs:=yf w3 g off v'
 refine ⟨fun k hk hne hkg=>?_,fun k hk=>?_,?_,?_,?_,?_⟩
 ·rw [gs.block k (by have:=hg.size; omega) (by simpa using hkg),hg.block k hk hne]
 ·rcases hat with e | e
  ·exact .inl (by rw [<- e]; exact hk)
  ·rw [e] at hk
   simp at hk
   exact .inr (by omega)
 ·rw [gs.os,hg.os]
 ·rw [gs.tape,hg.tape]
 ·rw [gs.output,hg.output]
 ·have:=gs.size; have:=hg.size; omega
end
theorem yl.Fp {B:Nat} {s:ByteArray} {b g:Nat} {V:World} {st:As.St} {vt vf vd va vs vr:Value} (h:yl B s b g st V) (ho:qy B V b g st.obj vt vf vd va vs vr) (n:Int) (hn:0<=n/\n<=64) :
  Does B s b g V { st with obj:={ st.obj with bss:=n } } (V.setCell ⟨g,3,none⟩ (.int .i64 n)):=by
 have gs:=yf V g 3 (.int .i64 n)
 have nr:lY B V (V.setCell ⟨g,3,none⟩ (.int .i64 n)) b g (jf g) (jf g):=⟨fun k hk _ hkg=>gs.block k hk (by simpa using hkg),fun k hk=>.inl hk,gs.os,gs.tape,gs.output,gs.size⟩
 have nb:=ho.blk.set 3 (.int .i64 n)
 have hlo:=h.lo
 have row:∀ {e:TypeId} {size m:Nat} {u:Value} {xs:List Value} {j:Nat},[jf b,jf g,vt,vf,vd,va,vs,vr][j]?=some u->1≠j->V.ownsRow B e size u m xs->(V.setCell ⟨g,3,none⟩ (.int .i64 n)).ownsRow B e size u m xs:=fun hj hne hu =>
  JZ hu fun k hk=>gs.block k (hu.lt k hk).2 (fun e=>ho.apart.ne (i:=1) rfl hj hne k (by simpa [jf,Value.ownBlock] using e.symm) hk)
 have low:Below B V (V.setCell ⟨g,3,none⟩ (.int .i64 n)):=(Below.refl B V).grown gs h.size (by intro k hk; simp at hk; omega)
 refine ⟨⟨h.blk.grown gs (by simpa using hlo.2.2.2),⟨vt,vf,vd,va,vs,vr,by simpa using nb,row (j:=2) rfl (by omega) ho.text,row (j:=3) rfl (by omega) ho.far,row (j:=4) rfl (by omega) ho.data,row (j:=5) rfl (by omega) ho.align,row (j:=6) rfl (by omega) ho.syms,row (j:=7) rfl (by omega) ho.aj,ho.apart⟩,h.lo,h.ok.uH _ h.ok.text h.ok.far h.ok.data hn h.ok.align h.ok.syms h.ok.aj,h.tabs.qV gs (by omega)⟩,low,?_⟩
 intro k cs t h1 h2 _ _ _ hb
 refine hb.grown gs ?_
 intro e
 obtain rfl:k=g:=by simpa using e
 have:=hb.symm.trans ho.blk
 simp at this
 exact h2 this.2
theorem Lf (e pos:Nat) (st:As.St) (he:e≠0):As.failed (As.refuse e pos st)=true:=by
 unfold As.refuse
 split
 ·rename_i h; exact h
 ·unfold As.failed; simp [he]
set_option maxRecDepth 100000 in
theorem Gb (B:Nat) (s:ByteArray) (b g:Nat) (st1:As.St) (ao:Option Addr) (cap:Nat) (ws:List Int) (W:World) (h:yl B s b g st1 W) (hw:pU W ao cap ws) (hn:ws.length<=4096) :
  Calls Tryz.prog 198 #[.pointer (some ⟨b,0,none⟩),.slice ao ws.length cap] W fun en W'=>en = .returned (.tuple #[])/\Does B s b g W (As.lay ws st1) W':=by
 obtain ⟨i0,hi,hz0,hz1,hz2⟩:=info_parts Tryz.j6
 have HW:=hid h
 have xR:=hid hw
 have c13:=tH h
 have c14:=rQ h
 have hsb:=Px h.ok
 have hpos:=h.ok.op.pos
 have HD0:=hid (fun n=>h.jI.drewN n)
 have cL:=hid (fun V hV=>Hl B s b g st1 V hV)
 have cM:=hid (fun V hV=>ynT B s b g st1 V hV)
 have cF:=hid (fun V hV=>AZ B s b g st1 V hV)
 have hlim:64<=As.limit st1.ah/\As.limit st1.ah<=1200:=by unfold As.limit; repeat' split <;> omega
 have RS:=hid (show As.lay ws st1=if 4 * As.limit st1.ah < 4 * As.bK st1.obj st1.ah+4 * (ws.length:Int) then As.refuse 13 st1.op.pos st1 else if As.failed st1 then st1 else { st1 with obj:=As.aI st1.obj st1.ah ws } from rfl)
 have Tf:=h.ok.ah
 generalize As.lay ws st1=X at *
 generalize hq:As.bK st1.obj st1.ah=q at *
 generalize hl:As.limit st1.ah=lim at *
 have HQ:=hid hq
 have HL:=hid hl
 clear h hw hq hl
 go_enter Tryz.func198,Tryz.ntmps198
 go_wp2
 go_quiet ((go_at_call 87; exact Calls.quiet_of_same (cL.o _ (HD0.o _).1)))
 go_wp2_with fail
 refine (cM.o _ (HD0.o _).1).mono ?_
 rintro e w1 ⟨rfl,rfl⟩
 have D0:=hid ((HD0.o nq).does HW.o)
 have sD:=hid (xR.o.grown (ye (World.grownBy.refl _ _) nq))
 clear HD0 c13 c14 cL cM xR
 generalize W.drewN nq=V1 at *
 by_cases hov:4 * lim < 4 * q+4 * (ws.length:Int)
 ·have D1:decide (4 * lim < 4 * q+4 * (ws.length:Int))=true:=by simp; omega
  rw [if_pos hov] at RS
  have c10:=Mt D0.o.1
  clear hov
  go_wp2_with fail
  refine (yJ B s b g st1 13 st1.op.pos V1 D0.o.1 (by omega) hpos).mono ?_
  rintro e V2 ⟨rfl,h2⟩
  have D2:=hid (D0.o.aO h2)
  have KQ:=hid (show As.failed (As.refuse 13 st1.op.pos st1)=true from Lf _ _ _ (by omega))
  clear h2 c10
  go_wp2_with fail
  refine (AZ B s b g _ V2 D2.o.1).mono ?_
  rintro e w2 ⟨rfl,rfl⟩
  rw [KQ.o]
  go_wp2
  (try simp only [Exit.inBlock,Exit.then]); refine bodyPost_ret (results_none rfl _ _ _) rfl ?_
  rw [RS.o]
  exact ⟨rfl,D2.o⟩
 ·have D1:decide (4 * lim < 4 * q+4 * (ws.length:Int))=false:=by simp; omega
  rw [if_neg hov] at RS
  have ROOM:=hid (show As.bK st1.obj st1.ah+ws.length<=As.limit st1.ah by rw [HQ.o,HL.o]; omega)
  clear hov
  go_wp2_with fail
  refine (cF.o V1 D0.o.1).mono ?_
  rintro e w2 ⟨rfl,rfl⟩
  clear cF
  have D:=hid D0.o
  clear D0
  cases hf:As.failed st1
  ·rw [hf,if_neg (by simp)] at RS
   have RX:=hid RS.o
   clear hf RS
   rcases (show st1.ah=1\/st1.ah=2\/st1.ah=3\/st1.ah=4 by omega) with es | es | es | es
   all_goals
    have ES:=hid es
    clear es
   ·obtain ⟨vt,vf,vd,va,vs,vr,ho⟩:=D.o.1.own
    obtain ⟨kF,cap0,rfl⟩:=yh ho.text
    have HO:=hid ho
    have hlen:st1.obj.text.length+ws.length<=1200:=by have:=ROOM.o; unfold As.limit As.bK at this; simp [ES.o] at this; omega
    have g0:=ho.blk.cell 0
    simp only [bC,bE] at g0
    have c14:=rQ D.o.1
    have hA:Hd (w2.drew.ownsRow B 3 1 (.slice kF st1.obj.text.length cap0) st1.obj.text.length (st1.obj.text.map (Value.int .i64))):=ho.text.drew
    have Jo:Hd (pU w2.drew ao cap ws):=sD.o.grown (yi (World.grownBy.refl _ _))
    have hbs:Hd (B<=w2.drew.heap.size):=D.o.1.size
    have hb0:Hd (some b≠Value.ownBlock (.slice kF st1.obj.text.length cap0)):=fun e=>ho.apart.ne (i:=0) (j:=2) rfl rfl (by omega) b rfl e.symm
    have hg0:Hd (some g≠Value.ownBlock (.slice kF st1.obj.text.length cap0)):=fun e=>ho.apart.ne (i:=1) (j:=2) rfl rfl (by omega) g rfl e.symm
    have KB:Hd (∀ w3,w2.grownBy w3 (Value.ownBlock (.slice kF st1.obj.text.length cap0))->w3.cell? ⟨b,14,none⟩=some (.pointer (some ⟨g,0,none⟩))):=fun w3 h=>h.cell c14 hb0.o
    have KG:Hd (∀ w3,w2.grownBy w3 (Value.ownBlock (.slice kF st1.obj.text.length cap0))->yc w3 g #[.slice kF st1.obj.text.length cap0,vf,vd,.int .i64 st1.obj.bss,va,vs,vr] 71):=fun w3 h=>HO.o.blk.grown h hg0.o
    have FIN:Hd (∀ w3 fA cap',w2.grownBy w3 (Value.ownBlock (.slice kF st1.obj.text.length cap0))->(Value.ownBlock (.slice fA (st1.obj.text.length+ws.length) cap')=Value.ownBlock (.slice kF st1.obj.text.length cap0)\/Value.ownBlock (.slice fA (st1.obj.text.length+ws.length) cap')=some w2.heap.size)->w3.ownsRow B 3 1 (.slice fA (st1.obj.text.length+ws.length) cap') (st1.obj.text.length+ws.length) (st1.obj.text.map (Value.int .i64) ++ ws.map (Value.int .i64)) ->
      Does B s b g W X (w3.setCell ⟨g,0,none⟩ (.slice fA (st1.obj.text.length+ws.length) cap'))/\(w3.setCell ⟨g,0,none⟩ (.slice fA (st1.obj.text.length+ws.length) cap')).cell? ⟨b,14,none⟩=some (.pointer (some ⟨g,0,none⟩))):=fun w3 fA cap' gd hat hown=>by
     have nr:lY B w2 (w3.setCell ⟨g,0,none⟩ (.slice fA (st1.obj.text.length+ws.length) cap')) b g (.slice kF st1.obj.text.length cap0) (.slice fA (st1.obj.text.length+ws.length) cap'):=lY.app0 gd hat
     have nb:=(KG.o w3 gd).set 0 (.slice fA (st1.obj.text.length+ws.length) cap')
     have gs:=yf w3 g 0 (.slice fA (st1.obj.text.length+ws.length) cap')
     refine ⟨?_,gs.cell (KB.o w3 gd) (by simpa using fun e=>D.o.1.lo.2.2.2 e)⟩
     rw [show X={ st1 with obj:={ st1.obj with text:=st1.obj.text ++ ws } } from by rw [RX.o]; unfold As.aI; simp [ES.o]]
     refine D.o.after (D.o.1.newText HO.o nr (st1.obj.text ++ ws) (by rw [fu]; exact hlen) (by simpa using nb) ?_)
     rw [fu,List.map_append]
     exact GI hown (fun k hk=>by
      rcases hat with h1 | h1
      ·rw [h1] at hk
       exact fun e=>hg0.o (by rw [e,hk])
      ·rw [h1] at hk
       simp at hk
       have:=HO.o.blk.lt
       omega)
    have hsc:=hid (show w2.cell? ⟨b,13,none⟩=some (.int .i64 1) from by have:=tH D.o.1; rw [ES.o] at this; exact this)
    have hsc2:=hsc.o
    clear ho
    go_wp2
    clear hsc2
    refine wp_region_held_drew (S:=(fun w'=>w'.cell? ⟨b,14,none⟩=some (.pointer (some ⟨g,0,none⟩)))) (by kernel_rfl) c14 ?_
    intro hS
    refine wpAnyH_take (i:=0) (v:=?_) rfl (by kernel_rfl) (by kernel_rfl) (by kernel_rfl) (fun _ _ _ h=>h) (Or.inl ⟨by kernel_rfl,?_⟩) hS ?_
    rotate_left
    ·intro w' hw'; have x0:=hw'; go_simp; with_reducible rfl
    refine wpAnyH_take (i:=1) (v:=?_) rfl (by kernel_rfl) (by kernel_rfl) (by kernel_rfl) (fun _ _ _ h=>h) (Or.inl ⟨by kernel_rfl,?_⟩) hS ?_
    rotate_left
    ·intro w' hw'; have x0:=hw'; go_simp; with_reducible rfl
    refine wpAnyH_take (i:=2) (v:=?_) rfl (by kernel_rfl) (by kernel_rfl) (by kernel_rfl) (fun _ _ _ h=>h) (Or.inl ⟨by kernel_rfl,?_⟩) hS ?_
    rotate_left
    ·intro w' hw'; have x0:=hw'; go_simp; with_reducible rfl
    refine wpAnyH_take (i:=3) (v:=?_) rfl (by kernel_rfl) (by kernel_rfl) (by kernel_rfl) (fun _ _ _ h=>h) (Or.inl ⟨by kernel_rfl,?_⟩) hS ?_
    rotate_left
    ·intro w' hw'; have x0:=hw'; go_simp; with_reducible rfl
    refine wpAnyH_take (i:=4) (v:=?_) rfl (by kernel_rfl) (by kernel_rfl) (by kernel_rfl) (fun _ _ _ h=>h) (Or.inl ⟨by kernel_rfl,?_⟩) hS ?_
    rotate_left
    ·intro w' hw'; have x0:=hw'; go_simp; with_reducible rfl
    refine wpAnyH_take (i:=5) (v:=?_) rfl (by kernel_rfl) (by kernel_rfl) (by kernel_rfl) (fun _ _ _ h=>h) (Or.inl ⟨by kernel_rfl,?_⟩) hS ?_
    rotate_left
    ·intro w' hw'; have x0:=hw'; go_simp; with_reducible rfl
    refine wpAnyH_take (i:=6) (v:=?_) rfl (by kernel_rfl) (by kernel_rfl) (by kernel_rfl) (fun _ _ _ h=>h) (Or.inl ⟨by kernel_rfl,?_⟩) hS ?_
    rotate_left
    ·intro w' hw'; have x0:=hw'; go_simp; with_reducible rfl
    refine wpAnyH_take (i:=7) (v:=?_) rfl (by kernel_rfl) (by kernel_rfl) (by kernel_rfl) (fun _ _ _ h=>h) (Or.inl ⟨by kernel_rfl,?_⟩) hS ?_
    rotate_left
    ·intro w' hw'; have x0:=hw'; go_simp; with_reducible rfl
    refine wpAnyH_take (i:=8) (v:=?_) rfl (by kernel_rfl) (by kernel_rfl) (by kernel_rfl) (fun _ _ _ h=>h) (Or.inl ⟨by kernel_rfl,?_⟩) hS ?_
    rotate_left
    ·intro w' hw'; have x0:=hw'; go_simp; with_reducible rfl
    refine wpAnyH_take (i:=9) (v:=?_) rfl (by kernel_rfl) (by kernel_rfl) (by kernel_rfl) (fun _ _ _ h=>h) (Or.inl ⟨by kernel_rfl,?_⟩) hS ?_
    rotate_left
    ·intro w' hw'; have x0:=hw'; go_simp; with_reducible rfl
    refine wpAnyH_take (i:=11) (v:=?_) rfl (by kernel_rfl) (by kernel_rfl) (by kernel_rfl) (fun _ _ _ h=>h) (Or.inl ⟨by kernel_rfl,?_⟩) hS ?_
    rotate_left
    ·intro w' hw'; have x0:=hw'; go_simp; with_reducible rfl
    refine wpAnyH_ready (rs:=[10]) (by kernel_rfl) (by simp) ?_
    refine AllReadyH.cons rfl (fun K hK=>?_) AllReadyH.nil
    go_simp
    refine hK.out _ _ hS (fun hS2=>?_)
    clear hK K
    refine wpAnyH_ready (rs:=[12]) (by kernel_rfl) (by simp) ?_
    refine AllReadyH.cons rfl (fun K hK=>?_) AllReadyH.nil
    rw [if_pos (by kernel_rfl)]
    refine OO _ (.tmp 48) (.tmp 49) 35 rfl B i0 Tryz.underlying35 hi hz0 hz1 hz2 (.slice kF st1.obj.text.length cap0) st1.obj.text.length (st1.obj.text.map (Value.int .i64)) (by kernel_rfl) hA.o ao cap ws (by kernel_rfl) Jo.o (by omega) hbs.o ?_
    intro v' w3 hown' hgrow hat
    obtain ⟨fA,cap',rfl⟩:=yh hown'
    have gd:w2.grownBy w3 (Value.ownBlock (.slice kF st1.obj.text.length cap0)):=⟨hgrow.os,hgrow.tape,hgrow.output,hgrow.size,hgrow.block⟩
    have jC:Value.ownBlock (.slice fA (st1.obj.text.length+ws.length) cap')=Value.ownBlock (.slice kF st1.obj.text.length cap0)\/Value.ownBlock (.slice fA (st1.obj.text.length+ws.length) cap')=some w2.heap.size:=hat
    have F:=hid (FIN.o _ _ _ gd jC hown')
    have n14:=KB.o _ gd
    have ng:=KG.o _ gd
    have m5:=ng.cell 0
    have f5:=ng.free 0
    simp only [bC,bE] at m5
    clear hown' hgrow gd hat jC ng
    refine hK.out _ _ n14 (fun iT=>?_)
    clear hK K
    refine wpAnyH_take (i:=13) (v:=?_) rfl (by kernel_rfl) (by kernel_rfl) (by kernel_rfl) (fun _ _ _ h=>h) (Or.inl ⟨by kernel_rfl,?_⟩) iT ?_
    rotate_left
    ·intro w' hw'; have x0:=hw'; go_simp; with_reducible rfl
    refine wpAnyH_take (i:=14) (v:=?_) rfl (by kernel_rfl) (by kernel_rfl) (by kernel_rfl) (fun _ _ _ h=>h) (Or.inl ⟨by kernel_rfl,?_⟩) iT ?_
    rotate_left
    ·intro w' hw'; have x0:=hw'; go_simp; with_reducible rfl
    refine wpAnyH_ready (rs:=[15]) (by kernel_rfl) (by simp) ?_
    refine AllReadyH.cons rfl (fun K hK=>?_) AllReadyH.nil
    go_simp
    refine hK.out _ _ F.o.2 (fun hS5=>?_)
    clear hK K
    refine wpAnyH_done (by kernel_rfl) ?_ _
    try simp only [qM,oD,nQ,om,fQ,fT,fP]
    clear hA hbs c14 g0 n14 m5 f5 iT hS5 hS hS2
    go_wp2
    go_end0
    exact ⟨rfl,F.o.1⟩
   ·obtain ⟨vt,vf,vd,va,vs,vr,ho⟩:=D.o.1.own
    obtain ⟨kF,cap0,rfl⟩:=yh ho.far
    have HO:=hid ho
    have hlen:st1.obj.far.length+ws.length<=1200:=by have:=ROOM.o; unfold As.limit As.bK at this; simp [ES.o] at this; omega
    have g0:=ho.blk.cell 1
    simp only [bC,bG,bE] at g0
    have c14:=rQ D.o.1
    have hA:Hd (w2.drew.ownsRow B 3 1 (.slice kF st1.obj.far.length cap0) st1.obj.far.length (st1.obj.far.map (Value.int .i64))):=ho.far.drew
    have Jo:Hd (pU w2.drew ao cap ws):=sD.o.grown (yi (World.grownBy.refl _ _))
    have hbs:Hd (B<=w2.drew.heap.size):=D.o.1.size
    have hb0:Hd (some b≠Value.ownBlock (.slice kF st1.obj.far.length cap0)):=fun e=>ho.apart.ne (i:=0) (j:=3) rfl rfl (by omega) b rfl e.symm
    have hg0:Hd (some g≠Value.ownBlock (.slice kF st1.obj.far.length cap0)):=fun e=>ho.apart.ne (i:=1) (j:=3) rfl rfl (by omega) g rfl e.symm
    have KB:Hd (∀ w3,w2.grownBy w3 (Value.ownBlock (.slice kF st1.obj.far.length cap0))->w3.cell? ⟨b,14,none⟩=some (.pointer (some ⟨g,0,none⟩))):=fun w3 h=>h.cell c14 hb0.o
    have KG:Hd (∀ w3,w2.grownBy w3 (Value.ownBlock (.slice kF st1.obj.far.length cap0))->yc w3 g #[vt,.slice kF st1.obj.far.length cap0,vd,.int .i64 st1.obj.bss,va,vs,vr] 71):=fun w3 h=>HO.o.blk.grown h hg0.o
    have FIN:Hd (∀ w3 fA cap',w2.grownBy w3 (Value.ownBlock (.slice kF st1.obj.far.length cap0))->(Value.ownBlock (.slice fA (st1.obj.far.length+ws.length) cap')=Value.ownBlock (.slice kF st1.obj.far.length cap0)\/Value.ownBlock (.slice fA (st1.obj.far.length+ws.length) cap')=some w2.heap.size)->w3.ownsRow B 3 1 (.slice fA (st1.obj.far.length+ws.length) cap') (st1.obj.far.length+ws.length) (st1.obj.far.map (Value.int .i64) ++ ws.map (Value.int .i64)) ->
      Does B s b g W X (w3.setCell ⟨g,1,none⟩ (.slice fA (st1.obj.far.length+ws.length) cap'))/\(w3.setCell ⟨g,1,none⟩ (.slice fA (st1.obj.far.length+ws.length) cap')).cell? ⟨b,14,none⟩=some (.pointer (some ⟨g,0,none⟩))):=fun w3 fA cap' gd hat hown=>by
     have nr:lY B w2 (w3.setCell ⟨g,1,none⟩ (.slice fA (st1.obj.far.length+ws.length) cap')) b g (.slice kF st1.obj.far.length cap0) (.slice fA (st1.obj.far.length+ws.length) cap'):=lY.app0 gd hat
     have nb:=(KG.o w3 gd).set 1 (.slice fA (st1.obj.far.length+ws.length) cap')
     have gs:=yf w3 g 1 (.slice fA (st1.obj.far.length+ws.length) cap')
     refine ⟨?_,gs.cell (KB.o w3 gd) (by simpa using fun e=>D.o.1.lo.2.2.2 e)⟩
     rw [show X={ st1 with obj:={ st1.obj with far:=st1.obj.far ++ ws } } from by rw [RX.o]; unfold As.aI; simp [ES.o]]
     refine D.o.after (D.o.1.Fq HO.o nr (st1.obj.far ++ ws) (by rw [fu]; exact hlen) (by simpa using nb) ?_)
     rw [fu,List.map_append]
     exact GI hown (fun k hk=>by
      rcases hat with h1 | h1
      ·rw [h1] at hk
       exact fun e=>hg0.o (by rw [e,hk])
      ·rw [h1] at hk
       simp at hk
       have:=HO.o.blk.lt
       omega)
    have hsc:=hid (show w2.cell? ⟨b,13,none⟩=some (.int .i64 2) from by have:=tH D.o.1; rw [ES.o] at this; exact this)
    have hsc2:=hsc.o
    clear ho
    go_wp2
    clear hsc2
    refine wp_region_held_drew (S:=(fun w'=>w'.cell? ⟨b,14,none⟩=some (.pointer (some ⟨g,0,none⟩)))) (by kernel_rfl) c14 ?_
    intro hS
    refine wpAnyH_take (i:=0) (v:=?_) rfl (by kernel_rfl) (by kernel_rfl) (by kernel_rfl) (fun _ _ _ h=>h) (Or.inl ⟨by kernel_rfl,?_⟩) hS ?_
    rotate_left
    ·intro w' hw'; have x0:=hw'; go_simp; with_reducible rfl
    refine wpAnyH_take (i:=1) (v:=?_) rfl (by kernel_rfl) (by kernel_rfl) (by kernel_rfl) (fun _ _ _ h=>h) (Or.inl ⟨by kernel_rfl,?_⟩) hS ?_
    rotate_left
    ·intro w' hw'; have x0:=hw'; go_simp; with_reducible rfl
    refine wpAnyH_take (i:=2) (v:=?_) rfl (by kernel_rfl) (by kernel_rfl) (by kernel_rfl) (fun _ _ _ h=>h) (Or.inl ⟨by kernel_rfl,?_⟩) hS ?_
    rotate_left
    ·intro w' hw'; have x0:=hw'; go_simp; with_reducible rfl
    refine wpAnyH_take (i:=3) (v:=?_) rfl (by kernel_rfl) (by kernel_rfl) (by kernel_rfl) (fun _ _ _ h=>h) (Or.inl ⟨by kernel_rfl,?_⟩) hS ?_
    rotate_left
    ·intro w' hw'; have x0:=hw'; go_simp; with_reducible rfl
    refine wpAnyH_take (i:=4) (v:=?_) rfl (by kernel_rfl) (by kernel_rfl) (by kernel_rfl) (fun _ _ _ h=>h) (Or.inl ⟨by kernel_rfl,?_⟩) hS ?_
    rotate_left
    ·intro w' hw'; have x0:=hw'; go_simp; with_reducible rfl
    refine wpAnyH_take (i:=5) (v:=?_) rfl (by kernel_rfl) (by kernel_rfl) (by kernel_rfl) (fun _ _ _ h=>h) (Or.inl ⟨by kernel_rfl,?_⟩) hS ?_
    rotate_left
    ·intro w' hw'; have x0:=hw'; go_simp; with_reducible rfl
    refine wpAnyH_take (i:=6) (v:=?_) rfl (by kernel_rfl) (by kernel_rfl) (by kernel_rfl) (fun _ _ _ h=>h) (Or.inl ⟨by kernel_rfl,?_⟩) hS ?_
    rotate_left
    ·intro w' hw'; have x0:=hw'; go_simp; with_reducible rfl
    refine wpAnyH_take (i:=7) (v:=?_) rfl (by kernel_rfl) (by kernel_rfl) (by kernel_rfl) (fun _ _ _ h=>h) (Or.inl ⟨by kernel_rfl,?_⟩) hS ?_
    rotate_left
    ·intro w' hw'; have x0:=hw'; go_simp; with_reducible rfl
    refine wpAnyH_take (i:=8) (v:=?_) rfl (by kernel_rfl) (by kernel_rfl) (by kernel_rfl) (fun _ _ _ h=>h) (Or.inl ⟨by kernel_rfl,?_⟩) hS ?_
    rotate_left
    ·intro w' hw'; have x0:=hw'; go_simp; with_reducible rfl
    refine wpAnyH_take (i:=9) (v:=?_) rfl (by kernel_rfl) (by kernel_rfl) (by kernel_rfl) (fun _ _ _ h=>h) (Or.inl ⟨by kernel_rfl,?_⟩) hS ?_
    rotate_left
    ·intro w' hw'; have x0:=hw'; go_simp; with_reducible rfl
    refine wpAnyH_take (i:=11) (v:=?_) rfl (by kernel_rfl) (by kernel_rfl) (by kernel_rfl) (fun _ _ _ h=>h) (Or.inl ⟨by kernel_rfl,?_⟩) hS ?_
    rotate_left
    ·intro w' hw'; have x0:=hw'; go_simp; with_reducible rfl
    refine wpAnyH_ready (rs:=[10]) (by kernel_rfl) (by simp) ?_
    refine AllReadyH.cons rfl (fun K hK=>?_) AllReadyH.nil
    go_simp
    refine hK.out _ _ hS (fun hS2=>?_)
    clear hK K
    refine wpAnyH_ready (rs:=[12]) (by kernel_rfl) (by simp) ?_
    refine AllReadyH.cons rfl (fun K hK=>?_) AllReadyH.nil
    rw [if_pos (by kernel_rfl)]
    refine OO _ (.tmp 65) (.tmp 66) 35 rfl B i0 Tryz.underlying35 hi hz0 hz1 hz2 (.slice kF st1.obj.far.length cap0) st1.obj.far.length (st1.obj.far.map (Value.int .i64)) (by kernel_rfl) hA.o ao cap ws (by kernel_rfl) Jo.o (by omega) hbs.o ?_
    intro v' w3 hown' hgrow hat
    obtain ⟨fA,cap',rfl⟩:=yh hown'
    have gd:w2.grownBy w3 (Value.ownBlock (.slice kF st1.obj.far.length cap0)):=⟨hgrow.os,hgrow.tape,hgrow.output,hgrow.size,hgrow.block⟩
    have jC:Value.ownBlock (.slice fA (st1.obj.far.length+ws.length) cap')=Value.ownBlock (.slice kF st1.obj.far.length cap0)\/Value.ownBlock (.slice fA (st1.obj.far.length+ws.length) cap')=some w2.heap.size:=hat
    have F:=hid (FIN.o _ _ _ gd jC hown')
    have n14:=KB.o _ gd
    have ng:=KG.o _ gd
    have m5:=ng.cell 1
    have f5:=ng.free 1
    simp only [bC,bG,bE] at m5
    clear hown' hgrow gd hat jC ng
    refine hK.out _ _ n14 (fun iT=>?_)
    clear hK K
    refine wpAnyH_take (i:=13) (v:=?_) rfl (by kernel_rfl) (by kernel_rfl) (by kernel_rfl) (fun _ _ _ h=>h) (Or.inl ⟨by kernel_rfl,?_⟩) iT ?_
    rotate_left
    ·intro w' hw'; have x0:=hw'; go_simp; with_reducible rfl
    refine wpAnyH_take (i:=14) (v:=?_) rfl (by kernel_rfl) (by kernel_rfl) (by kernel_rfl) (fun _ _ _ h=>h) (Or.inl ⟨by kernel_rfl,?_⟩) iT ?_
    rotate_left
    ·intro w' hw'; have x0:=hw'; go_simp; with_reducible rfl
    refine wpAnyH_ready (rs:=[15]) (by kernel_rfl) (by simp) ?_
    refine AllReadyH.cons rfl (fun K hK=>?_) AllReadyH.nil
    go_simp
    refine hK.out _ _ F.o.2 (fun hS5=>?_)
    clear hK K
    refine wpAnyH_done (by kernel_rfl) ?_ _
    try simp only [qM,oD,nQ,om,fQ,fT,fP]
    clear hA hbs c14 g0 n14 m5 f5 iT hS5 hS hS2
    go_wp2
    go_end0
    exact ⟨rfl,F.o.1⟩
   ·obtain ⟨vt,vf,vd,va,vs,vr,ho⟩:=D.o.1.own
    obtain ⟨kF,cap0,rfl⟩:=yh ho.data
    have HO:=hid ho
    have hlen:st1.obj.data.length+ws.length<=64:=by have:=ROOM.o; unfold As.limit As.bK at this; simp [ES.o] at this; omega
    have g0:=ho.blk.cell 2
    simp only [bC,bG,bE] at g0
    have c14:=rQ D.o.1
    have hA:Hd (w2.drew.ownsRow B 3 1 (.slice kF st1.obj.data.length cap0) st1.obj.data.length (st1.obj.data.map (Value.int .i64))):=ho.data.drew
    have Jo:Hd (pU w2.drew ao cap ws):=sD.o.grown (yi (World.grownBy.refl _ _))
    have hbs:Hd (B<=w2.drew.heap.size):=D.o.1.size
    have hb0:Hd (some b≠Value.ownBlock (.slice kF st1.obj.data.length cap0)):=fun e=>ho.apart.ne (i:=0) (j:=4) rfl rfl (by omega) b rfl e.symm
    have hg0:Hd (some g≠Value.ownBlock (.slice kF st1.obj.data.length cap0)):=fun e=>ho.apart.ne (i:=1) (j:=4) rfl rfl (by omega) g rfl e.symm
    have KB:Hd (∀ w3,w2.grownBy w3 (Value.ownBlock (.slice kF st1.obj.data.length cap0))->w3.cell? ⟨b,14,none⟩=some (.pointer (some ⟨g,0,none⟩))):=fun w3 h=>h.cell c14 hb0.o
    have KG:Hd (∀ w3,w2.grownBy w3 (Value.ownBlock (.slice kF st1.obj.data.length cap0))->yc w3 g #[vt,vf,.slice kF st1.obj.data.length cap0,.int .i64 st1.obj.bss,va,vs,vr] 71):=fun w3 h=>HO.o.blk.grown h hg0.o
    have FIN:Hd (∀ w3 fA cap',w2.grownBy w3 (Value.ownBlock (.slice kF st1.obj.data.length cap0))->(Value.ownBlock (.slice fA (st1.obj.data.length+ws.length) cap')=Value.ownBlock (.slice kF st1.obj.data.length cap0)\/Value.ownBlock (.slice fA (st1.obj.data.length+ws.length) cap')=some w2.heap.size)->w3.ownsRow B 3 1 (.slice fA (st1.obj.data.length+ws.length) cap') (st1.obj.data.length+ws.length) (st1.obj.data.map (Value.int .i64) ++ ws.map (Value.int .i64)) ->
      Does B s b g W X (w3.setCell ⟨g,2,none⟩ (.slice fA (st1.obj.data.length+ws.length) cap'))/\(w3.setCell ⟨g,2,none⟩ (.slice fA (st1.obj.data.length+ws.length) cap')).cell? ⟨b,14,none⟩=some (.pointer (some ⟨g,0,none⟩))):=fun w3 fA cap' gd hat hown=>by
     have nr:lY B w2 (w3.setCell ⟨g,2,none⟩ (.slice fA (st1.obj.data.length+ws.length) cap')) b g (.slice kF st1.obj.data.length cap0) (.slice fA (st1.obj.data.length+ws.length) cap'):=lY.app0 gd hat
     have nb:=(KG.o w3 gd).set 2 (.slice fA (st1.obj.data.length+ws.length) cap')
     have gs:=yf w3 g 2 (.slice fA (st1.obj.data.length+ws.length) cap')
     refine ⟨?_,gs.cell (KB.o w3 gd) (by simpa using fun e=>D.o.1.lo.2.2.2 e)⟩
     rw [show X={ st1 with obj:={ st1.obj with data:=st1.obj.data ++ ws } } from by rw [RX.o]; unfold As.aI; simp [ES.o]]
     refine D.o.after (D.o.1.CJ HO.o nr (st1.obj.data ++ ws) (by rw [fu]; exact hlen) (by simpa using nb) ?_)
     rw [fu,List.map_append]
     exact GI hown (fun k hk=>by
      rcases hat with h1 | h1
      ·rw [h1] at hk
       exact fun e=>hg0.o (by rw [e,hk])
      ·rw [h1] at hk
       simp at hk
       have:=HO.o.blk.lt
       omega)
    have hsc:=hid (show w2.cell? ⟨b,13,none⟩=some (.int .i64 3) from by have:=tH D.o.1; rw [ES.o] at this; exact this)
    have hsc2:=hsc.o
    clear ho
    go_wp2
    clear hsc2
    refine wp_region_held_drew (S:=(fun w'=>w'.cell? ⟨b,14,none⟩=some (.pointer (some ⟨g,0,none⟩)))) (by kernel_rfl) c14 ?_
    intro hS
    refine wpAnyH_take (i:=0) (v:=?_) rfl (by kernel_rfl) (by kernel_rfl) (by kernel_rfl) (fun _ _ _ h=>h) (Or.inl ⟨by kernel_rfl,?_⟩) hS ?_
    rotate_left
    ·intro w' hw'; have x0:=hw'; go_simp; with_reducible rfl
    refine wpAnyH_take (i:=1) (v:=?_) rfl (by kernel_rfl) (by kernel_rfl) (by kernel_rfl) (fun _ _ _ h=>h) (Or.inl ⟨by kernel_rfl,?_⟩) hS ?_
    rotate_left
    ·intro w' hw'; have x0:=hw'; go_simp; with_reducible rfl
    refine wpAnyH_take (i:=2) (v:=?_) rfl (by kernel_rfl) (by kernel_rfl) (by kernel_rfl) (fun _ _ _ h=>h) (Or.inl ⟨by kernel_rfl,?_⟩) hS ?_
    rotate_left
    ·intro w' hw'; have x0:=hw'; go_simp; with_reducible rfl
    refine wpAnyH_take (i:=3) (v:=?_) rfl (by kernel_rfl) (by kernel_rfl) (by kernel_rfl) (fun _ _ _ h=>h) (Or.inl ⟨by kernel_rfl,?_⟩) hS ?_
    rotate_left
    ·intro w' hw'; have x0:=hw'; go_simp; with_reducible rfl
    refine wpAnyH_take (i:=4) (v:=?_) rfl (by kernel_rfl) (by kernel_rfl) (by kernel_rfl) (fun _ _ _ h=>h) (Or.inl ⟨by kernel_rfl,?_⟩) hS ?_
    rotate_left
    ·intro w' hw'; have x0:=hw'; go_simp; with_reducible rfl
    refine wpAnyH_take (i:=5) (v:=?_) rfl (by kernel_rfl) (by kernel_rfl) (by kernel_rfl) (fun _ _ _ h=>h) (Or.inl ⟨by kernel_rfl,?_⟩) hS ?_
    rotate_left
    ·intro w' hw'; have x0:=hw'; go_simp; with_reducible rfl
    refine wpAnyH_take (i:=6) (v:=?_) rfl (by kernel_rfl) (by kernel_rfl) (by kernel_rfl) (fun _ _ _ h=>h) (Or.inl ⟨by kernel_rfl,?_⟩) hS ?_
    rotate_left
    ·intro w' hw'; have x0:=hw'; go_simp; with_reducible rfl
    refine wpAnyH_take (i:=7) (v:=?_) rfl (by kernel_rfl) (by kernel_rfl) (by kernel_rfl) (fun _ _ _ h=>h) (Or.inl ⟨by kernel_rfl,?_⟩) hS ?_
    rotate_left
    ·intro w' hw'; have x0:=hw'; go_simp; with_reducible rfl
    refine wpAnyH_take (i:=8) (v:=?_) rfl (by kernel_rfl) (by kernel_rfl) (by kernel_rfl) (fun _ _ _ h=>h) (Or.inl ⟨by kernel_rfl,?_⟩) hS ?_
    rotate_left
    ·intro w' hw'; have x0:=hw'; go_simp; with_reducible rfl
    refine wpAnyH_take (i:=9) (v:=?_) rfl (by kernel_rfl) (by kernel_rfl) (by kernel_rfl) (fun _ _ _ h=>h) (Or.inl ⟨by kernel_rfl,?_⟩) hS ?_
    rotate_left
    ·intro w' hw'; have x0:=hw'; go_simp; with_reducible rfl
    refine wpAnyH_take (i:=11) (v:=?_) rfl (by kernel_rfl) (by kernel_rfl) (by kernel_rfl) (fun _ _ _ h=>h) (Or.inl ⟨by kernel_rfl,?_⟩) hS ?_
    rotate_left
    ·intro w' hw'; have x0:=hw'; go_simp; with_reducible rfl
    refine wpAnyH_ready (rs:=[10]) (by kernel_rfl) (by simp) ?_
    refine AllReadyH.cons rfl (fun K hK=>?_) AllReadyH.nil
    go_simp
    refine hK.out _ _ hS (fun hS2=>?_)
    clear hK K
    refine wpAnyH_ready (rs:=[12]) (by kernel_rfl) (by simp) ?_
    refine AllReadyH.cons rfl (fun K hK=>?_) AllReadyH.nil
    rw [if_pos (by kernel_rfl)]
    refine OO _ (.tmp 82) (.tmp 83) 35 rfl B i0 Tryz.underlying35 hi hz0 hz1 hz2 (.slice kF st1.obj.data.length cap0) st1.obj.data.length (st1.obj.data.map (Value.int .i64)) (by kernel_rfl) hA.o ao cap ws (by kernel_rfl) Jo.o (by omega) hbs.o ?_
    intro v' w3 hown' hgrow hat
    obtain ⟨fA,cap',rfl⟩:=yh hown'
    have gd:w2.grownBy w3 (Value.ownBlock (.slice kF st1.obj.data.length cap0)):=⟨hgrow.os,hgrow.tape,hgrow.output,hgrow.size,hgrow.block⟩
    have jC:Value.ownBlock (.slice fA (st1.obj.data.length+ws.length) cap')=Value.ownBlock (.slice kF st1.obj.data.length cap0)\/Value.ownBlock (.slice fA (st1.obj.data.length+ws.length) cap')=some w2.heap.size:=hat
    have F:=hid (FIN.o _ _ _ gd jC hown')
    have n14:=KB.o _ gd
    have ng:=KG.o _ gd
    have m5:=ng.cell 2
    have f5:=ng.free 2
    simp only [bC,bG,bE] at m5
    clear hown' hgrow gd hat jC ng
    refine hK.out _ _ n14 (fun iT=>?_)
    clear hK K
    refine wpAnyH_take (i:=13) (v:=?_) rfl (by kernel_rfl) (by kernel_rfl) (by kernel_rfl) (fun _ _ _ h=>h) (Or.inl ⟨by kernel_rfl,?_⟩) iT ?_
    rotate_left
    ·intro w' hw'; have x0:=hw'; go_simp; with_reducible rfl
    refine wpAnyH_take (i:=14) (v:=?_) rfl (by kernel_rfl) (by kernel_rfl) (by kernel_rfl) (fun _ _ _ h=>h) (Or.inl ⟨by kernel_rfl,?_⟩) iT ?_
    rotate_left
    ·intro w' hw'; have x0:=hw'; go_simp; with_reducible rfl
    refine wpAnyH_ready (rs:=[15]) (by kernel_rfl) (by simp) ?_
    refine AllReadyH.cons rfl (fun K hK=>?_) AllReadyH.nil
    go_simp
    refine hK.out _ _ F.o.2 (fun hS5=>?_)
    clear hK K
    refine wpAnyH_done (by kernel_rfl) ?_ _
    try simp only [qM,oD,nQ,om,fQ,fT,fP]
    clear hA hbs c14 g0 n14 m5 f5 iT hS5 hS hS2
    go_wp2
    go_end0
    exact ⟨rfl,F.o.1⟩
   ·obtain ⟨vt,vf,vd,va,vs,vr,ho⟩:=D.o.1.own
    have HO:=hid ho
    have hlen:st1.obj.bss+ws.length<=64:=by have:=ROOM.o; unfold As.limit As.bK at this; simp [ES.o] at this; omega
    have hb1:=D.o.1.ok.bss
    have g0:=ho.blk.cell 3
    have f0:=ho.blk.free 3
    simp only [bC,bG,bE] at g0
    have c14:=rQ D.o.1
    have hsc2:w2.cell? ⟨b,13,none⟩=some (.int .i64 4):=by have:=tH D.o.1; rw [ES.o] at this; exact this
    have X0:=hid (show X={ st1 with obj:={ st1.obj with bss:=st1.obj.bss+ws.length } } from by rw [RX.o]; unfold As.aI; simp [ES.o])
    clear ho
    go_wp2
    go_end0
    rw [X0.o]
    exact ⟨rfl,D.o.after (D.o.1.Fp HO.o _ ⟨by omega,by omega⟩)⟩
  ·rw [hf,if_pos rfl] at RS
   clear hf
   go_wp2
   (try simp only [Exit.inBlock,Exit.then]); refine bodyPost_ret (results_none rfl _ _ _) rfl ?_
   rw [RS.o]
   exact ⟨rfl,D.o⟩
theorem ypA {w:World} {base:Nat} {e t:TypeId} {size n:Nat} {v:Value} {xs:List Value} {k:Nat} {cs:Array Value} (h:w.ownsRow base e size v n xs) (hk:v.ownBlock=some k) (hb:yc w k cs t) (hne:e≠t):False:=by
 rcases h.2 with ⟨rfl,_⟩ | ⟨g',cap,cur,rfl,_,hg,_⟩
 ·simp [Value.ownBlock] at hk
 ·obtain rfl:g'=k:=by simpa [Value.ownBlock] using hk
  have:=hg.symm.trans hb
  simp at this
  exact hne this.2
theorem yl.vC {B:Nat} {s:ByteArray} {b g:Nat} {V W':World} {st:As.St} {vt vf vd va vs vr v':Value} (h:yl B s b g st V) (ho:qy B V b g st.obj vt vf vd va vs vr) (n:lY B V W' b g vr v') (ys:List Lk.Rel) (hys:ys.length<=32)
  (hblk:yc W' g #[vt,vf,vd,.int .i64 st.obj.bss,va,vs,v'] 71) (hown:W'.ownsRow B 102 5 v' ys.length (ys.flatMap gZ)):Does B s b g V { st with obj:={ st.obj with aj:=ys } } W':=by
 refine n.does h ho (i:=7) rfl (by omega) ⟨vt,vf,vd,va,vs,v',hblk,?_,?_,?_,?_,?_,hown,n.apart ho h.blk.lt (i:=7) rfl⟩ rfl (h.ok.uH _ h.ok.text h.ok.far h.ok.data h.ok.bss h.ok.align h.ok.syms hys) (D8 ho.aj (by simp))
 ·exact n.row ho (i:=7) (j:=2) rfl rfl (by omega) (by omega) ho.text
 ·exact n.row ho (i:=7) (j:=3) rfl rfl (by omega) (by omega) ho.far
 ·exact n.row ho (i:=7) (j:=4) rfl rfl (by omega) (by omega) ho.data
 ·exact n.row ho (i:=7) (j:=5) rfl rfl (by omega) (by omega) ho.align
 ·exact n.row ho (i:=7) (j:=6) rfl rfl (by omega) (by omega) ho.syms
set_option maxRecDepth 100000 in
theorem DW (B:Nat) (s:ByteArray) (b g:Nat) (st:As.St) (kind:Int) (sym:Nat) (addend:Int) (ao:Option Addr) (cap:Nat) (ws:List Int) (W:World) (h:yl B s b g st W) (hw:pU W ao cap ws) (hn:ws.length<=4096) :
  Calls Tryz.prog 195 #[.pointer (some ⟨b,0,none⟩),.int .i64 kind,.int .i64 sym,.int .i64 addend,.slice ao ws.length cap] W fun en W'=>en = .returned (.tuple #[])/\Does B s b g W (As.dS kind sym addend ws st) W':=by
 obtain ⟨i2,hi2,hx0,hx1,hx2⟩:=info_parts Tryz.qX
 have HW:=hid h
 have xR:=hid hw
 have hpos:=h.ok.op.pos
 have Yv:=h.ok.aj
 have hsb:=Px h.ok
 have RS:=hid (show As.dS kind sym addend ws st=if As.failed (As.aW (decide (32<=st.obj.aj.length)) 12 st.op.pos st) then As.aW (decide (32<=st.obj.aj.length)) 12 st.op.pos st else
  As.lay ws { As.aW (decide (32<=st.obj.aj.length)) 12 st.op.pos st with obj:={ (As.aW (decide (32<=st.obj.aj.length)) 12 st.op.pos st).obj with aj:=(As.aW (decide (32<=st.obj.aj.length)) 12 st.op.pos st).obj.aj ++ [⟨(As.aW (decide (32<=st.obj.aj.length)) 12 st.op.pos st).ah,4 * As.bK (As.aW (decide (32<=st.obj.aj.length)) 12 st.op.pos st).obj (As.aW (decide (32<=st.obj.aj.length)) 12 st.op.pos st).ah,kind,sym,addend⟩] } } from rfl)
 generalize As.dS kind sym addend ws st=X at *
 have c14:=rQ h
 obtain ⟨vt0,vf0,Tk,va0,YV,vr0,ho0⟩:=h.own
 obtain ⟨ar0,cr0,rfl⟩:=yh ho0.aj
 have N9:=ho0.blk.cell 6
 simp only [bC,bG,bE] at N9
 clear ho0
 have c10:=Mt h
 clear h hw
 go_enter Tryz.func195,Tryz.ntmps195
 by_cases h32:32<=st.obj.aj.length
 ·have D1:decide ((32:Int)<=(st.obj.aj.length:Int))=true:=by simp; omega
  rw [show decide (32<=st.obj.aj.length)=true by simp; omega] at RS
  clear h32
  go_wp2_with fail
  refine (yJ B s b g st 12 st.op.pos W HW.o (by omega) hpos).mono ?_
  rintro e V2 ⟨rfl,h2⟩
  have D2:=hid (h2.does HW.o)
  have KQ:=hid (show As.failed (As.refuse 12 st.op.pos st)=true from Lf _ _ _ (by omega))
  clear h2 c10 c14 N9
  go_wp2_with fail
  refine (AZ B s b g _ V2 D2.o.1).mono ?_
  rintro e w2 ⟨rfl,rfl⟩
  rw [KQ.o]
  go_wp2
  (try simp only [Exit.inBlock,Exit.then]); refine bodyPost_ret (results_none rfl _ _ _) rfl ?_
  rw [RS.o]
  refine ⟨rfl,?_⟩
  simp only [As.aW,if_true,KQ.o]
  exact D2.o
 ·have D1:decide ((32:Int)<=(st.obj.aj.length:Int))=false:=by simp; omega
  rw [show decide (32<=st.obj.aj.length)=false by simp; omega] at RS
  simp only [As.aW,Bool.false_eq_true,if_false] at RS
  go_wp2_with fail
  refine (AZ B s b g st W HW.o).mono ?_
  rintro e w2 ⟨rfl,rfl⟩
  cases hf:As.failed st
  ·rw [hf,if_neg (by simp)] at RS
   clear hf
   have cL:=hid (fun V hV=>Hl B s b g st V hV)
   have HD0:=hid (fun n=>HW.o.jI.drewN n)
   have c13:=tH HW.o
   generalize hq:As.bK st.obj st.ah=q at *
   have RX:=hid RS.o
   clear RS hq
   go_wp2
   go_quiet ((go_at_call 87; exact Calls.quiet_of_same (cL.o _ (HD0.o _).1)))
   have D:=hid ((HD0.o nq).does HW.o)
   have sD:=hid (xR.o.grown (ye (World.grownBy.refl _ _) nq))
   clear HD0 c13 c14 cL xR c10 N9
   generalize w2.drewN nq=V1 at *
   obtain ⟨vt,vf,vd,va,vs,vr,ho⟩:=D.o.1.own
   obtain ⟨ar,cr,rfl⟩:=yh ho.aj
   have HO:=hid ho
   have c13:=tH D.o.1
   have c14:=rQ D.o.1
   have g6:=ho.blk.cell 6
   simp only [bC,bG,bE] at g6
   have hgl:g < V1.heap.size:=ho.blk.lt
   have hn32:st.obj.aj.length+1<=32:=by omega
   have GA:=hid (aH V1 (.cells #[.int .i64 st.ah,.int .i64 (4 * q),.int .i64 kind,.int .i64 sym,.int .i64 addend] 102) none)
   have Bz:Hd ((V1.alloc (.cells #[.int .i64 st.ah,.int .i64 (4 * q),.int .i64 kind,.int .i64 sym,.int .i64 addend] 102)).drew.cell? ⟨b,14,none⟩=some (.pointer (some ⟨g,0,none⟩))):=yd c14 (yi GA.o)
   have BA:Hd ((V1.alloc (.cells #[.int .i64 st.ah,.int .i64 (4 * q),.int .i64 kind,.int .i64 sym,.int .i64 addend] 102)).drew.cell? ⟨b,13,none⟩=some (.int .i64 st.ah)):=yd c13 (yi GA.o)
   have hb0:Hd (some b≠Value.ownBlock (.slice ar st.obj.aj.length cr)):=fun e=>ho.apart.ne (i:=0) (j:=7) rfl rfl (by omega) b rfl e.symm
   have hg0:Hd (some g≠Value.ownBlock (.slice ar st.obj.aj.length cr)):=fun e=>ho.apart.ne (i:=1) (j:=7) rfl rfl (by omega) g rfl e.symm
   have oG:Hd (∀ w3,(V1.alloc (.cells #[.int .i64 st.ah,.int .i64 (4 * q),.int .i64 kind,.int .i64 sym,.int .i64 addend] 102)).grownBy w3 (Value.ownBlock (.slice ar st.obj.aj.length cr))->w3.cell? ⟨b,14,none⟩=some (.pointer (some ⟨g,0,none⟩))):=fun w3 h=>h.cell Bz.o hb0.o
   have oH:Hd (∀ w3,(V1.alloc (.cells #[.int .i64 st.ah,.int .i64 (4 * q),.int .i64 kind,.int .i64 sym,.int .i64 addend] 102)).grownBy w3 (Value.ownBlock (.slice ar st.obj.aj.length cr))->w3.cell? ⟨b,13,none⟩=some (.int .i64 st.ah)):=fun w3 h=>h.cell BA.o hb0.o
   have oI:Hd (∀ w3,(V1.alloc (.cells #[.int .i64 st.ah,.int .i64 (4 * q),.int .i64 kind,.int .i64 sym,.int .i64 addend] 102)).grownBy w3 (Value.ownBlock (.slice ar st.obj.aj.length cr))->yc w3 g #[vt,vf,vd,.int .i64 st.obj.bss,va,vs,.slice ar st.obj.aj.length cr] 71):=fun w3 h=>(HO.o.blk.grown GA.o (by simp)).grown h hg0.o
   have hgb:Hd (g≠b):=fun e=>D.o.1.lo.2.2.2 e.symm
   have FIN:Hd (∀ w3 fA cap',(V1.alloc (.cells #[.int .i64 st.ah,.int .i64 (4 * q),.int .i64 kind,.int .i64 sym,.int .i64 addend] 102)).grownBy w3 (Value.ownBlock (.slice ar st.obj.aj.length cr))->(Value.ownBlock (.slice fA (st.obj.aj.length+1) cap')=Value.ownBlock (.slice ar st.obj.aj.length cr)\/Value.ownBlock (.slice fA (st.obj.aj.length+1) cap')=some (V1.alloc (.cells #[.int .i64 st.ah,.int .i64 (4 * q),.int .i64 kind,.int .i64 sym,.int .i64 addend] 102)).heap.size) ->
     w3.ownsRow B 102 5 (.slice fA (st.obj.aj.length+1) cap') (st.obj.aj.length+1) (st.obj.aj.flatMap gZ ++ [.int .i64 st.ah,.int .i64 (4 * q),.int .i64 kind,.int .i64 sym,.int .i64 addend]) ->
     Does B s b g w2 { st with obj:={ st.obj with aj:=st.obj.aj ++ [⟨st.ah,4 * q,kind,sym,addend⟩] } } (w3.setCell ⟨g,6,none⟩ (.slice fA (st.obj.aj.length+1) cap'))/\pU (w3.setCell ⟨g,6,none⟩ (.slice fA (st.obj.aj.length+1) cap')) ao cap ws/\(w3.setCell ⟨g,6,none⟩ (.slice fA (st.obj.aj.length+1) cap')).cell? ⟨b,14,none⟩=some (.pointer (some ⟨g,0,none⟩))/\(w3.setCell ⟨g,6,none⟩ (.slice fA (st.obj.aj.length+1) cap')).cell? ⟨b,13,none⟩=some (.int .i64 st.ah)):=fun w3 fA cap' gd hat hown=>by
    have nr:lY B V1 (w3.setCell ⟨g,6,none⟩ (.slice fA (st.obj.aj.length+1) cap')) b g (.slice ar st.obj.aj.length cr) (.slice fA (st.obj.aj.length+1) cap'):=lY.app (fun k hk=>(HO.o.aj.lt k hk).2) gd hat
    have nb:=(oI.o w3 gd).set 6 (.slice fA (st.obj.aj.length+1) cap')
    have gs:=yf w3 g 6 (.slice fA (st.obj.aj.length+1) cap')
    refine ⟨D.o.after (D.o.1.vC HO.o nr _ (by simp; omega) (by simpa using nb) ?_),?_,gs.cell (oG.o w3 gd) (by simpa using hgb.o.symm),gs.cell (oH.o w3 gd) (by simpa using hgb.o.symm)⟩
    ·have e:(st.obj.aj ++ [(⟨st.ah,4 * q,kind,sym,addend⟩:Lk.Rel)]).flatMap gZ=st.obj.aj.flatMap gZ ++ [.int .i64 st.ah,.int .i64 (4 * q),.int .i64 kind,.int .i64 sym,.int .i64 addend]:=by rw [List.flatMap_append]; rfl
     rw [e,fu,List.length_singleton]
     exact GI hown (fun k hk=>by
      rcases hat with h1 | h1
      ·rw [h1] at hk
       exact fun e=>hg0.o (by rw [e,hk])
      ·rw [h1] at hk
       simp at hk
       omega)
    ·refine sD.o.kept fun k cs hb _=>(nr.keep k hb.lt ?_ ?_).trans hb
     ·intro e
      obtain ⟨-,cs',t',hb',ht'⟩:=D8 HO.o.aj (by simp) k e.symm
      exact ypA HO.o.aj e.symm hb (by decide)
     ·rintro rfl
      have:=hb.symm.trans HO.o.blk
      simp at this
   have hA:Hd ((V1.alloc (.cells #[.int .i64 st.ah,.int .i64 (4 * q),.int .i64 kind,.int .i64 sym,.int .i64 addend] 102)).drew.ownsRow B 102 5 (.slice ar st.obj.aj.length cr) st.obj.aj.length (st.obj.aj.flatMap gZ)):=(HO.o.aj.alloc _).drew
   have hN:Hd (∀ j u,([.int .i64 st.ah,.int .i64 (4 * q),.int .i64 kind,.int .i64 sym,.int .i64 addend]:List Value)[j]?=some u->(V1.alloc (.cells #[.int .i64 st.ah,.int .i64 (4 * q),.int .i64 kind,.int .i64 sym,.int .i64 addend] 102)).drew.cell? ((⟨V1.heap.size,0,none⟩:Addr).add j)=some u):=World.news_of_block (heap_alloc_new V1 (.cells #[.int .i64 st.ah,.int .i64 (4 * q),.int .i64 kind,.int .i64 sym,.int .i64 addend] 102))
   have gQ:Hd (∀ u∈([.int .i64 st.ah,.int .i64 (4 * q),.int .i64 kind,.int .i64 sym,.int .i64 addend]:List Value),u.oneCell'=true):=by intro u hu; simp at hu; rcases hu with rfl | rfl | rfl | rfl | rfl <;> rfl
   have h63:Hd (st.obj.aj.length+1<=maxLen):=by show _<=_; unfold maxLen; omega
   have hby:Hd ((st.obj.aj.length+1) * 40<=140737488355328):=by show _<=_; omega
   have hbs:Hd (B<=(V1.alloc (.cells #[.int .i64 st.ah,.int .i64 (4 * q),.int .i64 kind,.int .i64 sym,.int .i64 addend] 102)).drew.heap.size):=by have:=D.o.1.size; show _<=_; simp; omega
   clear ho
   go_wp2
   refine wp_region_held_drew (S:=(fun w'=>w'.cell? ⟨b,14,none⟩=some (.pointer (some ⟨g,0,none⟩))/\w'.cell? ⟨b,13,none⟩=some (.int .i64 st.ah))) (by kernel_rfl) ⟨c14,c13⟩ ?_
   intro hS
   refine wpAnyH_take (i:=0) (v:=?_) rfl (by kernel_rfl) (by kernel_rfl) (by kernel_rfl) (fun _ _ _ h=>h) (Or.inl ⟨by kernel_rfl,?_⟩) hS ?_
   rotate_left
   ·intro w' hw'; obtain ⟨x0,x1⟩:=hw'; go_simp; with_reducible rfl
   refine wpAnyH_take (i:=1) (v:=?_) rfl (by kernel_rfl) (by kernel_rfl) (by kernel_rfl) (fun _ _ _ h=>h) (Or.inl ⟨by kernel_rfl,?_⟩) hS ?_
   rotate_left
   ·intro w' hw'; obtain ⟨x0,x1⟩:=hw'; go_simp; with_reducible rfl
   refine wpAnyH_take (i:=2) (v:=?_) rfl (by kernel_rfl) (by kernel_rfl) (by kernel_rfl) (fun _ _ _ h=>h) (Or.inl ⟨by kernel_rfl,?_⟩) hS ?_
   rotate_left
   ·intro w' hw'; obtain ⟨x0,x1⟩:=hw'; go_simp; with_reducible rfl
   refine wpAnyH_take (i:=3) (v:=?_) rfl (by kernel_rfl) (by kernel_rfl) (by kernel_rfl) (fun _ _ _ h=>h) (Or.inl ⟨by kernel_rfl,?_⟩) hS ?_
   rotate_left
   ·intro w' hw'; obtain ⟨x0,x1⟩:=hw'; go_simp; with_reducible rfl
   refine wpAnyH_take (i:=4) (v:=?_) rfl (by kernel_rfl) (by kernel_rfl) (by kernel_rfl) (fun _ _ _ h=>h) (Or.inl ⟨by kernel_rfl,?_⟩) hS ?_
   rotate_left
   ·intro w' hw'; obtain ⟨x0,x1⟩:=hw'; go_simp; with_reducible rfl
   refine wpAnyH_take (i:=5) (v:=?_) rfl (by kernel_rfl) (by kernel_rfl) (by kernel_rfl) (fun _ _ _ h=>h) (Or.inl ⟨by kernel_rfl,?_⟩) hS ?_
   rotate_left
   ·intro w' hw'; obtain ⟨x0,x1⟩:=hw'; go_simp; with_reducible rfl
   refine wpAnyH_take (i:=6) (v:=?_) rfl (by kernel_rfl) (by kernel_rfl) (by kernel_rfl) (fun _ _ _ h=>h) (Or.inl ⟨by kernel_rfl,?_⟩) hS ?_
   rotate_left
   ·intro w' hw'; obtain ⟨x0,x1⟩:=hw'; go_simp; with_reducible rfl
   refine wpAnyH_take (i:=7) (v:=?_) rfl (by kernel_rfl) (by kernel_rfl) (by kernel_rfl) (fun _ _ _ h=>h) (Or.inl ⟨by kernel_rfl,?_⟩) hS ?_
   rotate_left
   ·intro w' hw'; obtain ⟨x0,x1⟩:=hw'; go_simp; with_reducible rfl
   refine wpAnyH_take (i:=8) (v:=?_) rfl (by kernel_rfl) (by kernel_rfl) (by kernel_rfl) (fun _ _ _ h=>h) (Or.inl ⟨by kernel_rfl,?_⟩) hS ?_
   rotate_left
   ·intro w' hw'; obtain ⟨x0,x1⟩:=hw'; go_simp; with_reducible rfl
   refine wpAnyH_take (i:=9) (v:=?_) rfl (by kernel_rfl) (by kernel_rfl) (by kernel_rfl) (fun _ _ _ h=>h) (Or.inl ⟨by kernel_rfl,?_⟩) hS ?_
   rotate_left
   ·intro w' hw'; obtain ⟨x0,x1⟩:=hw'; go_simp; with_reducible rfl
   refine wpAnyH_take (i:=11) (v:=?_) rfl (by kernel_rfl) (by kernel_rfl) (by kernel_rfl) (fun _ _ _ h=>h) (Or.inl ⟨by kernel_rfl,?_⟩) hS ?_
   rotate_left
   ·intro w' hw'; obtain ⟨x0,x1⟩:=hw'; go_simp; with_reducible rfl
   refine wpAnyH_take (i:=12) (v:=?_) rfl (by kernel_rfl) (by kernel_rfl) (by kernel_rfl) (fun _ _ _ h=>h) (Or.inl ⟨by kernel_rfl,?_⟩) hS ?_
   rotate_left
   ·intro w' hw'; obtain ⟨x0,x1⟩:=hw'; go_simp; with_reducible rfl
   refine wpAnyH_take (i:=13) (v:=?_) rfl (by kernel_rfl) (by kernel_rfl) (by kernel_rfl) (fun _ _ _ h=>h) (Or.inl ⟨by kernel_rfl,?_⟩) hS ?_
   rotate_left
   ·intro w' hw'; obtain ⟨x0,x1⟩:=hw'; go_simp; with_reducible rfl
   refine wpAnyH_take (i:=14) (v:=?_) rfl (by kernel_rfl) (by kernel_rfl) (by kernel_rfl) (fun _ _ _ h=>h) (Or.inl ⟨by kernel_rfl,?_⟩) hS ?_
   rotate_left
   ·intro w' hw'; obtain ⟨x0,x1⟩:=hw'; go_simp; with_reducible rfl
   refine wpAnyH_take (i:=15) (v:=?_) rfl (by kernel_rfl) (by kernel_rfl) (by kernel_rfl) (fun _ _ _ h=>h) (Or.inl ⟨by kernel_rfl,?_⟩) hS ?_
   rotate_left
   ·intro w' hw'; obtain ⟨x0,x1⟩:=hw'; go_simp; with_reducible rfl
   refine wpAnyH_take (i:=16) (v:=?_) rfl (by kernel_rfl) (by kernel_rfl) (by kernel_rfl) (fun _ _ _ h=>h) (Or.inl ⟨by kernel_rfl,?_⟩) hS ?_
   rotate_left
   ·intro w' hw'; obtain ⟨x0,x1⟩:=hw'; go_simp; with_reducible rfl
   refine wpAnyH_take (i:=17) (v:=?_) rfl (by kernel_rfl) (by kernel_rfl) (by kernel_rfl) (fun _ _ _ h=>h) (Or.inl ⟨by kernel_rfl,?_⟩) hS ?_
   rotate_left
   ·intro w' hw'; obtain ⟨x0,x1⟩:=hw'; go_simp; with_reducible rfl
   refine wpAnyH_take (i:=18) (v:=?_) rfl (by kernel_rfl) (by kernel_rfl) (by kernel_rfl) (fun _ _ _ h=>h) (Or.inl ⟨by kernel_rfl,?_⟩) hS ?_
   rotate_left
   ·intro w' hw'; obtain ⟨x0,x1⟩:=hw'; go_simp; with_reducible rfl
   refine wpAnyH_take (i:=19) (v:=?_) rfl (by kernel_rfl) (by kernel_rfl) (by kernel_rfl) (fun _ _ _ h=>h) (Or.inl ⟨by kernel_rfl,?_⟩) hS ?_
   rotate_left
   ·intro w' hw'; obtain ⟨x0,x1⟩:=hw'; go_simp; with_reducible rfl
   refine wpAnyH_ready (rs:=[10,20]) (by kernel_rfl) (by simp) ?_
   refine AllReadyH.cons rfl (fun K hK=>?_) (AllReadyH.cons rfl (fun K hK=>?_) AllReadyH.nil)
   ·go_simp
    refine hK.out _ _ hS (fun hS2=>?_)
    clear hK K
    refine wpAnyH_ready (rs:=[20]) (by kernel_rfl) (by simp) ?_
    refine AllReadyH.cons rfl (fun K hK=>?_) AllReadyH.nil
    go_simp
    refine hK.out _ _ ⟨Bz.o,BA.o⟩ (fun iP=>?_)
    clear hK K hS2 iP
    refine wpAnyH_ready (rs:=[21]) (by kernel_rfl) (by simp) ?_
    refine AllReadyH.cons rfl (fun K hK=>?_) AllReadyH.nil
    rw [if_pos (by kernel_rfl)]
    refine yZ _ (.tmp 48) (.tmp 58) 69 rfl B 102 i2 (.agg #[.int .i64 0,.int .i64 0,.int .i64 0,.int .i64 0,.int .i64 0]) 5 40 Tryz.underlying69 hi2 hx0 hx1 hx2 rfl (by decide) (.slice ar st.obj.aj.length cr) st.obj.aj.length (st.obj.aj.flatMap gZ) (by kernel_rfl) hA.o ⟨V1.heap.size,0,none⟩ 1 1 [.int .i64 st.ah,.int .i64 (4 * q),.int .i64 kind,.int .i64 sym,.int .i64 addend] (by kernel_rfl) rfl hN.o gQ.o h63.o hby.o hbs.o ?_
    intro v' w3 hown' hgrow _ hat
    obtain ⟨fA,cap',rfl⟩:=yh hown'
    have gd:(V1.alloc (.cells #[.int .i64 st.ah,.int .i64 (4 * q),.int .i64 kind,.int .i64 sym,.int .i64 addend] 102)).grownBy w3 (Value.ownBlock (.slice ar st.obj.aj.length cr)):=⟨hgrow.os,hgrow.tape,hgrow.output,hgrow.size,hgrow.block⟩
    have jC:Value.ownBlock (.slice fA (st.obj.aj.length+1) cap')=Value.ownBlock (.slice ar st.obj.aj.length cr)\/Value.ownBlock (.slice fA (st.obj.aj.length+1) cap')=some (V1.alloc (.cells #[.int .i64 st.ah,.int .i64 (4 * q),.int .i64 kind,.int .i64 sym,.int .i64 addend] 102)).heap.size:=hat
    have F:=hid (FIN.o _ _ _ gd jC hown')
    have n14:=oG.o _ gd
    have n13:=oH.o _ gd
    have ng:=oI.o _ gd
    have m5:=ng.cell 6
    have f5:=ng.free 6
    simp only [bC,bG,bE] at m5
    clear hown' hgrow gd hat jC ng
    refine hK.out _ _ ⟨n14,n13⟩ (fun iT=>?_)
    clear hK K
    refine wpAnyH_take (i:=22) (v:=?_) rfl (by kernel_rfl) (by kernel_rfl) (by kernel_rfl) (fun _ _ _ h=>h) (Or.inl ⟨by kernel_rfl,?_⟩) iT ?_
    rotate_left
    ·intro w' hw'; obtain ⟨x0,x1⟩:=hw'; go_simp; with_reducible rfl
    refine wpAnyH_take (i:=23) (v:=?_) rfl (by kernel_rfl) (by kernel_rfl) (by kernel_rfl) (fun _ _ _ h=>h) (Or.inl ⟨by kernel_rfl,?_⟩) iT ?_
    rotate_left
    ·intro w' hw'; obtain ⟨x0,x1⟩:=hw'; go_simp; with_reducible rfl
    refine wpAnyH_ready (rs:=[24]) (by kernel_rfl) (by simp) ?_
    refine AllReadyH.cons rfl (fun K hK=>?_) AllReadyH.nil
    go_simp
    refine hK.out _ _ ⟨F.o.2.2.1,F.o.2.2.2⟩ (fun hS5=>?_)
    clear hK K
    refine wpAnyH_done (by kernel_rfl) ?_ _
    try simp only [qM,oD,nQ,om,fQ,fT,fP]
    clear hA hN gQ h63 hby hbs c13 c14 g6 n14 n13 m5 f5 iT hS5 hS
    generalize World.setCell _ _ _=W5 at *
    go_wp2_with fail
    refine (Gb B s b g _ ao cap ws W5 F.o.1.1 F.o.2.1 hn).mono ?_
    rintro e W6 ⟨rfl,h6⟩
    have HF:=hid (F.o.1.after h6)
    clear h6
    go_wp2
    go_end0
    rw [RX.o]
    exact ⟨rfl,HF.o⟩
   ·go_simp
    refine hK.out _ _ ⟨Bz.o,BA.o⟩ (fun hS2=>?_)
    clear hK K
    refine wpAnyH_ready (rs:=[10]) (by kernel_rfl) (by simp) ?_
    refine AllReadyH.cons rfl (fun K hK=>?_) AllReadyH.nil
    go_simp
    refine hK.out _ _ ⟨Bz.o,BA.o⟩ (fun iP=>?_)
    clear hK K hS2 iP
    refine wpAnyH_ready (rs:=[21]) (by kernel_rfl) (by simp) ?_
    refine AllReadyH.cons rfl (fun K hK=>?_) AllReadyH.nil
    rw [if_pos (by kernel_rfl)]
    refine yZ _ (.tmp 48) (.tmp 58) 69 rfl B 102 i2 (.agg #[.int .i64 0,.int .i64 0,.int .i64 0,.int .i64 0,.int .i64 0]) 5 40 Tryz.underlying69 hi2 hx0 hx1 hx2 rfl (by decide) (.slice ar st.obj.aj.length cr) st.obj.aj.length (st.obj.aj.flatMap gZ) (by kernel_rfl) hA.o ⟨V1.heap.size,0,none⟩ 1 1 [.int .i64 st.ah,.int .i64 (4 * q),.int .i64 kind,.int .i64 sym,.int .i64 addend] (by kernel_rfl) rfl hN.o gQ.o h63.o hby.o hbs.o ?_
    intro v' w3 hown' hgrow _ hat
    obtain ⟨fA,cap',rfl⟩:=yh hown'
    have gd:(V1.alloc (.cells #[.int .i64 st.ah,.int .i64 (4 * q),.int .i64 kind,.int .i64 sym,.int .i64 addend] 102)).grownBy w3 (Value.ownBlock (.slice ar st.obj.aj.length cr)):=⟨hgrow.os,hgrow.tape,hgrow.output,hgrow.size,hgrow.block⟩
    have jC:Value.ownBlock (.slice fA (st.obj.aj.length+1) cap')=Value.ownBlock (.slice ar st.obj.aj.length cr)\/Value.ownBlock (.slice fA (st.obj.aj.length+1) cap')=some (V1.alloc (.cells #[.int .i64 st.ah,.int .i64 (4 * q),.int .i64 kind,.int .i64 sym,.int .i64 addend] 102)).heap.size:=hat
    have F:=hid (FIN.o _ _ _ gd jC hown')
    have n14:=oG.o _ gd
    have n13:=oH.o _ gd
    have ng:=oI.o _ gd
    have m5:=ng.cell 6
    have f5:=ng.free 6
    simp only [bC,bG,bE] at m5
    clear hown' hgrow gd hat jC ng
    refine hK.out _ _ ⟨n14,n13⟩ (fun iT=>?_)
    clear hK K
    refine wpAnyH_take (i:=22) (v:=?_) rfl (by kernel_rfl) (by kernel_rfl) (by kernel_rfl) (fun _ _ _ h=>h) (Or.inl ⟨by kernel_rfl,?_⟩) iT ?_
    rotate_left
    ·intro w' hw'; obtain ⟨x0,x1⟩:=hw'; go_simp; with_reducible rfl
    refine wpAnyH_take (i:=23) (v:=?_) rfl (by kernel_rfl) (by kernel_rfl) (by kernel_rfl) (fun _ _ _ h=>h) (Or.inl ⟨by kernel_rfl,?_⟩) iT ?_
    rotate_left
    ·intro w' hw'; obtain ⟨x0,x1⟩:=hw'; go_simp; with_reducible rfl
    refine wpAnyH_ready (rs:=[24]) (by kernel_rfl) (by simp) ?_
    refine AllReadyH.cons rfl (fun K hK=>?_) AllReadyH.nil
    go_simp
    refine hK.out _ _ ⟨F.o.2.2.1,F.o.2.2.2⟩ (fun hS5=>?_)
    clear hK K
    refine wpAnyH_done (by kernel_rfl) ?_ _
    try simp only [qM,oD,nQ,om,fQ,fT,fP]
    clear hA hN gQ h63 hby hbs c13 c14 g6 n14 n13 m5 f5 iT hS5 hS
    generalize World.setCell _ _ _=W5 at *
    go_wp2_with fail
    refine (Gb B s b g _ ao cap ws W5 F.o.1.1 F.o.2.1 hn).mono ?_
    rintro e W6 ⟨rfl,h6⟩
    have HF:=hid (F.o.1.after h6)
    clear h6
    go_wp2
    go_end0
    rw [RX.o]
    exact ⟨rfl,HF.o⟩
  ·rw [hf,if_pos rfl] at RS
   clear hf
   go_wp2
   (try simp only [Exit.inBlock,Exit.then]); refine bodyPost_ret (results_none rfl _ _ _) rfl ?_
   rw [RS.o]
   exact ⟨rfl,HW.o.does⟩
end Go.Proofs.YtpgklkhgfcjceaaGreatDoor
