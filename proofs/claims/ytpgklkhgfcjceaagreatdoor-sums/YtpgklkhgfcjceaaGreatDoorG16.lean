/- The assembler: words with a relocation. -/
/- Walks over instr.Encode. -/
/- Walks over instr.Encode, Parts. -/
/- Walks: one instruction laid, an address laid. -/
/- Walks: the instructions of a text. -/
import Derived.Test.YtpgklkhgfcjceaaGreatDoorG15
import Derived.Test.YtpgklkhgfcjceaaGreatDoorG01
import Derived.Test.YtpgklkhgfcjceaaGreatDoorG03
namespace Go.Proofs.YtpgklkhgfcjceaaGreatDoor
open Go.RowKit
theorem ypp {w:World} {base:Nat} {e t:TypeId} {size n:Nat} {v:Value} {xs:List Value} {k:Nat} {cs:Array Value} (h:w.ownsRow base e size v n xs) (hk:v.ownBlock=some k) (hb:yc w k cs t) (hne:e≠t):False:=by
 rcases h.2 with ⟨rfl,_⟩ | ⟨g',cap,cur,rfl,_,hg,_⟩
 ·simp [Value.ownBlock] at hk
 ·obtain rfl:g'=k:=by simpa [Value.ownBlock] using hk
  have:=hg.symm.trans hb
  simp at this
  exact hne this.2
theorem yl.newRels {B:Nat} {s:ByteArray} {b g:Nat} {V W':World} {st:As.St} {vt vf vd va vs vr v':Value} (h:yl B s b g st V) (ho:yaD B V b g st.obj vt vf vd va vs vr) (n:yaa B V W' b g vr v') (ys:List Lk.Rel) (hys:ys.length<=32)
  (hblk:yc W' g #[vt,vf,vd,.int .i64 st.obj.bss,va,vs,v'] 71) (hown:W'.ownsRow B 102 5 v' ys.length (ys.flatMap relV)):Does B s b g V { st with obj:={ st.obj with rels:=ys } } W':=by
 refine n.does h ho (i:=7) rfl (by omega) ⟨vt,vf,vd,va,vs,v',hblk,?_,?_,?_,?_,?_,hown,n.apart ho h.blk.lt (i:=7) rfl⟩ rfl (h.ok.obj' _ h.ok.text h.ok.far h.ok.data h.ok.bss h.ok.align h.ok.syms hys) (ycN ho.rels (by simp))
 ·exact n.row ho (i:=7) (j:=2) rfl rfl (by omega) (by omega) ho.text
 ·exact n.row ho (i:=7) (j:=3) rfl rfl (by omega) (by omega) ho.far
 ·exact n.row ho (i:=7) (j:=4) rfl rfl (by omega) (by omega) ho.data
 ·exact n.row ho (i:=7) (j:=5) rfl rfl (by omega) (by omega) ho.align
 ·exact n.row ho (i:=7) (j:=6) rfl rfl (by omega) (by omega) ho.syms
set_option maxRecDepth 100000 in
set_option maxHeartbeats 8000000 in
theorem ybm (B:Nat) (s:ByteArray) (b g:Nat) (st:As.St) (kind:Int) (sym:Nat) (addend:Int) (ao:Option Addr) (cap:Nat) (ws:List Int) (W:World) (h:yl B s b g st W) (hw:yaj W ao cap ws) (hn:ws.length<=4096) :
  Calls Tryz.prog 195 #[.pointer (some ⟨b,0,none⟩),.int .i64 kind,.int .i64 sym,.int .i64 addend,.slice ao ws.length cap] W fun en W'=>en = .returned (.tuple #[])/\Does B s b g W (As.layWith kind sym addend ws st) W':=by
 obtain ⟨i2,hi2,hx0,hx1,hx2⟩:=info_parts Tryz.infoRel
 have HW:=hid h
 have HWD0:=hid hw
 have hpos:=h.ok.op.pos
 have hr32:=h.ok.rels
 have hsb:=yeX h.ok
 have RS:=hid (show As.layWith kind sym addend ws st=if As.failed (As.refuseIf (decide (32<=st.obj.rels.length)) 12 st.op.pos st) then As.refuseIf (decide (32<=st.obj.rels.length)) 12 st.op.pos st else
  As.lay ws { As.refuseIf (decide (32<=st.obj.rels.length)) 12 st.op.pos st with obj:={ (As.refuseIf (decide (32<=st.obj.rels.length)) 12 st.op.pos st).obj with rels:=(As.refuseIf (decide (32<=st.obj.rels.length)) 12 st.op.pos st).obj.rels ++ [⟨(As.refuseIf (decide (32<=st.obj.rels.length)) 12 st.op.pos st).sect,4 * As.secLen (As.refuseIf (decide (32<=st.obj.rels.length)) 12 st.op.pos st).obj (As.refuseIf (decide (32<=st.obj.rels.length)) 12 st.op.pos st).sect,kind,sym,addend⟩] } } from rfl)
 generalize As.layWith kind sym addend ws st=X at *
 have c14:=yam h
 obtain ⟨vt0,vf0,vd0,va0,vs0,vr0,ho0⟩:=h.own
 obtain ⟨ar0,cr0,rfl⟩:=yh ho0.rels
 have g60:=ho0.blk.cell 6
 simp only [ysk,ysl,ysj] at g60
 clear ho0
 have c10:=yfR h
 clear h hw
 go_enter Tryz.func195,Tryz.ntmps195
 by_cases h32:32<=st.obj.rels.length
 ·have D1:decide ((32:Int)<=(st.obj.rels.length:Int))=true:=by simp; omega
  rw [show decide (32<=st.obj.rels.length)=true by simp; omega] at RS
  clear h32
  go_wp2_with fail
  refine (yK B s b g st 12 st.op.pos W HW.out (by omega) hpos).mono ?_
  rintro e V2 ⟨rfl,h2⟩
  have D2:=hid (h2.does HW.out)
  have RFD:=hid (show As.failed (As.refuse 12 st.op.pos st)=true from ycC _ _ _ (by omega))
  clear h2 c10 c14 g60
  go_wp2_with fail
  refine (yaY B s b g _ V2 D2.out.1).mono ?_
  rintro e w2 ⟨rfl,rfl⟩
  rw [RFD.out]
  go_wp2
  (try simp only [Exit.inBlock,Exit.then]); refine bodyPost_ret (results_none rfl _ _ _) rfl ?_
  rw [RS.out]
  refine ⟨rfl,?_⟩
  simp only [As.refuseIf,if_true,RFD.out]
  exact D2.out
 ·have D1:decide ((32:Int)<=(st.obj.rels.length:Int))=false:=by simp; omega
  rw [show decide (32<=st.obj.rels.length)=false by simp; omega] at RS
  simp only [As.refuseIf,Bool.false_eq_true,if_false] at RS
  go_wp2_with fail
  refine (yaY B s b g st W HW.out).mono ?_
  rintro e w2 ⟨rfl,rfl⟩
  cases hf:As.failed st
  ·rw [hf,if_neg (by simp)] at RS
   clear hf
   have cL:=hid (fun V hV=>ycs B s b g st V hV)
   have HD0:=hid (fun n=>HW.out.doesB.drewN n)
   have c13:=yai HW.out
   generalize hq:As.secLen st.obj st.sect=q at *
   have RX:=hid RS.out
   clear RS hq
   go_wp2
   go_quiet ((go_at_call 87; exact Calls.quiet_of_same (cL.out _ (HD0.out _).1)))
   have D:=hid ((HD0.out nq).does HW.out)
   have HWD:=hid (HWD0.out.grown (ye (World.grownBy.refl _ _) nq))
   clear HD0 c13 c14 cL HWD0 c10 g60
   generalize w2.drewN nq=V1 at *
   obtain ⟨vt,vf,vd,va,vs,vr,ho⟩:=D.out.1.own
   obtain ⟨ar,cr,rfl⟩:=yh ho.rels
   have HO:=hid ho
   have c13:=yai D.out.1
   have c14:=yam D.out.1
   have g6:=ho.blk.cell 6
   simp only [ysk,ysl,ysj] at g6
   have hgl:g < V1.heap.size:=ho.blk.lt
   have hn32:st.obj.rels.length+1<=32:=by omega
   have GA:=hid (ysp V1 (.cells #[.int .i64 st.sect,.int .i64 (4 * q),.int .i64 kind,.int .i64 sym,.int .i64 addend] 102) none)
   have KA1:Hid ((V1.alloc (.cells #[.int .i64 st.sect,.int .i64 (4 * q),.int .i64 kind,.int .i64 sym,.int .i64 addend] 102)).drew.cell? ⟨b,14,none⟩=some (.pointer (some ⟨g,0,none⟩))):=yd c14 (yi GA.out)
   have KA2:Hid ((V1.alloc (.cells #[.int .i64 st.sect,.int .i64 (4 * q),.int .i64 kind,.int .i64 sym,.int .i64 addend] 102)).drew.cell? ⟨b,13,none⟩=some (.int .i64 st.sect)):=yd c13 (yi GA.out)
   have hb0:Hid (some b≠Value.ownBlock (.slice ar st.obj.rels.length cr)):=fun e=>ho.apart.ne (i:=0) (j:=7) rfl rfl (by omega) b rfl e.symm
   have hg0:Hid (some g≠Value.ownBlock (.slice ar st.obj.rels.length cr)):=fun e=>ho.apart.ne (i:=1) (j:=7) rfl rfl (by omega) g rfl e.symm
   have KEEP1:Hid (∀ w3,(V1.alloc (.cells #[.int .i64 st.sect,.int .i64 (4 * q),.int .i64 kind,.int .i64 sym,.int .i64 addend] 102)).grownBy w3 (Value.ownBlock (.slice ar st.obj.rels.length cr))->w3.cell? ⟨b,14,none⟩=some (.pointer (some ⟨g,0,none⟩))):=fun w3 h=>h.cell KA1.out hb0.out
   have KEEP2:Hid (∀ w3,(V1.alloc (.cells #[.int .i64 st.sect,.int .i64 (4 * q),.int .i64 kind,.int .i64 sym,.int .i64 addend] 102)).grownBy w3 (Value.ownBlock (.slice ar st.obj.rels.length cr))->w3.cell? ⟨b,13,none⟩=some (.int .i64 st.sect)):=fun w3 h=>h.cell KA2.out hb0.out
   have KEEP3:Hid (∀ w3,(V1.alloc (.cells #[.int .i64 st.sect,.int .i64 (4 * q),.int .i64 kind,.int .i64 sym,.int .i64 addend] 102)).grownBy w3 (Value.ownBlock (.slice ar st.obj.rels.length cr))->yc w3 g #[vt,vf,vd,.int .i64 st.obj.bss,va,vs,.slice ar st.obj.rels.length cr] 71):=fun w3 h=>(HO.out.blk.grown GA.out (by simp)).grown h hg0.out
   have hgb:Hid (g≠b):=fun e=>D.out.1.lo.2.2.2 e.symm
   have FIN:Hid (∀ w3 ao' cap',(V1.alloc (.cells #[.int .i64 st.sect,.int .i64 (4 * q),.int .i64 kind,.int .i64 sym,.int .i64 addend] 102)).grownBy w3 (Value.ownBlock (.slice ar st.obj.rels.length cr))->(Value.ownBlock (.slice ao' (st.obj.rels.length+1) cap')=Value.ownBlock (.slice ar st.obj.rels.length cr)\/Value.ownBlock (.slice ao' (st.obj.rels.length+1) cap')=some (V1.alloc (.cells #[.int .i64 st.sect,.int .i64 (4 * q),.int .i64 kind,.int .i64 sym,.int .i64 addend] 102)).heap.size) ->
     w3.ownsRow B 102 5 (.slice ao' (st.obj.rels.length+1) cap') (st.obj.rels.length+1) (st.obj.rels.flatMap relV ++ [.int .i64 st.sect,.int .i64 (4 * q),.int .i64 kind,.int .i64 sym,.int .i64 addend]) ->
     Does B s b g w2 { st with obj:={ st.obj with rels:=st.obj.rels ++ [⟨st.sect,4 * q,kind,sym,addend⟩] } } (w3.setCell ⟨g,6,none⟩ (.slice ao' (st.obj.rels.length+1) cap'))/\yaj (w3.setCell ⟨g,6,none⟩ (.slice ao' (st.obj.rels.length+1) cap')) ao cap ws/\(w3.setCell ⟨g,6,none⟩ (.slice ao' (st.obj.rels.length+1) cap')).cell? ⟨b,14,none⟩=some (.pointer (some ⟨g,0,none⟩))/\(w3.setCell ⟨g,6,none⟩ (.slice ao' (st.obj.rels.length+1) cap')).cell? ⟨b,13,none⟩=some (.int .i64 st.sect)):=fun w3 ao' cap' gd hat hown=>by
    have nr:yaa B V1 (w3.setCell ⟨g,6,none⟩ (.slice ao' (st.obj.rels.length+1) cap')) b g (.slice ar st.obj.rels.length cr) (.slice ao' (st.obj.rels.length+1) cap'):=yaa.app (fun k hk=>(HO.out.rels.lt k hk).2) gd hat
    have nb:=(KEEP3.out w3 gd).set 6 (.slice ao' (st.obj.rels.length+1) cap')
    have gs:=yf w3 g 6 (.slice ao' (st.obj.rels.length+1) cap')
    refine ⟨D.out.after (D.out.1.newRels HO.out nr _ (by simp; omega) (by simpa using nb) ?_),?_,gs.cell (KEEP1.out w3 gd) (by simpa using hgb.out.symm),gs.cell (KEEP2.out w3 gd) (by simpa using hgb.out.symm)⟩
    ·have e:(st.obj.rels ++ [(⟨st.sect,4 * q,kind,sym,addend⟩:Lk.Rel)]).flatMap relV=st.obj.rels.flatMap relV ++ [.int .i64 st.sect,.int .i64 (4 * q),.int .i64 kind,.int .i64 sym,.int .i64 addend]:=by rw [List.flatMap_append]; rfl
     rw [e,ysq,List.length_singleton]
     exact ybK hown (fun k hk=>by
      rcases hat with h1 | h1
      ·rw [h1] at hk
       exact fun e=>hg0.out (by rw [e,hk])
      ·rw [h1] at hk
       simp at hk
       omega)
    ·refine HWD.out.kept fun k cs hb _=>(nr.keep k hb.lt ?_ ?_).trans hb
     ·intro e
      obtain ⟨-,cs',t',hb',ht'⟩:=ycN HO.out.rels (by simp) k e.symm
      exact ypp HO.out.rels e.symm hb (by decide)
     ·rintro rfl
      have:=hb.symm.trans HO.out.blk
      simp at this
   have hA:Hid ((V1.alloc (.cells #[.int .i64 st.sect,.int .i64 (4 * q),.int .i64 kind,.int .i64 sym,.int .i64 addend] 102)).drew.ownsRow B 102 5 (.slice ar st.obj.rels.length cr) st.obj.rels.length (st.obj.rels.flatMap relV)):=(HO.out.rels.alloc _).drew
   have hN:Hid (∀ j u,([.int .i64 st.sect,.int .i64 (4 * q),.int .i64 kind,.int .i64 sym,.int .i64 addend]:List Value)[j]?=some u->(V1.alloc (.cells #[.int .i64 st.sect,.int .i64 (4 * q),.int .i64 kind,.int .i64 sym,.int .i64 addend] 102)).drew.cell? ((⟨V1.heap.size,0,none⟩:Addr).add j)=some u):=World.news_of_block (heap_alloc_new V1 (.cells #[.int .i64 st.sect,.int .i64 (4 * q),.int .i64 kind,.int .i64 sym,.int .i64 addend] 102))
   have hOne:Hid (∀ u∈([.int .i64 st.sect,.int .i64 (4 * q),.int .i64 kind,.int .i64 sym,.int .i64 addend]:List Value),u.oneCell'=true):=by intro u hu; simp at hu; rcases hu with rfl | rfl | rfl | rfl | rfl <;> rfl
   have h63:Hid (st.obj.rels.length+1<=maxLen):=by show _<=_; unfold maxLen; omega
   have hby:Hid ((st.obj.rels.length+1) * 40<=140737488355328):=by show _<=_; omega
   have hbs:Hid (B<=(V1.alloc (.cells #[.int .i64 st.sect,.int .i64 (4 * q),.int .i64 kind,.int .i64 sym,.int .i64 addend] 102)).drew.heap.size):=by have:=D.out.1.size; show _<=_; simp; omega
   clear ho
   go_wp2
   refine wp_region_held_drew (S:=(fun w'=>w'.cell? ⟨b,14,none⟩=some (.pointer (some ⟨g,0,none⟩))/\w'.cell? ⟨b,13,none⟩=some (.int .i64 st.sect))) (by kernel_rfl) ⟨c14,c13⟩ ?_
   intro hS
   refine wpAnyH_take (i:=0) (v:=?_) rfl (by kernel_rfl) (by kernel_rfl) (by kernel_rfl) (fun _ _ _ h=>h) (Or.inl ⟨by kernel_rfl,?_⟩) hS ?_
   rotate_left
   ·intro w' hw'; obtain ⟨x0,x1⟩:=hw'; go_simp; with_reducible rfl
   refine wpAnyH_take (i:=1) (v:=?_) rfl (by kernel_rfl) (by kernel_rfl) (by kernel_rfl) (fun _ _ _ h=>h) (Or.inl ⟨by kernel_rfl,?_⟩) hS ?_
   rotate_left
   ·intro w' hw'; obtain ⟨x0,x1⟩:=hw'; go_simp; with_reducible rfl
   refine wpAnyH_take (i:=2) (v:=?_) rfl (by kernel_rfl) (by kernel_rfl) (by kernel_rfl) (fun _ _ _ h=>h) (Or.inl ⟨by kernel_rfl,?_⟩) hS ?_
   rotate_left
   ·intro w' hw'; obtain ⟨x0,x1⟩:=hw'; go_simp; with_reducible rfl
   refine wpAnyH_take (i:=3) (v:=?_) rfl (by kernel_rfl) (by kernel_rfl) (by kernel_rfl) (fun _ _ _ h=>h) (Or.inl ⟨by kernel_rfl,?_⟩) hS ?_
   rotate_left
   ·intro w' hw'; obtain ⟨x0,x1⟩:=hw'; go_simp; with_reducible rfl
   refine wpAnyH_take (i:=4) (v:=?_) rfl (by kernel_rfl) (by kernel_rfl) (by kernel_rfl) (fun _ _ _ h=>h) (Or.inl ⟨by kernel_rfl,?_⟩) hS ?_
   rotate_left
   ·intro w' hw'; obtain ⟨x0,x1⟩:=hw'; go_simp; with_reducible rfl
   refine wpAnyH_take (i:=5) (v:=?_) rfl (by kernel_rfl) (by kernel_rfl) (by kernel_rfl) (fun _ _ _ h=>h) (Or.inl ⟨by kernel_rfl,?_⟩) hS ?_
   rotate_left
   ·intro w' hw'; obtain ⟨x0,x1⟩:=hw'; go_simp; with_reducible rfl
   refine wpAnyH_take (i:=6) (v:=?_) rfl (by kernel_rfl) (by kernel_rfl) (by kernel_rfl) (fun _ _ _ h=>h) (Or.inl ⟨by kernel_rfl,?_⟩) hS ?_
   rotate_left
   ·intro w' hw'; obtain ⟨x0,x1⟩:=hw'; go_simp; with_reducible rfl
   refine wpAnyH_take (i:=7) (v:=?_) rfl (by kernel_rfl) (by kernel_rfl) (by kernel_rfl) (fun _ _ _ h=>h) (Or.inl ⟨by kernel_rfl,?_⟩) hS ?_
   rotate_left
   ·intro w' hw'; obtain ⟨x0,x1⟩:=hw'; go_simp; with_reducible rfl
   refine wpAnyH_take (i:=8) (v:=?_) rfl (by kernel_rfl) (by kernel_rfl) (by kernel_rfl) (fun _ _ _ h=>h) (Or.inl ⟨by kernel_rfl,?_⟩) hS ?_
   rotate_left
   ·intro w' hw'; obtain ⟨x0,x1⟩:=hw'; go_simp; with_reducible rfl
   refine wpAnyH_take (i:=9) (v:=?_) rfl (by kernel_rfl) (by kernel_rfl) (by kernel_rfl) (fun _ _ _ h=>h) (Or.inl ⟨by kernel_rfl,?_⟩) hS ?_
   rotate_left
   ·intro w' hw'; obtain ⟨x0,x1⟩:=hw'; go_simp; with_reducible rfl
   refine wpAnyH_take (i:=11) (v:=?_) rfl (by kernel_rfl) (by kernel_rfl) (by kernel_rfl) (fun _ _ _ h=>h) (Or.inl ⟨by kernel_rfl,?_⟩) hS ?_
   rotate_left
   ·intro w' hw'; obtain ⟨x0,x1⟩:=hw'; go_simp; with_reducible rfl
   refine wpAnyH_take (i:=12) (v:=?_) rfl (by kernel_rfl) (by kernel_rfl) (by kernel_rfl) (fun _ _ _ h=>h) (Or.inl ⟨by kernel_rfl,?_⟩) hS ?_
   rotate_left
   ·intro w' hw'; obtain ⟨x0,x1⟩:=hw'; go_simp; with_reducible rfl
   refine wpAnyH_take (i:=13) (v:=?_) rfl (by kernel_rfl) (by kernel_rfl) (by kernel_rfl) (fun _ _ _ h=>h) (Or.inl ⟨by kernel_rfl,?_⟩) hS ?_
   rotate_left
   ·intro w' hw'; obtain ⟨x0,x1⟩:=hw'; go_simp; with_reducible rfl
   refine wpAnyH_take (i:=14) (v:=?_) rfl (by kernel_rfl) (by kernel_rfl) (by kernel_rfl) (fun _ _ _ h=>h) (Or.inl ⟨by kernel_rfl,?_⟩) hS ?_
   rotate_left
   ·intro w' hw'; obtain ⟨x0,x1⟩:=hw'; go_simp; with_reducible rfl
   refine wpAnyH_take (i:=15) (v:=?_) rfl (by kernel_rfl) (by kernel_rfl) (by kernel_rfl) (fun _ _ _ h=>h) (Or.inl ⟨by kernel_rfl,?_⟩) hS ?_
   rotate_left
   ·intro w' hw'; obtain ⟨x0,x1⟩:=hw'; go_simp; with_reducible rfl
   refine wpAnyH_take (i:=16) (v:=?_) rfl (by kernel_rfl) (by kernel_rfl) (by kernel_rfl) (fun _ _ _ h=>h) (Or.inl ⟨by kernel_rfl,?_⟩) hS ?_
   rotate_left
   ·intro w' hw'; obtain ⟨x0,x1⟩:=hw'; go_simp; with_reducible rfl
   refine wpAnyH_take (i:=17) (v:=?_) rfl (by kernel_rfl) (by kernel_rfl) (by kernel_rfl) (fun _ _ _ h=>h) (Or.inl ⟨by kernel_rfl,?_⟩) hS ?_
   rotate_left
   ·intro w' hw'; obtain ⟨x0,x1⟩:=hw'; go_simp; with_reducible rfl
   refine wpAnyH_take (i:=18) (v:=?_) rfl (by kernel_rfl) (by kernel_rfl) (by kernel_rfl) (fun _ _ _ h=>h) (Or.inl ⟨by kernel_rfl,?_⟩) hS ?_
   rotate_left
   ·intro w' hw'; obtain ⟨x0,x1⟩:=hw'; go_simp; with_reducible rfl
   refine wpAnyH_take (i:=19) (v:=?_) rfl (by kernel_rfl) (by kernel_rfl) (by kernel_rfl) (fun _ _ _ h=>h) (Or.inl ⟨by kernel_rfl,?_⟩) hS ?_
   rotate_left
   ·intro w' hw'; obtain ⟨x0,x1⟩:=hw'; go_simp; with_reducible rfl
   refine wpAnyH_ready (rs:=[10,20]) (by kernel_rfl) (by simp) ?_
   refine AllReadyH.cons rfl (fun K hK=>?_) (AllReadyH.cons rfl (fun K hK=>?_) AllReadyH.nil)
   ·go_simp
    refine hK.out _ _ hS (fun hS2=>?_)
    clear hK K
    refine wpAnyH_ready (rs:=[20]) (by kernel_rfl) (by simp) ?_
    refine AllReadyH.cons rfl (fun K hK=>?_) AllReadyH.nil
    go_simp
    refine hK.out _ _ ⟨KA1.out,KA2.out⟩ (fun hS3=>?_)
    clear hK K hS2 hS3
    refine wpAnyH_ready (rs:=[21]) (by kernel_rfl) (by simp) ?_
    refine AllReadyH.cons rfl (fun K hK=>?_) AllReadyH.nil
    rw [if_pos (by kernel_rfl)]
    refine yZ _ (.tmp 48) (.tmp 58) 69 rfl B 102 i2 (.agg #[.int .i64 0,.int .i64 0,.int .i64 0,.int .i64 0,.int .i64 0]) 5 40 Tryz.underlying69 hi2 hx0 hx1 hx2 rfl (by decide) (.slice ar st.obj.rels.length cr) st.obj.rels.length (st.obj.rels.flatMap relV) (by kernel_rfl) hA.out ⟨V1.heap.size,0,none⟩ 1 1 [.int .i64 st.sect,.int .i64 (4 * q),.int .i64 kind,.int .i64 sym,.int .i64 addend] (by kernel_rfl) rfl hN.out hOne.out h63.out hby.out hbs.out ?_
    intro v' w3 hown' hgrow _ hat
    obtain ⟨ao',cap',rfl⟩:=yh hown'
    have gd:(V1.alloc (.cells #[.int .i64 st.sect,.int .i64 (4 * q),.int .i64 kind,.int .i64 sym,.int .i64 addend] 102)).grownBy w3 (Value.ownBlock (.slice ar st.obj.rels.length cr)):=⟨hgrow.os,hgrow.tape,hgrow.output,hgrow.size,hgrow.block⟩
    have hat2:Value.ownBlock (.slice ao' (st.obj.rels.length+1) cap')=Value.ownBlock (.slice ar st.obj.rels.length cr)\/Value.ownBlock (.slice ao' (st.obj.rels.length+1) cap')=some (V1.alloc (.cells #[.int .i64 st.sect,.int .i64 (4 * q),.int .i64 kind,.int .i64 sym,.int .i64 addend] 102)).heap.size:=hat
    have F:=hid (FIN.out _ _ _ gd hat2 hown')
    have n14:=KEEP1.out _ gd
    have n13:=KEEP2.out _ gd
    have ng:=KEEP3.out _ gd
    have m5:=ng.cell 6
    have f5:=ng.free 6
    simp only [ysk,ysl,ysj] at m5
    clear hown' hgrow gd hat hat2 ng
    refine hK.out _ _ ⟨n14,n13⟩ (fun hS4=>?_)
    clear hK K
    refine wpAnyH_take (i:=22) (v:=?_) rfl (by kernel_rfl) (by kernel_rfl) (by kernel_rfl) (fun _ _ _ h=>h) (Or.inl ⟨by kernel_rfl,?_⟩) hS4 ?_
    rotate_left
    ·intro w' hw'; obtain ⟨x0,x1⟩:=hw'; go_simp; with_reducible rfl
    refine wpAnyH_take (i:=23) (v:=?_) rfl (by kernel_rfl) (by kernel_rfl) (by kernel_rfl) (fun _ _ _ h=>h) (Or.inl ⟨by kernel_rfl,?_⟩) hS4 ?_
    rotate_left
    ·intro w' hw'; obtain ⟨x0,x1⟩:=hw'; go_simp; with_reducible rfl
    refine wpAnyH_ready (rs:=[24]) (by kernel_rfl) (by simp) ?_
    refine AllReadyH.cons rfl (fun K hK=>?_) AllReadyH.nil
    go_simp
    refine hK.out _ _ ⟨F.out.2.2.1,F.out.2.2.2⟩ (fun hS5=>?_)
    clear hK K
    refine wpAnyH_done (by kernel_rfl) ?_ _
    try simp only [yaL,ysy,ysw,ysx,yso,ysm,ysn]
    clear hA hN hOne h63 hby hbs c13 c14 g6 n14 n13 m5 f5 hS4 hS5 hS
    generalize World.setCell _ _ _=W5 at *
    go_wp2_with fail
    refine (ydg B s b g _ ao cap ws W5 F.out.1.1 F.out.2.1 hn).mono ?_
    rintro e W6 ⟨rfl,h6⟩
    have HF:=hid (F.out.1.after h6)
    clear h6
    go_wp2
    go_end0
    rw [RX.out]
    exact ⟨rfl,HF.out⟩
   ·go_simp
    refine hK.out _ _ ⟨KA1.out,KA2.out⟩ (fun hS2=>?_)
    clear hK K
    refine wpAnyH_ready (rs:=[10]) (by kernel_rfl) (by simp) ?_
    refine AllReadyH.cons rfl (fun K hK=>?_) AllReadyH.nil
    go_simp
    refine hK.out _ _ ⟨KA1.out,KA2.out⟩ (fun hS3=>?_)
    clear hK K hS2 hS3
    refine wpAnyH_ready (rs:=[21]) (by kernel_rfl) (by simp) ?_
    refine AllReadyH.cons rfl (fun K hK=>?_) AllReadyH.nil
    rw [if_pos (by kernel_rfl)]
    refine yZ _ (.tmp 48) (.tmp 58) 69 rfl B 102 i2 (.agg #[.int .i64 0,.int .i64 0,.int .i64 0,.int .i64 0,.int .i64 0]) 5 40 Tryz.underlying69 hi2 hx0 hx1 hx2 rfl (by decide) (.slice ar st.obj.rels.length cr) st.obj.rels.length (st.obj.rels.flatMap relV) (by kernel_rfl) hA.out ⟨V1.heap.size,0,none⟩ 1 1 [.int .i64 st.sect,.int .i64 (4 * q),.int .i64 kind,.int .i64 sym,.int .i64 addend] (by kernel_rfl) rfl hN.out hOne.out h63.out hby.out hbs.out ?_
    intro v' w3 hown' hgrow _ hat
    obtain ⟨ao',cap',rfl⟩:=yh hown'
    have gd:(V1.alloc (.cells #[.int .i64 st.sect,.int .i64 (4 * q),.int .i64 kind,.int .i64 sym,.int .i64 addend] 102)).grownBy w3 (Value.ownBlock (.slice ar st.obj.rels.length cr)):=⟨hgrow.os,hgrow.tape,hgrow.output,hgrow.size,hgrow.block⟩
    have hat2:Value.ownBlock (.slice ao' (st.obj.rels.length+1) cap')=Value.ownBlock (.slice ar st.obj.rels.length cr)\/Value.ownBlock (.slice ao' (st.obj.rels.length+1) cap')=some (V1.alloc (.cells #[.int .i64 st.sect,.int .i64 (4 * q),.int .i64 kind,.int .i64 sym,.int .i64 addend] 102)).heap.size:=hat
    have F:=hid (FIN.out _ _ _ gd hat2 hown')
    have n14:=KEEP1.out _ gd
    have n13:=KEEP2.out _ gd
    have ng:=KEEP3.out _ gd
    have m5:=ng.cell 6
    have f5:=ng.free 6
    simp only [ysk,ysl,ysj] at m5
    clear hown' hgrow gd hat hat2 ng
    refine hK.out _ _ ⟨n14,n13⟩ (fun hS4=>?_)
    clear hK K
    refine wpAnyH_take (i:=22) (v:=?_) rfl (by kernel_rfl) (by kernel_rfl) (by kernel_rfl) (fun _ _ _ h=>h) (Or.inl ⟨by kernel_rfl,?_⟩) hS4 ?_
    rotate_left
    ·intro w' hw'; obtain ⟨x0,x1⟩:=hw'; go_simp; with_reducible rfl
    refine wpAnyH_take (i:=23) (v:=?_) rfl (by kernel_rfl) (by kernel_rfl) (by kernel_rfl) (fun _ _ _ h=>h) (Or.inl ⟨by kernel_rfl,?_⟩) hS4 ?_
    rotate_left
    ·intro w' hw'; obtain ⟨x0,x1⟩:=hw'; go_simp; with_reducible rfl
    refine wpAnyH_ready (rs:=[24]) (by kernel_rfl) (by simp) ?_
    refine AllReadyH.cons rfl (fun K hK=>?_) AllReadyH.nil
    go_simp
    refine hK.out _ _ ⟨F.out.2.2.1,F.out.2.2.2⟩ (fun hS5=>?_)
    clear hK K
    refine wpAnyH_done (by kernel_rfl) ?_ _
    try simp only [yaL,ysy,ysw,ysx,yso,ysm,ysn]
    clear hA hN hOne h63 hby hbs c13 c14 g6 n14 n13 m5 f5 hS4 hS5 hS
    generalize World.setCell _ _ _=W5 at *
    go_wp2_with fail
    refine (ydg B s b g _ ao cap ws W5 F.out.1.1 F.out.2.1 hn).mono ?_
    rintro e W6 ⟨rfl,h6⟩
    have HF:=hid (F.out.1.after h6)
    clear h6
    go_wp2
    go_end0
    rw [RX.out]
    exact ⟨rfl,HF.out⟩
  ·rw [hf,if_pos rfl] at RS
   clear hf
   go_wp2
   (try simp only [Exit.inBlock,Exit.then]); refine bodyPost_ret (results_none rfl _ _ _) rfl ?_
   rw [RS.out]
   exact ⟨rfl,HW.out.does⟩
theorem yjd (n:Int):bits .and .i64 n 1=((n % 2).toNat:Int):=by
 have h1:(BitVec.ofInt 64 1).toNat=2 ^ 1 - 1:=by decide
 have key:(BitVec.ofInt 64 n &&& BitVec.ofInt 64 1).toNat=(n % ((2 ^ 64:Nat):Int)).toNat % 2 ^ 1:=by
  rw [BitVec.toNat_and,BitVec.toNat_ofInt,h1,Nat.and_two_pow_sub_one_eq_mod]
 show IntKind.i64.wrap ((BitVec.ofInt 64 n &&& BitVec.ofInt 64 1).toNat:Nat)=_
 rw [key,IntKind.wrap_i64]
 omega
theorem yqQ (n:Int):bits .and .i64 n 15=((n % 16).toNat:Int):=by
 have h1:(BitVec.ofInt 64 15).toNat=2 ^ 4 - 1:=by decide
 have key:(BitVec.ofInt 64 n &&& BitVec.ofInt 64 15).toNat=(n % ((2 ^ 64:Nat):Int)).toNat % 2 ^ 4:=by
  rw [BitVec.toNat_and,BitVec.toNat_ofInt,h1,Nat.and_two_pow_sub_one_eq_mod]
 show IntKind.i64.wrap ((BitVec.ofInt 64 n &&& BitVec.ofInt 64 15).toNat:Nat)=_
 rw [key,IntKind.wrap_i64]
 omega
theorem yqR (n:Int):bits .and .i64 n 31=((n % 32).toNat:Int):=by
 have h1:(BitVec.ofInt 64 31).toNat=2 ^ 5 - 1:=by decide
 have key:(BitVec.ofInt 64 n &&& BitVec.ofInt 64 31).toNat=(n % ((2 ^ 64:Nat):Int)).toNat % 2 ^ 5:=by
  rw [BitVec.toNat_and,BitVec.toNat_ofInt,h1,Nat.and_two_pow_sub_one_eq_mod]
 show IntKind.i64.wrap ((BitVec.ofInt 64 n &&& BitVec.ofInt 64 31).toNat:Nat)=_
 rw [key,IntKind.wrap_i64]
 omega
theorem yqS (n:Int):bits .and .i64 n 63=((n % 64).toNat:Int):=by
 have h1:(BitVec.ofInt 64 63).toNat=2 ^ 6 - 1:=by decide
 have key:(BitVec.ofInt 64 n &&& BitVec.ofInt 64 63).toNat=(n % ((2 ^ 64:Nat):Int)).toNat % 2 ^ 6:=by
  rw [BitVec.toNat_and,BitVec.toNat_ofInt,h1,Nat.and_two_pow_sub_one_eq_mod]
 show IntKind.i64.wrap ((BitVec.ofInt 64 n &&& BitVec.ofInt 64 63).toNat:Nat)=_
 rw [key,IntKind.wrap_i64]
 omega
theorem yqT (n:Int):bits .and .i64 n 127=((n % 128).toNat:Int):=by
 have h1:(BitVec.ofInt 64 127).toNat=2 ^ 7 - 1:=by decide
 have key:(BitVec.ofInt 64 n &&& BitVec.ofInt 64 127).toNat=(n % ((2 ^ 64:Nat):Int)).toNat % 2 ^ 7:=by
  rw [BitVec.toNat_and,BitVec.toNat_ofInt,h1,Nat.and_two_pow_sub_one_eq_mod]
 show IntKind.i64.wrap ((BitVec.ofInt 64 n &&& BitVec.ofInt 64 127).toNat:Nat)=_
 rw [key,IntKind.wrap_i64]
 omega
theorem yqU (n:Int):bits .and .i64 n 255=((n % 256).toNat:Int):=by
 have h1:(BitVec.ofInt 64 255).toNat=2 ^ 8 - 1:=by decide
 have key:(BitVec.ofInt 64 n &&& BitVec.ofInt 64 255).toNat=(n % ((2 ^ 64:Nat):Int)).toNat % 2 ^ 8:=by
  rw [BitVec.toNat_and,BitVec.toNat_ofInt,h1,Nat.and_two_pow_sub_one_eq_mod]
 show IntKind.i64.wrap ((BitVec.ofInt 64 n &&& BitVec.ofInt 64 255).toNat:Nat)=_
 rw [key,IntKind.wrap_i64]
 omega
theorem ypY (n:Int):bits .and .i64 n 1023=((n % 1024).toNat:Int):=by
 have h1:(BitVec.ofInt 64 1023).toNat=2 ^ 10 - 1:=by decide
 have key:(BitVec.ofInt 64 n &&& BitVec.ofInt 64 1023).toNat=(n % ((2 ^ 64:Nat):Int)).toNat % 2 ^ 10:=by
  rw [BitVec.toNat_and,BitVec.toNat_ofInt,h1,Nat.and_two_pow_sub_one_eq_mod]
 show IntKind.i64.wrap ((BitVec.ofInt 64 n &&& BitVec.ofInt 64 1023).toNat:Nat)=_
 rw [key,IntKind.wrap_i64]
 omega
theorem ylA (n:Int):bits .and .i64 n 4095=((n % 4096).toNat:Int):=by
 have h1:(BitVec.ofInt 64 4095).toNat=2 ^ 12 - 1:=by decide
 have key:(BitVec.ofInt 64 n &&& BitVec.ofInt 64 4095).toNat=(n % ((2 ^ 64:Nat):Int)).toNat % 2 ^ 12:=by
  rw [BitVec.toNat_and,BitVec.toNat_ofInt,h1,Nat.and_two_pow_sub_one_eq_mod]
 show IntKind.i64.wrap ((BitVec.ofInt 64 n &&& BitVec.ofInt 64 4095).toNat:Nat)=_
 rw [key,IntKind.wrap_i64]
 omega
theorem yhA (n:Int):bits .and .i64 n 1048575=((n % 1048576).toNat:Int):=by
 have h1:(BitVec.ofInt 64 1048575).toNat=2 ^ 20 - 1:=by decide
 have key:(BitVec.ofInt 64 n &&& BitVec.ofInt 64 1048575).toNat=(n % ((2 ^ 64:Nat):Int)).toNat % 2 ^ 20:=by
  rw [BitVec.toNat_and,BitVec.toNat_ofInt,h1,Nat.and_two_pow_sub_one_eq_mod]
 show IntKind.i64.wrap ((BitVec.ofInt 64 n &&& BitVec.ofInt 64 1048575).toNat:Nat)=_
 rw [key,IntKind.wrap_i64]
 omega
theorem ypM (a:Nat) (h:a < 9223372036854775808):wrap64 (a:Int)=(a:Int):=IntWalk.wrap64_in _ ⟨by omega,by omega⟩
theorem yao (n:Int) (low count:Nat):As.fld n low count < 2 ^ count:=by
 unfold As.fld
 have h:=Int.emod_lt_of_pos (n / (2:Int) ^ low) (show (0:Int) < (2:Int) ^ count from Int.pow_pos (by decide))
 have h2:=Int.emod_nonneg (n / (2:Int) ^ low) (show (2:Int) ^ count≠0 from Int.ne_of_gt (Int.pow_pos (by decide)))
 have e:((2 ^ count:Nat):Int)=(2:Int) ^ count:=by simp
 omega
theorem yoI (n:Int):bits .and .i64 n 1048575=(As.fld n 0 20:Int):=by rw [yhA]; unfold As.fld; simp
theorem ylG (n:Int):As.fld n 0 20 < 1048576:=yao n 0 20
theorem yoM (n:Int):bits .and .i64 (n / 1048576) 1=(As.fld n 20 1:Int):=by rw [yjd]; unfold As.fld; simp
theorem ylK (n:Int):As.fld n 20 1 < 2:=yao n 20 1
theorem yoL (n:Int):bits .and .i64 (n / 2) 1023=(As.fld n 1 10:Int):=by rw [ypY]; unfold As.fld; simp
theorem ylJ (n:Int):As.fld n 1 10 < 1024:=yao n 1 10
theorem yjx (n:Int):bits .and .i64 (n / 2048) 1=(As.fld n 11 1:Int):=by rw [yjd]; unfold As.fld; simp
theorem yhM (n:Int):As.fld n 11 1 < 2:=yao n 11 1
theorem yoK (n:Int):bits .and .i64 (n / 4096) 255=(As.fld n 12 8:Int):=by rw [yqU]; unfold As.fld; simp
theorem ylI (n:Int):As.fld n 12 8 < 256:=yao n 12 8
theorem yoH (n:Int):bits .and .i64 n 4095=(As.fld n 0 12:Int):=by rw [ylA]; unfold As.fld; simp
theorem ylF (n:Int):As.fld n 0 12 < 4096:=yao n 0 12
theorem yoJ (n:Int):bits .and .i64 (n / 4096) 1=(As.fld n 12 1:Int):=by rw [yjd]; unfold As.fld; simp
theorem ylH (n:Int):As.fld n 12 1 < 2:=yao n 12 1
theorem yqt (n:Int):bits .and .i64 (n / 32) 63=(As.fld n 5 6:Int):=by rw [yqS]; unfold As.fld; simp
theorem ynM (n:Int):As.fld n 5 6 < 64:=yao n 5 6
theorem yqs (n:Int):bits .and .i64 (n / 2) 15=(As.fld n 1 4:Int):=by rw [yqQ]; unfold As.fld; simp
theorem ynL (n:Int):As.fld n 1 4 < 16:=yao n 1 4
theorem yqu (n:Int):bits .and .i64 (n / 32) 127=(As.fld n 5 7:Int):=by rw [yqT]; unfold As.fld; simp
theorem ynN (n:Int):As.fld n 5 7 < 128:=yao n 5 7
theorem ylD (n:Int):bits .and .i64 n 31=(As.fld n 0 5:Int):=by rw [yqR]; unfold As.fld; simp
theorem yjK (n:Int):As.fld n 0 5 < 32:=yao n 0 5
theorem yrA (a m:Nat) (h:a * m < 9223372036854775808):wrap64 ((a:Int) * (m:Int))=((a * m:Nat):Int):=by
 rw [<- Int.natCast_mul]
 exact ypM _ h
theorem ybN (a m:Nat) (M:Int) (hM:M=(m:Int)) (h:a * m < 9223372036854775808):wrap64 ((a:Int) * M)=((a * m:Nat):Int):=by
 rw [hM]; exact yrA a m h
set_option maxHeartbeats 4000000 in
theorem yhd (form:Nat) (n:Int) (w:World) (hf:1<=form/\form<=7) :
  Calls Tryz.prog 217 #[.int .i64 form,.int .i64 n] w fun e w'=>e = .returned (.int .i64 (As.place' form n:Nat))/\w'=w:=by
 rcases (show form=1\/form=2\/form=3\/form=4\/form=5\/form=6\/form=7 from by omega) with rfl | rfl | rfl | rfl | rfl | rfl | rfl
 ·have E:=hid (show wrap64 (bits .and .i64 n 1048575 * 4096)=((As.place' 1 n:Nat):Int) from by
   have a:=ylG n
   rw [yoI,ybN _ 4096 4096 rfl (by omega)]; unfold As.place'; rw [if_pos rfl])
  go_enter Tryz.func217,Tryz.ntmps217
  go_wp2
  go_ret
  exact ⟨yC E.out,rfl⟩
 ·have E:=hid (show bits .or .i64 (bits .or .i64 (bits .or .i64 (wrap64 (bits .and .i64 (n / 1048576) 1 * 2147483648)) (wrap64 (bits .and .i64 (n / 2) 1023 * 2097152))) (wrap64 (bits .and .i64 (n / 2048) 1 * 1048576))) (wrap64 (bits .and .i64 (n / 4096) 255 * 4096))=((As.place' 2 n:Nat):Int) from by
   have a:=ylK n
   have b:=ylJ n
   have c:=yhM n
   have d:=ylI n
   have x1:As.fld n 20 1 * 2147483648 ||| As.fld n 1 10 * 2097152 < 2 ^ 33:=Nat.or_lt_two_pow (by omega) (by omega)
   have x2:As.fld n 20 1 * 2147483648 ||| As.fld n 1 10 * 2097152 ||| As.fld n 11 1 * 1048576 < 2 ^ 33:=Nat.or_lt_two_pow x1 (by omega)
   rw [yoM,yoL,yjx,yoK,ybN _ 2147483648 2147483648 rfl (by omega),ybN _ 2097152 2097152 rfl (by omega),ybN _ 1048576 1048576 rfl (by omega),ybN _ 4096 4096 rfl (by omega),yaH _ _ (by omega) (by omega),yaH _ _ (by omega) (by omega),yaH _ _ (by omega) (by omega)]; unfold As.place'; rw [if_neg (by decide),if_pos rfl])
  go_enter Tryz.func217,Tryz.ntmps217
  go_wp2
  go_ret
  exact ⟨yC E.out,rfl⟩
 ·have E:=hid (show wrap64 (bits .and .i64 n 4095 * 1048576)=((As.place' 3 n:Nat):Int) from by
   have a:=ylF n
   rw [yoH,ybN _ 1048576 1048576 rfl (by omega)]; unfold As.place'; rw [if_neg (by decide),if_neg (by decide),if_pos rfl])
  go_enter Tryz.func217,Tryz.ntmps217
  go_wp2
  go_ret
  exact ⟨yC E.out,rfl⟩
 ·have E:=hid (show bits .or .i64 (bits .or .i64 (bits .or .i64 (wrap64 (bits .and .i64 (n / 4096) 1 * 2147483648)) (wrap64 (bits .and .i64 (n / 32) 63 * 33554432))) (wrap64 (bits .and .i64 (n / 2) 15 * 256))) (wrap64 (bits .and .i64 (n / 2048) 1 * 128))=((As.place' 4 n:Nat):Int) from by
   have a:=ylH n
   have b:=ynM n
   have c:=ynL n
   have d:=yhM n
   have x1:As.fld n 12 1 * 2147483648 ||| As.fld n 5 6 * 33554432 < 2 ^ 33:=Nat.or_lt_two_pow (by omega) (by omega)
   have x2:As.fld n 12 1 * 2147483648 ||| As.fld n 5 6 * 33554432 ||| As.fld n 1 4 * 256 < 2 ^ 33:=Nat.or_lt_two_pow x1 (by omega)
   rw [yoJ,yqt,yqs,yjx,ybN _ 2147483648 2147483648 rfl (by omega),ybN _ 33554432 33554432 rfl (by omega),ybN _ 256 256 rfl (by omega),ybN _ 128 128 rfl (by omega),yaH _ _ (by omega) (by omega),yaH _ _ (by omega) (by omega),yaH _ _ (by omega) (by omega)]; unfold As.place'; rw [if_neg (by decide),if_neg (by decide),if_neg (by decide),if_pos rfl])
  go_enter Tryz.func217,Tryz.ntmps217
  go_wp2
  go_ret
  exact ⟨yC E.out,rfl⟩
 ·have E:=hid (show bits .or .i64 (wrap64 (bits .and .i64 (n / 32) 127 * 33554432)) (wrap64 (bits .and .i64 n 31 * 128))=((As.place' 5 n:Nat):Int) from by
   have a:=ynN n
   have b:=yjK n
   rw [yqu,ylD,ybN _ 33554432 33554432 rfl (by omega),ybN _ 128 128 rfl (by omega),yaH _ _ (by omega) (by omega)]; unfold As.place'; rw [if_neg (by decide),if_neg (by decide),if_neg (by decide),if_neg (by decide),if_pos rfl])
  go_enter Tryz.func217,Tryz.ntmps217
  go_wp2
  go_ret
  exact ⟨yC E.out,rfl⟩
 ·go_enter Tryz.func217,Tryz.ntmps217
  go_wp2
  go_ret
  exact ⟨rfl,rfl⟩
 ·go_enter Tryz.func217,Tryz.ntmps217
  go_wp2
  go_ret
  exact ⟨rfl,rfl⟩
theorem ypt (form:Nat) (n:Int):As.place' form n < 2 ^ 33:=by
 have a1:=ylG n
 have a2:=ylK n
 have a3:=ylJ n
 have a4:=yhM n
 have a5:=ylI n
 have a6:=ylF n
 have a7:=ylH n
 have a8:=ynM n
 have a9:=ynL n
 have a10:=ynN n
 have a11:=yjK n
 unfold As.place'
 repeat' split
 ·omega
 ·exact Nat.or_lt_two_pow (Nat.or_lt_two_pow (Nat.or_lt_two_pow (by omega) (by omega)) (by omega)) (by omega)
 ·omega
 ·exact Nat.or_lt_two_pow (Nat.or_lt_two_pow (Nat.or_lt_two_pow (by omega) (by omega)) (by omega)) (by omega)
 ·exact Nat.or_lt_two_pow (by omega) (by omega)
 ·omega
theorem yit (k:Nat) (h:k<=25):ybt.getD k 0=((As.forms.getD k 0:Nat):Int):=by
 rcases (show k=0\/k=1\/k=2\/k=3\/k=4\/k=5\/k=6\/k=7\/k=8\/k=9\/k=10\/k=11\/k=12\/k=13\/k=14\/k=15\/k=16\/k=17\/k=18\/k=19\/k=20\/k=21\/k=22\/k=23\/k=24\/k=25 by omega) with rfl | rfl | rfl | rfl | rfl | rfl | rfl | rfl | rfl | rfl | rfl | rfl | rfl | rfl | rfl | rfl | rfl | rfl | rfl | rfl | rfl | rfl | rfl | rfl | rfl | rfl <;> rfl
theorem yoq (k:Nat) (h:k<=25):ycy.getD k 0=((As.fixeds.getD k 0:Nat):Int):=by
 rcases (show k=0\/k=1\/k=2\/k=3\/k=4\/k=5\/k=6\/k=7\/k=8\/k=9\/k=10\/k=11\/k=12\/k=13\/k=14\/k=15\/k=16\/k=17\/k=18\/k=19\/k=20\/k=21\/k=22\/k=23\/k=24\/k=25 by omega) with rfl | rfl | rfl | rfl | rfl | rfl | rfl | rfl | rfl | rfl | rfl | rfl | rfl | rfl | rfl | rfl | rfl | rfl | rfl | rfl | rfl | rfl | rfl | rfl | rfl | rfl <;> rfl
theorem yoF (k:Nat) (h:k<=25):As.fixeds.getD k 0 < 2147483648:=by
 rcases (show k=0\/k=1\/k=2\/k=3\/k=4\/k=5\/k=6\/k=7\/k=8\/k=9\/k=10\/k=11\/k=12\/k=13\/k=14\/k=15\/k=16\/k=17\/k=18\/k=19\/k=20\/k=21\/k=22\/k=23\/k=24\/k=25 by omega) with rfl | rfl | rfl | rfl | rfl | rfl | rfl | rfl | rfl | rfl | rfl | rfl | rfl | rfl | rfl | rfl | rfl | rfl | rfl | rfl | rfl | rfl | rfl | rfl | rfl | rfl <;> decide
theorem yqv (k:Nat) (h:1<=k) (h2:k<=25):1<=As.forms.getD k 0/\As.forms.getD k 0<=7:=by
 have:=yeP k h h2
 rw [yit k h2] at this
 omega
theorem ypU (a b:Nat) (ha:a < 2 ^ 40) (hb:b < 2 ^ 40):a ||| b < 2 ^ 40:=Nat.or_lt_two_pow ha hb
theorem ybJ (a:Nat) (r:Nat) (m:Nat) (M:Int) (hM:M=(m:Int)) (ha:a < 2 ^ 40) (hm:m<=1048576):bits .or .i64 (a:Int) (wrap64 (bits .and .i64 (r:Int) 31 * M))=((a ||| As.fld r 0 5 * m:Nat):Int)/\a ||| As.fld r 0 5 * m < 2 ^ 40:=by
 have h:=yjK (r:Int)
 have h2:As.fld r 0 5 * m<=31 * 1048576:=Nat.mul_le_mul (by omega) hm
 rw [ylD,ybN _ m M hM (by omega),yaH _ _ (by omega) (by omega)]
 exact ⟨rfl,ypU _ _ ha (by omega)⟩
def insN (op rd rs1 rs2:Nat) (n:Int):Value:=.agg #[.int .i64 op,.int .i64 rd,.int .i64 rs1,.int .i64 rs2,.int .i64 n]
set_option maxRecDepth 100000 in
set_option maxHeartbeats 4000000 in
theorem yat (op rd rs1 rs2:Nat) (n:Int) (w:World) (ht:Tabs w) (h1:1<=op) (h2:op<=25) :
  Calls Tryz.prog 194 #[insN op rd rs1 rs2 n] w fun e w'=>e = .returned (.int .i64 (As.enc op rd rs1 rs2 n:Nat))/\w.grownBy w' none:=by
 have G:=hid (fun o:Obj=>ysp w o none)
 have t1:=ht.form op (by omega)
 have t2:=ht.fix op (by omega)
 have hs1:0 < w.heap.size:=World.block_lt_of_cell? w ⟨0,op,none⟩ t1
 have hs2:1 < w.heap.size:=World.block_lt_of_cell? w ⟨1,op,none⟩ t2
 rw [yit op h2] at t1
 rw [yoq op h2] at t2
 have hx:=yoF op h2
 have hf:=yqv op h1 h2
 have EN:=hid (show As.enc op rd rs1 rs2 n=As.encF (As.forms.getD op 0) (As.fixeds.getD op 0) rd rs1 rs2 n from rfl)
 generalize As.forms.getD op 0=form at *
 generalize As.fixeds.getD op 0=x at *
 generalize As.enc op rd rs1 rs2 n=R at *
 have hpl:=ypt form n
 have cP:=hid (fun W=>yhd form n W hf)
 have PW:=hid (show bits .or .i64 (x:Int) (As.place' form n:Nat)=((x ||| As.place' form n:Nat):Int)/\x ||| As.place' form n < 2 ^ 40 from ⟨yaH _ _ (by omega) (by omega),ypU _ _ (by omega) (by omega)⟩)
 have e0:(1:Int)<=(op:Int):=by omega
 have e1:(op:Int)<=25:=by omega
 have b1:decide ((op:Int) < 1)=false:=by simp; omega
 have b2:decide ((25:Int) < (op:Int))=false:=by simp; omega
 clear ht h1 h2
 unfold insN
 rcases (show form=1\/form=2\/form=3\/form=4\/form=5\/form=6\/form=7 from by omega) with rfl | rfl | rfl | rfl | rfl | rfl | rfl
 ·have EN2:=hid (show R=As.encF 1 x rd rs1 rs2 n from EN.out)
  generalize hpn:As.place' 1 n=pn at *
  have HPN:=hid hpn
  clear hpn
  go_enter Tryz.func194,Tryz.ntmps194
  go_wp2
  go_quiet ((go_at_call 217; exact Calls.quiet_of_same (cP.out _)))
  go_wp2
  go_ret
  refine ⟨yC ?_,ye (G.out _) _⟩
  rw [EN2.out]
  unfold As.encF
  rw [HPN.out]
  simp only []
  rw [if_pos (show As.hasRd 1=true from rfl),if_neg (show ¬ As.hasRs1 1=true by decide),if_neg (show ¬ As.hasRs2 1=true by decide)]
  rw [PW.out.1]
  have s1:=ybJ (x ||| pn) rd 128 128 rfl PW.out.2 (by omega)
  rw [s1.1]
 ·have EN2:=hid (show R=As.encF 2 x rd rs1 rs2 n from EN.out)
  generalize hpn:As.place' 2 n=pn at *
  have HPN:=hid hpn
  clear hpn
  go_enter Tryz.func194,Tryz.ntmps194
  go_wp2
  go_quiet ((go_at_call 217; exact Calls.quiet_of_same (cP.out _)))
  go_wp2
  go_ret
  refine ⟨yC ?_,ye (G.out _) _⟩
  rw [EN2.out]
  unfold As.encF
  rw [HPN.out]
  simp only []
  rw [if_pos (show As.hasRd 2=true from rfl),if_neg (show ¬ As.hasRs1 2=true by decide),if_neg (show ¬ As.hasRs2 2=true by decide)]
  rw [PW.out.1]
  have s1:=ybJ (x ||| pn) rd 128 128 rfl PW.out.2 (by omega)
  rw [s1.1]
 ·have EN2:=hid (show R=As.encF 3 x rd rs1 rs2 n from EN.out)
  generalize hpn:As.place' 3 n=pn at *
  have HPN:=hid hpn
  clear hpn
  go_enter Tryz.func194,Tryz.ntmps194
  go_wp2
  go_quiet ((go_at_call 217; exact Calls.quiet_of_same (cP.out _)))
  go_wp2
  go_ret
  refine ⟨yC ?_,ye (G.out _) _⟩
  rw [EN2.out]
  unfold As.encF
  rw [HPN.out]
  simp only []
  rw [if_pos (show As.hasRd 3=true from rfl),if_pos (show As.hasRs1 3=true from rfl),if_neg (show ¬ As.hasRs2 3=true by decide)]
  rw [PW.out.1]
  have s1:=ybJ (x ||| pn) rd 128 128 rfl PW.out.2 (by omega)
  rw [s1.1]
  have s2:=ybJ ((x ||| pn) ||| As.fld rd 0 5 * 128) rs1 32768 32768 rfl s1.2 (by omega)
  rw [s2.1]
 ·have EN2:=hid (show R=As.encF 4 x rd rs1 rs2 n from EN.out)
  generalize hpn:As.place' 4 n=pn at *
  have HPN:=hid hpn
  clear hpn
  go_enter Tryz.func194,Tryz.ntmps194
  go_wp2
  go_quiet ((go_at_call 217; exact Calls.quiet_of_same (cP.out _)))
  go_wp2
  go_ret
  refine ⟨yC ?_,ye (G.out _) _⟩
  rw [EN2.out]
  unfold As.encF
  rw [HPN.out]
  simp only []
  rw [if_neg (show ¬ As.hasRd 4=true by decide),if_pos (show As.hasRs1 4=true from rfl),if_pos (show As.hasRs2 4=true from rfl)]
  rw [PW.out.1]
  have s1:=ybJ (x ||| pn) rs1 32768 32768 rfl PW.out.2 (by omega)
  rw [s1.1]
  have s2:=ybJ ((x ||| pn) ||| As.fld rs1 0 5 * 32768) rs2 1048576 1048576 rfl s1.2 (by omega)
  rw [s2.1]
 ·have EN2:=hid (show R=As.encF 5 x rd rs1 rs2 n from EN.out)
  generalize hpn:As.place' 5 n=pn at *
  have HPN:=hid hpn
  clear hpn
  go_enter Tryz.func194,Tryz.ntmps194
  go_wp2
  go_quiet ((go_at_call 217; exact Calls.quiet_of_same (cP.out _)))
  go_wp2
  go_ret
  refine ⟨yC ?_,ye (G.out _) _⟩
  rw [EN2.out]
  unfold As.encF
  rw [HPN.out]
  simp only []
  rw [if_neg (show ¬ As.hasRd 5=true by decide),if_pos (show As.hasRs1 5=true from rfl),if_pos (show As.hasRs2 5=true from rfl)]
  rw [PW.out.1]
  have s1:=ybJ (x ||| pn) rs1 32768 32768 rfl PW.out.2 (by omega)
  rw [s1.1]
  have s2:=ybJ ((x ||| pn) ||| As.fld rs1 0 5 * 32768) rs2 1048576 1048576 rfl s1.2 (by omega)
  rw [s2.1]
 ·have EN2:=hid (show R=As.encF 6 x rd rs1 rs2 n from EN.out)
  generalize hpn:As.place' 6 n=pn at *
  have HPN:=hid hpn
  clear hpn
  go_enter Tryz.func194,Tryz.ntmps194
  go_wp2
  go_quiet ((go_at_call 217; exact Calls.quiet_of_same (cP.out _)))
  go_wp2
  go_ret
  refine ⟨yC ?_,ye (G.out _) _⟩
  rw [EN2.out]
  unfold As.encF
  rw [HPN.out]
  simp only []
  rw [if_pos (show As.hasRd 6=true from rfl),if_pos (show As.hasRs1 6=true from rfl),if_pos (show As.hasRs2 6=true from rfl)]
  rw [PW.out.1]
  have s1:=ybJ (x ||| pn) rd 128 128 rfl PW.out.2 (by omega)
  rw [s1.1]
  have s2:=ybJ ((x ||| pn) ||| As.fld rd 0 5 * 128) rs1 32768 32768 rfl s1.2 (by omega)
  rw [s2.1]
  have s3:=ybJ (((x ||| pn) ||| As.fld rd 0 5 * 128) ||| As.fld rs1 0 5 * 32768) rs2 1048576 1048576 rfl s2.2 (by omega)
  rw [s3.1]
 ·have EN2:=hid (show R=As.encF 7 x rd rs1 rs2 n from EN.out)
  generalize hpn:As.place' 7 n=pn at *
  have HPN:=hid hpn
  clear hpn
  go_enter Tryz.func194,Tryz.ntmps194
  go_wp2
  go_quiet ((go_at_call 217; exact Calls.quiet_of_same (cP.out _)))
  go_wp2
  go_ret
  refine ⟨yC ?_,ye (G.out _) _⟩
  rw [EN2.out]
  unfold As.encF
  rw [HPN.out]
  simp only []
  rw [if_neg (show ¬ As.hasRd 7=true by decide),if_neg (show ¬ As.hasRs1 7=true by decide),if_neg (show ¬ As.hasRs2 7=true by decide)]
  rw [PW.out.1]
set_option maxHeartbeats 2000000 in
theorem yfA (v:Int) (w:World) (h0:-2147483648<=v) (h1:v<=2147483647) :
  Calls Tryz.prog 197 #[.int .i64 v] w fun e w'=>e = .returned (.tuple #[.int .i64 (As.partHigh v),.int .i64 (As.partLow v)])/\w'=w:=by
 have a1:=ylA v
 have r1:0<=v % 4096/\v % 4096 < 4096:=by omega
 have e1:bits .and .i64 v 4095=v % 4096:=by rw [a1]; omega
 have HH:=hid (show As.partHigh v=(v - As.partLow v) / 4096 % 1048576 from rfl)
 have HLO:=hid (show As.partLow v=if v % 4096 < 2048 then v % 4096 else v % 4096 - 4096 from rfl)
 clear a1
 by_cases c:v % 4096 < 2048
 ·have EL:=hid (show As.partLow v=v % 4096 by rw [HLO.out,if_pos c])
  have EH:=hid (show bits .and .i64 ((v - v % 4096) / 4096) 1048575=As.partHigh v by rw [yhA,HH.out,EL.out]; omega)
  generalize As.partLow v=lo at *
  generalize As.partHigh v=hi at *
  go_enter Tryz.func197,Tryz.ntmps197
  go_wp2
  go_ret2
  exact ⟨by rw [EL.out,<- EH.out]; rfl,rfl⟩
 ·have EL:=hid (show As.partLow v=v % 4096 - 4096 by rw [HLO.out,if_neg c])
  have EH:=hid (show bits .and .i64 ((v - (v % 4096 - 4096)) / 4096) 1048575=As.partHigh v by rw [yhA,HH.out,EL.out]; omega)
  generalize As.partLow v=lo at *
  generalize As.partHigh v=hi at *
  go_enter Tryz.func197,Tryz.ntmps197
  go_wp2
  go_ret2
  exact ⟨by rw [EL.out,<- EH.out]; rfl,rfl⟩
theorem yfL (W:World) (x:Int):yaj (W.alloc (.cells #[.int .i64 x] 3)) (some ⟨W.heap.size,0,none⟩) 1 [x] :=
 .inr ⟨W.heap.size,0,_,rfl,yc.new W _ _,fun i h=>by
  have:i=0:=by simp at h; omega
  subst this; rfl⟩
theorem yeF (W:World) (x y:Int):yaj (W.alloc (.cells #[.int .i64 x,.int .i64 y] 3)) (some ⟨W.heap.size,0,none⟩) 2 [x,y] :=
 .inr ⟨W.heap.size,0,_,rfl,yc.new W _ _,fun i h=>by
  rcases (show i=0\/i=1 by simp at h; omega) with rfl | rfl <;> rfl⟩
set_option maxRecDepth 100000 in
set_option maxHeartbeats 2000000 in
theorem yaP (B:Nat) (s:ByteArray) (b g:Nat) (st:As.St) (op rd rs1 rs2:Nat) (n:Int) (W:World) (h:yl B s b g st W) (h1:1<=op) (h2:op<=25) :
  Calls Tryz.prog 188 #[.pointer (some ⟨b,0,none⟩),insN op rd rs1 rs2 n] W fun en W'=>en = .returned (.tuple #[])/\Does B s b g W (As.layOne op rd rs1 rs2 n st) W':=by
 have HW:=hid h
 have cE:=hid (fun V (hV:Tabs V)=>yat op rd rs1 rs2 n V hV h1 h2)
 clear h
 unfold insN As.layOne at *
 generalize As.enc op rd rs1 rs2 n=x at *
 go_enter Tryz.func188,Tryz.ntmps188
 go_wp2_with fail
 refine (cE.out _ (HW.out.does.alloc _).1.tabs).mono ?_
 rintro e V ⟨rfl,hg⟩
 have D:=hid ((HW.out.does.alloc _).grown hg)
 clear hg cE
 go_wp2_with fail
 refine (ydg B s b g st _ 1 [(x:Int)] _ (D.out.alloc _).1 (yfL V x) (by simp)).mono ?_
 rintro e V2 ⟨rfl,h2⟩
 have D2:=hid ((D.out.alloc _).after h2)
 clear h2
 go_wp2
 go_end0
 exact ⟨rfl,D2.out⟩
def yeS (op rd rs1 rs2:Nat) (n:Int):Array Value:=#[.int .i64 op,.int .i64 rd,.int .i64 rs1,.int .i64 rs2,.int .i64 n]
set_option maxRecDepth 100000 in
set_option maxHeartbeats 4000000 in
theorem ydf (B:Nat) (s:ByteArray) (b g:Nat) (st:As.St) (reg op rd rs1 rs2:Nat) (n:Int) (sym:Nat) (addend:Int) (W:World) (h:yl B s b g st W) (h1:1<=op) (h2:op<=25) :
  Calls Tryz.prog 192 #[.pointer (some ⟨b,0,none⟩),.int .i64 reg,insN op rd rs1 rs2 n,.int .i64 sym,.int .i64 addend] W fun en W'=>en = .returned (.tuple #[])/\Does B s b g W (As.layAddress reg op rd rs1 rs2 n sym addend st) W':=by
 have HW:=hid h
 have L0:=hid ((Loc.begin h).alloc (yeS op rd rs1 rs2 n) 143)
 have hpos:=h.ok.op.pos
 have cE:=hid (fun V (hV:Tabs V)=>yat op rd rs1 rs2 n V hV h1 h2)
 have cE0:=hid (fun V (hV:Tabs V)=>yat 1 reg 0 0 0 V hV (by omega) (by omega))
 have hbl:=h.blk.lt
 have c10:=yfR h
 have RS:=hid (show As.layAddress reg op rd rs1 rs2 n sym addend st=As.layWith 5 sym addend [(As.enc 1 reg 0 0 0:Int),(As.enc op rd rs1 rs2 n:Int)] (As.refuseIf (reg == 0) 7 st.op.pos st) from rfl)
 generalize As.layAddress reg op rd rs1 rs2 n sym addend st=X at *
 generalize As.enc op rd rs1 rs2 n=x at *
 generalize As.enc 1 reg 0 0 0=y at *
 clear h
 unfold insN at *
 have hn1:b≠W.heap.size:=by omega
 cases hr:(reg == 0)
 ·have d:((reg:Int) == 0)=false:=by simp at hr ⊢; omega
  rw [hr] at RS
  have RF:=hid (show X=As.layWith 5 sym addend [(y:Int),(x:Int)] st from RS.out)
  clear RS hr
  go_enter Tryz.func192,Tryz.ntmps192
  go_wp2_with fail
  refine Calls.at_world (Loc B s b g W [(W.heap.size,yeS op rd rs1 rs2 n,143)] st) L0.out ?_
  clear L0 c10
  intro V0 hV0
  have L:=hid hV0
  clear hV0
  refine (cE0.out _ L.out.d.1.tabs).mono ?_
  rintro e V2 ⟨rfl,hg⟩
  have L2:=hid (L.out.grown hg)
  clear hg L cE0
  have Lr:=L2.out.l (W.heap.size,yeS op rd rs1 rs2 n,143) (by simp)
  have m0:=Lr.cell 0
  have m1:=Lr.cell 1
  have m2:=Lr.cell 2
  have m3:=Lr.cell 3
  have m4:=Lr.cell 4
  simp only [yeS,ysk,ysl,ysj] at m0 m1 m2 m3 m4
  clear Lr
  go_wp2_with fail
  refine (cE.out _ L2.out.d.1.tabs).mono ?_
  rintro e V3 ⟨rfl,hg⟩
  have L3:=hid (L2.out.grown hg)
  have D3:=hid (L3.out.d.does HW.out)
  clear hg L2 cE m0 m1 m2 m3 m4 L3
  go_wp2_with fail
  refine (ybm B s b g _ 5 sym addend _ 2 [(y:Int),(x:Int)] _ (D3.out.alloc _).1 (yeF V3 y x) (by simp)).mono ?_
  rintro e V4 ⟨rfl,h4⟩
  have D4:=hid ((D3.out.alloc _).after h4)
  clear h4 D3
  go_wp2
  go_end0
  rw [RF.out]
  exact ⟨rfl,D4.out⟩
 ·have d:((reg:Int) == 0)=true:=by simp at hr ⊢; omega
  rw [hr] at RS
  have RF:=hid (show X=As.layWith 5 sym addend [(y:Int),(x:Int)] (As.refuse 7 st.op.pos st) from RS.out)
  clear RS hr
  go_enter Tryz.func192,Tryz.ntmps192
  go_wp2_with fail
  refine Calls.at_world (Loc B s b g W [(W.heap.size,yeS op rd rs1 rs2 n,143)] st) L0.out ?_
  clear L0 c10
  intro V0 hV0
  refine (yK B s b g st 7 st.op.pos V0 hV0.d.1 (by omega) hpos).mono ?_
  rintro e V1 ⟨rfl,hh⟩
  have L:=hid (hV0.step hh)
  clear hh hV0 V0
  generalize As.refuse 7 st.op.pos st=st1 at *
  go_wp2_with fail
  refine (cE0.out _ L.out.d.1.tabs).mono ?_
  rintro e V2 ⟨rfl,hg⟩
  have L2:=hid (L.out.grown hg)
  clear hg L cE0
  have Lr:=L2.out.l (W.heap.size,yeS op rd rs1 rs2 n,143) (by simp)
  have m0:=Lr.cell 0
  have m1:=Lr.cell 1
  have m2:=Lr.cell 2
  have m3:=Lr.cell 3
  have m4:=Lr.cell 4
  simp only [yeS,ysk,ysl,ysj] at m0 m1 m2 m3 m4
  clear Lr
  go_wp2_with fail
  refine (cE.out _ L2.out.d.1.tabs).mono ?_
  rintro e V3 ⟨rfl,hg⟩
  have L3:=hid (L2.out.grown hg)
  have D3:=hid (L3.out.d.does HW.out)
  clear hg L2 cE m0 m1 m2 m3 m4 L3
  go_wp2_with fail
  refine (ybm B s b g _ 5 sym addend _ 2 [(y:Int),(x:Int)] _ (D3.out.alloc _).1 (yeF V3 y x) (by simp)).mono ?_
  rintro e V4 ⟨rfl,h4⟩
  have D4:=hid ((D3.out.alloc _).after h4)
  clear h4 D3
  go_wp2
  go_end0
  rw [RF.out]
  exact ⟨rfl,D4.out⟩
set_option maxRecDepth 100000 in
set_option maxHeartbeats 4000000 in
theorem yiR (B:Nat) (s:ByteArray) (b g:Nat) (st0:As.St) (op:Nat) (W:World) (h:yl B s b g st0 W) (h1:1<=op) (h2:op<=25) :
  Calls Tryz.prog 139 #[.pointer (some ⟨b,0,none⟩),.int .i64 op] W fun en W'=>en = .returned (.tuple #[])/\Does B s b g W (As.threeRegs (sl s) op st0) W':=by
 have D0:=hid h.does
 clear h
 obtain ⟨X,hX⟩:∃ X,X=As.threeRegs (sl s) op st0:=⟨_,rfl⟩
 rw [<- hX]
 unfold As.threeRegs at hX
 dsimp only at hX
 have RS:=hid hX
 clear hX
 go_enter Tryz.func139,Tryz.ntmps139
 go_wp2_with fail
 refine (yP B s b g st0 _ D0.out.1).mono ?_
 rintro e V1 ⟨rfl,hh⟩
 have D1:=hid (D0.out.afterB hh)
 clear hh D0
 generalize As.register (sl s) st0=R1 at *
 obtain ⟨rd,st1⟩:=R1
 dsimp only at RS D1 ⊢
 go_wp2_with fail
 refine (yav B s b g st1 [44] _ D1.out.1).mono ?_
 rintro e V2 ⟨rfl,hh⟩
 have D2:=hid (D1.out.afterB hh)
 clear hh D1
 generalize As.sign (sl s) [44] st1=st2 at *
 go_wp2_with fail
 refine (yP B s b g st2 _ D2.out.1).mono ?_
 rintro e V3 ⟨rfl,hh⟩
 have D3:=hid (D2.out.afterB hh)
 clear hh D2
 generalize As.register (sl s) st2=R3 at *
 obtain ⟨rs1,st3⟩:=R3
 dsimp only at RS D3 ⊢
 go_wp2_with fail
 refine (yav B s b g st3 [44] _ D3.out.1).mono ?_
 rintro e V4 ⟨rfl,hh⟩
 have D4:=hid (D3.out.afterB hh)
 clear hh D3
 generalize As.sign (sl s) [44] st3=st4 at *
 go_wp2_with fail
 refine (yP B s b g st4 _ D4.out.1).mono ?_
 rintro e V5 ⟨rfl,hh⟩
 have D5:=hid (D4.out.afterB hh)
 clear hh D4
 generalize As.register (sl s) st4=R5 at *
 obtain ⟨rs2,st5⟩:=R5
 dsimp only at RS D5 ⊢
 go_wp2_with fail
 refine (yaP B s b g st5 op rd rs1 rs2 0 _ D5.out.1 h1 h2).mono ?_
 rintro e VF ⟨rfl,hh⟩
 have DF:=hid (D5.out.after hh)
 clear hh
 go_wp2
 go_end0
 rw [RS.out]
 exact ⟨rfl,DF.out⟩
set_option maxRecDepth 100000 in
set_option maxHeartbeats 4000000 in
theorem yhY (B:Nat) (s:ByteArray) (b g:Nat) (st0:As.St) (op:Nat) (W:World) (h:yl B s b g st0 W) (h1:1<=op) (h2:op<=25) :
  Calls Tryz.prog 140 #[.pointer (some ⟨b,0,none⟩),.int .i64 op] W fun en W'=>en = .returned (.tuple #[])/\Does B s b g W (As.twoRegsNum (sl s) op st0) W':=by
 have D0:=hid h.does
 clear h
 obtain ⟨X,hX⟩:∃ X,X=As.twoRegsNum (sl s) op st0:=⟨_,rfl⟩
 rw [<- hX]
 unfold As.twoRegsNum at hX
 dsimp only at hX
 have RS:=hid hX
 clear hX
 go_enter Tryz.func140,Tryz.ntmps140
 go_wp2_with fail
 refine (yP B s b g st0 _ D0.out.1).mono ?_
 rintro e V1 ⟨rfl,hh⟩
 have D1:=hid (D0.out.afterB hh)
 clear hh D0
 generalize As.register (sl s) st0=R1 at *
 obtain ⟨rd,st1⟩:=R1
 dsimp only at RS D1 ⊢
 go_wp2_with fail
 refine (yav B s b g st1 [44] _ D1.out.1).mono ?_
 rintro e V2 ⟨rfl,hh⟩
 have D2:=hid (D1.out.afterB hh)
 clear hh D1
 generalize As.sign (sl s) [44] st1=st2 at *
 go_wp2_with fail
 refine (yP B s b g st2 _ D2.out.1).mono ?_
 rintro e V3 ⟨rfl,hh⟩
 have D3:=hid (D2.out.afterB hh)
 clear hh D2
 generalize As.register (sl s) st2=R3 at *
 obtain ⟨rs1,st3⟩:=R3
 dsimp only at RS D3 ⊢
 go_wp2_with fail
 refine (yav B s b g st3 [44] _ D3.out.1).mono ?_
 rintro e V4 ⟨rfl,hh⟩
 have D4:=hid (D3.out.afterB hh)
 clear hh D3
 generalize As.sign (sl s) [44] st3=st4 at *
 go_wp2_with fail
 refine (yaX B s b g st4 (-2048) 2047 _ D4.out.1).mono ?_
 rintro e V5 ⟨rfl,hh⟩
 have D5:=hid (D4.out.afterB hh)
 clear hh D4
 generalize As.number (sl s) (-2048) 2047 st4=R5 at *
 obtain ⟨n,st5⟩:=R5
 dsimp only at RS D5 ⊢
 go_wp2_with fail
 refine (yaP B s b g st5 op rd rs1 0 n _ D5.out.1 h1 h2).mono ?_
 rintro e VF ⟨rfl,hh⟩
 have DF:=hid (D5.out.after hh)
 clear hh
 go_wp2
 go_end0
 rw [RS.out]
 exact ⟨rfl,DF.out⟩
set_option maxRecDepth 100000 in
set_option maxHeartbeats 4000000 in
theorem yos (B:Nat) (s:ByteArray) (b g:Nat) (st0:As.St) (W:World) (h:yl B s b g st0 W) :
  Calls Tryz.prog 141 #[.pointer (some ⟨b,0,none⟩)] W fun en W'=>en = .returned (.tuple #[])/\Does B s b g W (As.upper (sl s) st0) W':=by
 have D0:=hid h.does
 clear h
 obtain ⟨X,hX⟩:∃ X,X=As.upper (sl s) st0:=⟨_,rfl⟩
 rw [<- hX]
 unfold As.upper at hX
 dsimp only at hX
 have RS:=hid hX
 clear hX
 go_enter Tryz.func141,Tryz.ntmps141
 go_wp2_with fail
 refine (yP B s b g st0 _ D0.out.1).mono ?_
 rintro e V1 ⟨rfl,hh⟩
 have D1:=hid (D0.out.afterB hh)
 clear hh D0
 generalize As.register (sl s) st0=R1 at *
 obtain ⟨rd,st1⟩:=R1
 dsimp only at RS D1 ⊢
 go_wp2_with fail
 refine (yav B s b g st1 [44] _ D1.out.1).mono ?_
 rintro e V2 ⟨rfl,hh⟩
 have D2:=hid (D1.out.afterB hh)
 clear hh D1
 generalize As.sign (sl s) [44] st1=st2 at *
 go_wp2_with fail
 refine (yaX B s b g st2 0 1048575 _ D2.out.1).mono ?_
 rintro e V3 ⟨rfl,hh⟩
 have D3:=hid (D2.out.afterB hh)
 clear hh D2
 generalize As.number (sl s) 0 1048575 st2=R3 at *
 obtain ⟨n,st3⟩:=R3
 dsimp only at RS D3 ⊢
 go_wp2_with fail
 refine (yaP B s b g st3 1 rd 0 0 n _ D3.out.1 (by omega) (by omega)).mono ?_
 rintro e VF ⟨rfl,hh⟩
 have DF:=hid (D3.out.after hh)
 clear hh
 go_wp2
 go_end0
 rw [RS.out]
 exact ⟨rfl,DF.out⟩
set_option maxRecDepth 100000 in
set_option maxHeartbeats 4000000 in
theorem ygu (B:Nat) (s:ByteArray) (b g:Nat) (st0:As.St) (W:World) (h:yl B s b g st0 W) :
  Calls Tryz.prog 144 #[.pointer (some ⟨b,0,none⟩)] W fun en W'=>en = .returned (.tuple #[])/\Does B s b g W (As.jumpRegister (sl s) st0) W':=by
 have D0:=hid h.does
 clear h
 obtain ⟨X,hX⟩:∃ X,X=As.jumpRegister (sl s) st0:=⟨_,rfl⟩
 rw [<- hX]
 unfold As.jumpRegister at hX
 dsimp only at hX
 have RS:=hid hX
 clear hX
 go_enter Tryz.func144,Tryz.ntmps144
 go_wp2_with fail
 refine (yP B s b g st0 _ D0.out.1).mono ?_
 rintro e V1 ⟨rfl,hh⟩
 have D1:=hid (D0.out.afterB hh)
 clear hh D0
 generalize As.register (sl s) st0=R1 at *
 obtain ⟨rd,st1⟩:=R1
 dsimp only at RS D1 ⊢
 go_wp2_with fail
 refine (yav B s b g st1 [44] _ D1.out.1).mono ?_
 rintro e V2 ⟨rfl,hh⟩
 have D2:=hid (D1.out.afterB hh)
 clear hh D1
 generalize As.sign (sl s) [44] st1=st2 at *
 go_wp2_with fail
 refine (yfB B s b g st2 _ D2.out.1).mono ?_
 rintro e V3 ⟨rfl,hh⟩
 have D3:=hid (D2.out.afterB hh)
 clear hh D2
 generalize As.place (sl s) st2=R3 at *
 obtain ⟨⟨n,rs1⟩,st3⟩:=R3
 dsimp only at RS D3 ⊢
 go_wp2_with fail
 refine (yaP B s b g st3 4 rd rs1 0 n _ D3.out.1 (by omega) (by omega)).mono ?_
 rintro e VF ⟨rfl,hh⟩
 have DF:=hid (D3.out.after hh)
 clear hh
 go_wp2
 go_end0
 rw [RS.out]
 exact ⟨rfl,DF.out⟩
set_option maxRecDepth 100000 in
set_option maxHeartbeats 4000000 in
theorem ypg (B:Nat) (s:ByteArray) (b g:Nat) (st0:As.St) (W:World) (h:yl B s b g st0 W) :
  Calls Tryz.prog 149 #[.pointer (some ⟨b,0,none⟩)] W fun en W'=>en = .returned (.tuple #[])/\Does B s b g W (As.move (sl s) st0) W':=by
 have D0:=hid h.does
 clear h
 obtain ⟨X,hX⟩:∃ X,X=As.move (sl s) st0:=⟨_,rfl⟩
 rw [<- hX]
 unfold As.move at hX
 dsimp only at hX
 have RS:=hid hX
 clear hX
 go_enter Tryz.func149,Tryz.ntmps149
 go_wp2_with fail
 refine (yP B s b g st0 _ D0.out.1).mono ?_
 rintro e V1 ⟨rfl,hh⟩
 have D1:=hid (D0.out.afterB hh)
 clear hh D0
 generalize As.register (sl s) st0=R1 at *
 obtain ⟨rd,st1⟩:=R1
 dsimp only at RS D1 ⊢
 go_wp2_with fail
 refine (yav B s b g st1 [44] _ D1.out.1).mono ?_
 rintro e V2 ⟨rfl,hh⟩
 have D2:=hid (D1.out.afterB hh)
 clear hh D1
 generalize As.sign (sl s) [44] st1=st2 at *
 go_wp2_with fail
 refine (yP B s b g st2 _ D2.out.1).mono ?_
 rintro e V3 ⟨rfl,hh⟩
 have D3:=hid (D2.out.afterB hh)
 clear hh D2
 generalize As.register (sl s) st2=R3 at *
 obtain ⟨rs1,st3⟩:=R3
 dsimp only at RS D3 ⊢
 go_wp2_with fail
 refine (yaP B s b g st3 13 rd rs1 0 0 _ D3.out.1 (by omega) (by omega)).mono ?_
 rintro e VF ⟨rfl,hh⟩
 have DF:=hid (D3.out.after hh)
 clear hh
 go_wp2
 go_end0
 rw [RS.out]
 exact ⟨rfl,DF.out⟩
set_option maxRecDepth 100000 in
set_option maxHeartbeats 4000000 in
theorem ygW (B:Nat) (s:ByteArray) (b g:Nat) (st0:As.St) (W:World) (h:yl B s b g st0 W) :
  Calls Tryz.prog 152 #[.pointer (some ⟨b,0,none⟩)] W fun en W'=>en = .returned (.tuple #[])/\Does B s b g W (As.loadAddress (sl s) st0) W':=by
 have D0:=hid h.does
 clear h
 obtain ⟨X,hX⟩:∃ X,X=As.loadAddress (sl s) st0:=⟨_,rfl⟩
 rw [<- hX]
 unfold As.loadAddress at hX
 dsimp only at hX
 have RS:=hid hX
 clear hX
 go_enter Tryz.func152,Tryz.ntmps152
 go_wp2_with fail
 refine (yP B s b g st0 _ D0.out.1).mono ?_
 rintro e V1 ⟨rfl,hh⟩
 have D1:=hid (D0.out.afterB hh)
 clear hh D0
 generalize As.register (sl s) st0=R1 at *
 obtain ⟨rd,st1⟩:=R1
 dsimp only at RS D1 ⊢
 go_wp2_with fail
 refine (yav B s b g st1 [44] _ D1.out.1).mono ?_
 rintro e V2 ⟨rfl,hh⟩
 have D2:=hid (D1.out.afterB hh)
 clear hh D1
 generalize As.sign (sl s) [44] st1=st2 at *
 go_wp2_with fail
 refine (ydN B s b g st2 _ D2.out.1).mono ?_
 rintro e V3 ⟨rfl,hh⟩
 have D3:=hid (D2.out.after hh)
 clear hh D2
 generalize As.target (sl s) st2=R3 at *
 obtain ⟨⟨sym,add⟩,st3⟩:=R3
 dsimp only at RS D3 ⊢
 go_wp2_with fail
 refine (ydf B s b g st3 rd 13 rd rd 0 0 sym add _ D3.out.1 (by omega) (by omega)).mono ?_
 rintro e VF ⟨rfl,hh⟩
 have DF:=hid (D3.out.after hh)
 clear hh
 go_wp2
 go_end0
 rw [RS.out]
 exact ⟨rfl,DF.out⟩
end Go.Proofs.YtpgklkhgfcjceaaGreatDoor
