
import Derived.Test.YtpgklkhgfcjceaaGreatDoorV24
import Derived.Deep.CutRange
import Derived.Deep.RegionHeld3
set_option maxHeartbeats 16000000
namespace Go.Proofs.YtpgklkhgfcjceaaGreatDoor
open Go.RowKit
namespace Mc
def start (m:Im.dK):St:=⟨List.replicate 32 0,m.D ++ List.replicate m.noughts.toNat 0,m.start,0,0,0,[],0,0⟩
def run (m:Im.dK) (ins:List Int) (fuel:Nat):St :=
 let s:=steps m ins fuel fuel (start m)
 if s.dG=0 then { s with dG:=7 } else s
end Mc
theorem lJ.start {W:World} {g:Nat} {m:Im.dK} (h:lJ W g m):W.cell? ⟨g,0,none⟩=some (.int .i64 m.start):=by
 obtain ⟨vt,vf,vd,hb,-⟩:=h
 exact hb.cell 0
def xL:Array Value:=#[.pointer none,.slice none 0 0,.int .i64 0,.int .i64 0,.int .i64 0,.int .i64 0,.int .i64 0,.int .i64 0,.int .i64 0,.int .i64 0,.int .i64 0,.int .i64 0,.int .i64 0,.int .i64 0,.int .i64 0,.int .i64 0,.int .i64 0,.int .i64 0,.int .i64 0,.int .i64 0,.int .i64 0,.int .i64 0,.int .i64 0,.int .i64 0,.int .i64 0,.int .i64 0,.int .i64 0,.int .i64 0,.int .i64 0,.int .i64 0,.int .i64 0,.int .i64 0,.int .i64 0,.int .i64 0,.slice none 0 0,.int .i64 0,.int .i64 0,.int .i64 0,.int .i64 0,.slice none 0 0,.int .i64 0,.int .i64 0]
theorem Tryz.Cq:(Tryz.prog.info? 93).map (fun i=>i.size)=some 42:=by kernel_rfl
theorem DT (g:Nat) (ai:Option Addr) (n ci:Nat) (m:Im.dK) (av:Option Addr) (k cv:Nat):(Value.agg (jD g (.slice ai n ci) (Mc.start m) (.slice av k cv) (.slice none 0 0)).toArray).cells=(jD g (.slice ai n ci) (Mc.start m) (.slice av k cv) (.slice none 0 0)).toArray:=rfl
theorem yoh (m:Im.dK) (hT:Im.jo m) (hD:∀ i,0<=m.D.getD i 0/\m.D.getD i 0 < 4294967296):Mc.Ok (Mc.start m):=by
 have hl:=hT.lens
 have hn:=hT.noughts
 refine ⟨by simp [Mc.start],fun i=>?_,by simp [Mc.start],by simp [Mc.start]; omega,fun i=>?_,hT.start,by simp [Mc.start],by simp [Mc.start],by simp [Mc.start],by simp [Mc.start]⟩
 ·have:(Mc.start m).regs.getD i 0=0:=by
   show (List.replicate 32 (0:Int)).getD i 0=0
   rw [jY,List.getElem?_replicate]
   split <;> rfl
  rw [this]; decide
 ·show 0<=(m.D ++ List.replicate m.noughts.toNat 0).getD i 0/\(m.D ++ List.replicate m.noughts.toNat 0).getD i 0 < 4294967296
  rw [jY]
  by_cases h:i < m.D.length
  ·rw [List.getElem?_append_left h,<- jY]; exact hD i
  ·rw [List.getElem?_append_right (by omega),List.getElem?_replicate]
   split <;> decide
theorem VX (g:Nat) (ai:Option Addr) (n ci:Nat) (m:Im.dK) (av:Option Addr) (k cv:Nat):∀ u∈(jD g (.slice ai n ci) (Mc.start m) (.slice av k cv) (.slice none 0 0)).toArray.toList,u.oneCell'=true:=by
 intro u hu
 simp only [jD,Mc.start,List.mem_append,List.mem_cons,List.map_replicate,List.mem_replicate,List.not_mem_nil,or_false] at hu
 rcases hu with (rfl | rfl) | (⟨_,rfl⟩ | rfl | rfl | rfl | rfl | rfl | rfl | rfl | rfl) <;> rfl
theorem lJ.lt {W:World} {g:Nat} {m:Im.dK} (h:lJ W g m):g < W.heap.size:=by
 obtain ⟨vt,vf,vd,hb,-⟩:=h
 exact hb.lt
theorem yv.begin {W0 U:World} {b g:Nat} {ai:Option Addr} {n ci:Nat} {m:Im.dK} {av:Option Addr} {k cv:Nat} {cur:Array Value} (hb:yc U b cur 93) (hlo:W0.heap.size<=b) (hg:W0.grownBy U none)
  (hd:U.ownsRow W0.heap.size 3 1 (.slice av k cv) k ((m.D ++ List.replicate m.noughts.toNat 0).map (Value.int .i64))) (hk:k=m.D.length+m.noughts.toNat) (hne:∀ j,Value.ownBlock (.slice av k cv)=some j->j≠b) (hok:Mc.Ok (Mc.start m)) :
  yv W0 b g (.slice ai n ci) (Mc.start m) (.slice av k cv) (.slice none 0 0) (U.setRow b (jD g (.slice ai n ci) (Mc.start m) (.slice av k cv) (.slice none 0 0)).toArray):=by
 have gr:U.grownBy (U.setRow b (jD g (.slice ai n ci) (Mc.start m) (.slice av k cv) (.slice none 0 0)).toArray) (some b) :=
  ⟨rfl,rfl,rfl,by simp,fun j _ hj=>setRow_other U b j _ (fun e=>hj (by simp [e]))⟩
 have hl:(Mc.start m).data.length=k:=by rw [hk]; simp [Mc.start]
 refine ⟨setRow_heap U b cur _ 93 _ hb,?_,World.ownsRow_nil _ _ _ _,⟨hne,by simp [Value.ownBlock],by simp [Value.ownBlock]⟩,hlo,yN hg gr (by intro j e; simp at e; omega),hok⟩
 rw [hl]
 exact hd.kept gr (by
  cases hv:Value.ownBlock (.slice av k cv) with
  | none=>exact .inl rfl
  | some j=>right; intro e; exact hne j hv (by simpa using e))
def kX (b:Nat) (W:World):Nat:=match W.cell? ⟨b,40,none⟩ with
 | some (.int _ i)=>i.toNat
 | _=>0
theorem yv.kX {W0 W:World} {b g:Nat} {dW vd vo:Value} {st:Mc.St} (h:yv W0 b g dW st vd vo W):kX b W=st.steps:=by
 unfold Proofs.YtpgklkhgfcjceaaGreatDoor.kX
 rw [h.c.2.2.2.2.2.2.2.2.1]
 simp
theorem C8 (n v:Int) (st:Mc.St):(Mc.set n v st).steps=st.steps:=by unfold Mc.set; split <;> rfl
theorem OU (ins:List Int) (st:Mc.St):(Mc.call ins st).steps=st.steps:=by
 unfold Mc.call
 split
 ·rfl
 split
 ·split <;> rfl
 split
 ·split
  ·rfl
  ·exact C8 _ _ _
 ·rfl
theorem ymJ (m:Im.dK) (rd a:Int) (st:Mc.St):(Mc.load m rd a st).steps=st.steps:=by
 unfold Mc.load
 split
 ·exact C8 _ _ _
 split
 ·exact C8 _ _ _
 ·rfl
theorem ymp (m:Im.dK) (ins:List Int) (op rd au aC n:Int) (st:Mc.St):(Mc.doIt m ins op rd au aC n st).steps=st.steps:=by
 unfold Mc.doIt
 split
 ·rfl
 split
 ·exact C8 _ _ _
 split
 ·exact C8 _ _ _
 split
 ·exact C8 _ _ _
 split
 ·exact C8 _ _ _
 split
 ·unfold Mc.branch; split <;> rfl
 split
 ·exact ymJ _ _ _ _
 split
 ·unfold Mc.store; split <;> rfl
 split
 ·exact C8 _ _ _
 split
 ·exact OU _ _
 ·exact C8 _ _ _
theorem Py (m:Im.dK) (ins:List Int) (st:Mc.St):(Mc.step m ins st).steps=st.steps+1:=by
 unfold Mc.step
 split
 ·rfl
 ·exact ymp _ _ _ _ _ _ _ _
theorem ynb (m:Im.dK) (ins:List Int) (fuel k:Nat) (st:Mc.St) (h:st.dG=0/\st.steps < fuel):Mc.steps m ins fuel (k+1) st=Mc.steps m ins fuel k (Mc.step m ins st):=by
 simp only [Mc.steps]
 rw [if_pos h]
theorem Vj (m:Im.dK) (ins:List Int) (fuel k:Nat) (st:Mc.St) (h:¬ (st.dG=0/\st.steps < fuel)):Mc.steps m ins fuel k st=st:=by
 cases k with
 | zero=>rfl
 | succ k=>simp only [Mc.steps]; rw [if_neg h]
def WW (W0:World) (s:Mc.St) (e:Ending) (w':World):Prop :=
 ∃ vo,e = .returned (.tuple #[.agg #[.int .i64 s.dG,.int .i64 s.code,vo,.int .i64 s.steps,.int .i64 s.read],.int .i64 0])/\w'.ownsRow W0.heap.size 3 1 vo s.o.length (s.o.map (Value.int .i64))
def lH:Array Value:=#[.int .i64 0,.int .i64 0,.slice none 0 0,.int .i64 0,.int .i64 0]
theorem Kc {w V:World} {r B:Nat} {c0 c1 c2 c3 c4:Value} {vo:Value} {n:Nat} {xs:List Value} (a0 a1 a2 a3 a4:Value) (hb:yc V r #[c0,c1,c2,c3,c4] 37) (hr:w.heap.size<=r) (hg:w.grownBy V none) (ho:V.ownsRow B 3 1 vo n xs) (hne:∀ k,vo.ownBlock=some k->k≠r) :
  yc (((((V.setCell ⟨r,0,none⟩ a0).setCell ⟨r,1,none⟩ a1).setCell ⟨r,2,none⟩ a2).setCell ⟨r,3,none⟩ a3).setCell ⟨r,4,none⟩ a4) r #[a0,a1,a2,a3,a4] 37 /\
  w.grownBy (((((V.setCell ⟨r,0,none⟩ a0).setCell ⟨r,1,none⟩ a1).setCell ⟨r,2,none⟩ a2).setCell ⟨r,3,none⟩ a3).setCell ⟨r,4,none⟩ a4) none /\
  (((((V.setCell ⟨r,0,none⟩ a0).setCell ⟨r,1,none⟩ a1).setCell ⟨r,2,none⟩ a2).setCell ⟨r,3,none⟩ a3).setCell ⟨r,4,none⟩ a4).ownsRow B 3 1 vo n xs:=by
 have g:∀ {U:World} (o:Nat) (v:Value),w.grownBy U none->w.grownBy (U.setCell ⟨r,o,none⟩ v) none:=fun {U} o v h=>yN h (yf U r o v) (by intro k e; simp at e; omega)
 exact ⟨((((hb.set 0 a0).set 1 a1).set 2 a2).set 3 a3).set 4 a4,g _ _ (g _ _ (g _ _ (g _ _ (g _ _ hg)))),Bc (Bc (Bc (Bc (Bc ho hne) hne) hne) hne) hne⟩
set_option maxRecDepth 100000 in
theorem ypo (g:Nat) (m:Im.dK) (ai:Option Addr) (ci:Nat) (ins:List Int) (fuel:Nat) (w:World) (hI:lJ w g m) (hT:Im.jo m) (hD:∀ i,0<=m.D.getD i 0/\m.D.getD i 0 < 4294967296) (hl:ins.length<=16) (hf:fuel<=65536) (hW:Im.sH m) (hin:yz w ai ins) (ht:dz w)
  (cD:∀ (W0:World) (b:Nat) (st:Mc.St) (vd vo:Value) (op rd au aC n:Int) (W:World),mR W0 b g ai ci ins st vd vo m rd au aC n W->0<=op/\op<=25 ->
   Calls Tryz.prog 83 #[.pointer (some ⟨b,0,none⟩),aX op rd au aC n] W fun e W'=>e = .returned (.tuple #[])/\kN W0 b g (.slice ai ins.length ci) (Mc.doIt m ins op rd au aC n st) W') :
  Calls Tryz.prog 30 #[.pointer (some ⟨g,0,none⟩),.slice ai ins.length ci,.int .i64 fuel] w fun e w'=>WW w (Mc.run m ins fuel) e w'/\w.grownBy w' none:=by
 have d1:decide ((16:Int) < (ins.length:Int))=false:=by simp; omega
 have d2:decide ((fuel:Int) < 0)=false:=by simp
 have d3:decide ((65536:Int) < (fuel:Int))=false:=by simp; omega
 have I0:=hid (hI.kept (aH w (.cells lH 37) none))
 have R0:=hid (yc.new w lH 37)
 have HW0:=hid (show w.heap.size < (w.alloc (.cells lH 37)).heap.size by rw [show (w.alloc (.cells lH 37)).heap.size=w.heap.size+1 from Array.size_push _]; omega)
 have G0:=hid (aH w (.cells lH 37) none)
 have N0:=hid (hin.kept (fun a v e=>yd e (aH w (.cells lH 37) none)))
 have T0:=hid (ht.grown (aH w (.cells lH 37) none))
 have CD:=hid cD
 have HT:=hid hT
 have HW:=hid hW
 have cF:=hid (fun V hV=>ZF g m V hV hT)
 have OK:=hid (yoh m hT hD)
 obtain ⟨iR,Td,hsR⟩:∃ i,Tryz.prog.info? 93=some i/\i.size=42:=by
  have h:=Tryz.Cq
  cases hh:Tryz.prog.info? 93 with
  | none=>rw [hh] at h; cases h
  | some i=>rw [hh] at h; simp at h; exact ⟨i,rfl,h⟩
 clear hI hin ht cD
 go_enter Tryz.func30,Tryz.ntmps30
 go_upto_region 5 with fail
 unfold lH at I0 R0 G0 N0 T0 HW0
 generalize w.alloc (.cells #[.int .i64 0,.int .i64 0,.slice none 0 0,.int .i64 0,.int .i64 0] 37)=W0 at *
 have s0:=I0.o.start
 have I1:=hid (I0.o.kept (ye (World.grownBy.refl W0 none) 1))
 go_cut [8] from 20 to 28 (fun v wx=>∃ b vd,v = .pointer (some ⟨b,0,none⟩)/\yv W0 b g (.slice ai ins.length ci) (Mc.start m) vd (.slice none 0 0) wx)
 case first =>
  refine wp_region_held_drew (S:=(fun w'=>w'.cell? ⟨g,0,none⟩=some (.int .i64 m.start))) (by kernel_rfl) s0 ?_
  intro hS
  refine wpAnyH_take (i:=0) (v:=?_) rfl (by kernel_rfl) (by kernel_rfl) (by kernel_rfl) (fun _ _ _ h=>h) (Or.inl ⟨by kernel_rfl,?_⟩) hS ?_
  rotate_left
  ·intro w' hw'; go_simp; with_reducible rfl
  refine wpAnyH_take (i:=1) (v:=?_) rfl (by kernel_rfl) (by kernel_rfl) (by kernel_rfl) (fun _ _ _ h=>h) (Or.inl ⟨by kernel_rfl,?_⟩) hS ?_
  rotate_left
  ·intro w' hw'; go_simp; with_reducible rfl
  refine wpAnyH_take (i:=2) (v:=?_) rfl (by kernel_rfl) (by kernel_rfl) (by kernel_rfl) (fun _ _ _ h=>h) (Or.inl ⟨by kernel_rfl,?_⟩) hS ?_
  rotate_left
  ·intro w' hw'; go_simp; with_reducible rfl
  refine wpAnyH_take (i:=4) (v:=?_) rfl (by kernel_rfl) (by kernel_rfl) (by kernel_rfl) (fun _ _ _ h=>h) (Or.inl ⟨by kernel_rfl,?_⟩) hS ?_
  rotate_left
  ·intro w' hw'; go_simp; with_reducible rfl
  refine wpAnyH_take (i:=5) (v:=?_) rfl (by kernel_rfl) (by kernel_rfl) (by kernel_rfl) (fun _ _ _ h=>h) (Or.inl ⟨by kernel_rfl,?_⟩) hS ?_
  rotate_left
  ·intro w' hw'; go_simp; with_reducible rfl
  refine wpAnyH_take (i:=6) (v:=?_) rfl (by kernel_rfl) (by kernel_rfl) (by kernel_rfl) (fun _ _ _ h=>h) (Or.inl ⟨by kernel_rfl,?_⟩) hS ?_
  rotate_left
  ·intro w' hw'; go_simp; with_reducible rfl
  refine wpAnyH_take (i:=7) (v:=?_) rfl (by kernel_rfl) (by kernel_rfl) (by kernel_rfl) (fun _ _ _ h=>h) (Or.inl ⟨by kernel_rfl,?_⟩) hS ?_
  rotate_left
  ·intro w' hw'; go_simp; with_reducible rfl
  refine wpAnyH_ready (rs:=[3,9]) (by kernel_rfl) (by simp) ?_
  refine AllReadyH.cons rfl (fun K hK=>?_) (AllReadyH.cons rfl (fun K hK=>?_) AllReadyH.nil)
  ·go_simp
   refine (cF.o _ I1.o).mono ?_
   rintro e w1 ⟨v,rfl,hv,hg⟩
   obtain ⟨av,cv,rfl⟩:=yh hv
   have z0:=(I1.o.kept hg).start
   refine hK.out _ _ z0 (fun hS2=>?_)
   clear hK K
   refine wpAnyH_take (i:=8) (v:=?_) rfl (by kernel_rfl) (by kernel_rfl) (by kernel_rfl) (fun _ _ _ h=>h) (Or.inl ⟨by kernel_rfl,?_⟩) hS2 ?_
   rotate_left
   ·intro w' hw'; go_simp; with_reducible rfl
   refine wpAnyH_ready (rs:=[9]) (by kernel_rfl) (by simp) ?_
   refine AllReadyH.cons rfl (fun K hK=>?_) AllReadyH.nil
   go_simp
   refine hK.out _ _ (yd z0 (aH _ _ none)) (fun iP=>?_)
   clear hK K
   refine wpAnyH_ready (rs:=[10]) (by kernel_rfl) (by simp) ?_
   refine AllReadyH.cons rfl (fun K hK=>?_) AllReadyH.nil
   rw [if_pos (by kernel_rfl)]
   have BU:=hid (yc.new w1 xL 93)
   have hvl:=hv.lt
   have gU:=hid (ya (ya (ye (World.grownBy.refl W0 none) 1) hg) (aH w1 (.cells xL 93) none))
   have hsz1:=hg.size
   have hd1:=hid (yW (hv.alloc (.cells xL 93)) (show W0.heap.size<=(W0.drewN 1).heap.size from Nat.le_refl _))
   have RB:=hid (yv.begin (g:=g) (ai:=ai) (n:=ins.length) (ci:=ci) BU.o (by simpa using hsz1) gU.o hd1.o rfl (fun j e=>by have:=(hvl j e).2; omega) OK.o)
   refine TA _ 93 (.tmp 8) (.tmp 28) rfl w1.heap.size 93 xL (by kernel_rfl) (.agg (jD g (.slice ai ins.length ci) (Mc.start m) (.slice av (m.D.length+m.noughts.toNat) cv) (.slice none 0 0)).toArray) (by kernel_rfl) iR Td (by rw [DT,hsR]; rfl) BU.o (by rw [DT]; rfl) (by rw [DT]; exact VX g ai ins.length ci m av _ cv) ?_
   rw [DT]
   refine hK.out _ _ ?_ (fun iT=>?_)
   ·exact (World.cell?_of_block (setRow_other _ _ g _ (by have:=I0.o.lt; simp at hsz1; omega))).trans (yd z0 (aH w1 (.cells xL 93) none))
   clear hK K
   refine wpAnyH_done (by kernel_rfl) ?_ _
   try simp only [Act.put,oD,nQ,om]
   go_wp2_with fail
   go_meet
   exact ⟨_,_,rfl,RB.o⟩
  ·go_simp
   have hS1:=yd s0 (ye (aH W0 (.cells xL 93) none) 1)
   refine hK.out _ _ hS1 (fun hS2=>?_)
   clear hK K
   refine wpAnyH_ready (rs:=[3]) (by kernel_rfl) (by simp) ?_
   refine AllReadyH.cons rfl (fun K hK=>?_) AllReadyH.nil
   go_simp
   have I2:=hid (I0.o.kept (ye (aH W0 (.cells xL 93) none) 1))
   refine (cF.o _ I2.o).mono ?_
   rintro e w1 ⟨v,rfl,hv,hg⟩
   obtain ⟨av,cv,rfl⟩:=yh hv
   have z0:=(I2.o.kept hg).start
   refine hK.out _ _ z0 (fun iP=>?_)
   clear hK K
   refine wpAnyH_take (i:=8) (v:=?_) rfl (by kernel_rfl) (by kernel_rfl) (by kernel_rfl) (fun _ _ _ h=>h) (Or.inl ⟨by kernel_rfl,?_⟩) iP ?_
   rotate_left
   ·intro w' hw'; go_simp; with_reducible rfl
   refine wpAnyH_ready (rs:=[10]) (by kernel_rfl) (by simp) ?_
   refine AllReadyH.cons rfl (fun K hK=>?_) AllReadyH.nil
   rw [if_pos (by kernel_rfl)]
   have BU:=hid (((yc.new W0 xL 93).drewN 1).grown hg (by simp))
   have hvl:=hv.lt
   have gU:=hid (ya (ye (aH W0 (.cells xL 93) none) 1) hg)
   have hsz1:((W0.alloc (.cells xL 93)).drewN 1).heap.size=W0.heap.size+1:=Array.size_push _
   have hd1:=hid (yW hv (show W0.heap.size<=((W0.alloc (.cells xL 93)).drewN 1).heap.size by omega))
   have RB:=hid (yv.begin (g:=g) (ai:=ai) (n:=ins.length) (ci:=ci) BU.o (Nat.le_refl _) gU.o hd1.o rfl (fun j e=>by have:=(hvl j e).1; omega) OK.o)
   refine TA _ 93 (.tmp 8) (.tmp 28) rfl W0.heap.size 93 xL (by kernel_rfl) (.agg (jD g (.slice ai ins.length ci) (Mc.start m) (.slice av (m.D.length+m.noughts.toNat) cv) (.slice none 0 0)).toArray) (by kernel_rfl) iR Td (by rw [DT,hsR]; rfl) BU.o (by rw [DT]; rfl) (by rw [DT]; exact VX g ai ins.length ci m av _ cv) ?_
   rw [DT]
   refine hK.out _ _ ?_ (fun iT=>?_)
   ·exact (World.cell?_of_block (setRow_other _ _ g _ (by have:=I0.o.lt; omega))).trans z0
   clear hK K
   refine wpAnyH_done (by kernel_rfl) ?_ _
   try simp only [Act.put,oD,nQ,om]
   go_wp2_with fail
   go_meet
   exact ⟨_,_,rfl,RB.o⟩
 case rest =>
 obtain ⟨b,Tk,rfl,hr⟩:=hcut
 have H0:=hid hr
 clear hr cF
 go_wp2
 go_loopw [] (fun wr=>∃ (st:Mc.St) (vd vo:Value) (k:Nat),yv W0 b g (.slice ai ins.length ci) st vd vo wr/\Mc.steps m ins fuel fuel (Mc.start m)=Mc.steps m ins fuel k st/\fuel<=st.steps+k/\st.steps<=fuel) (fun wr=>fuel - kX b wr)
 case atStart=>exact ⟨Mc.start m,Tk,_,fuel,H0.o,rfl,by omega,Nat.zero_le _⟩
 case round =>
  obtain ⟨st,vd,vo,k,hr,he,hk,hs⟩:=hrel
  have H:=hid hr
  have HE:=hid he
  clear hr he H0
  have c37:=H.o.c.2.2.2.2.2.1
  have c40:=H.o.c.2.2.2.2.2.2.2.2.1
  by_cases e0:st.dG=0
  ·have q0:(st.dG == 0)=true:=by simpa using e0
   by_cases hlt:st.steps < fuel
   ·have q1:decide ((st.steps:Int) < (fuel:Int))=true:=by simp; omega
    obtain ⟨k',rfl⟩:∃ k',k=k'+1:=⟨k - 1,by omega⟩
    have M:=hid (ynb m ins fuel k' st ⟨e0,hlt⟩)
    have SS:=hid (Py m ins st)
    have PO:=hid H.o.kX
    go_wp2_with fail
    refine (yoc W0 b g ai ci ins st vd vo m wr H.o I0.o HT.o HW.o N0.o hl T0.o (by omega) (fun st op rd au aC n W=>CD.o W0 b st vd vo op rd au aC n W)).mono ?_
    rintro e V ⟨rfl,JO,JR,h2⟩
    have H2:=hid h2
    clear h2
    go_wp2
    go_roundw
    case rel=>exact ⟨Mc.step m ins st,JO,JR,k',H2.o,by rw [HE.o,M.o],by rw [SS.o]; omega,by rw [SS.o]; omega⟩
    case measure=>rw [PO.o,H2.o.kX,SS.o]; omega
   ·have q1:decide ((st.steps:Int) < (fuel:Int))=false:=by simp; omega
    have RU:=hid (show Mc.run m ins fuel={ st with dG:=7 } by unfold Mc.run; dsimp only; rw [HE.o,Vj m ins fuel k st (fun c=>hlt c.2)]; rw [if_pos e0])
    obtain ⟨ao,co,Fe⟩:=yh H.o.o
    subst Fe
    have oK:=hid (R0.o.grown H.o.gr (by simp))
    have hw0:w.heap.size < W0.heap.size:=HW0.o
    have hbw:b≠w.heap.size:=by have:=H.o.lo; omega
    have hwb:w.heap.size≠b:=fun e=>hbw e.symm
    have x0:=oK.o.cell 0
    have x1:=oK.o.cell 1
    have x2:=oK.o.cell 2
    have x3:=oK.o.cell 3
    have x4:=oK.o.cell 4
    simp only [bC,bG,bE] at x0 x1 x2 x3 x4
    have y0:=oK.o.free 0
    have y1:=oK.o.free 1
    have y2:=oK.o.free 2
    have y3:=oK.o.free 3
    have y4:=oK.o.free 4
    have KT:=H.o.c.2.2.2.2.2.2.1
    have KU:=H.o.c.2.2.2.2.2.2.2.1
    have AY:=H.o.c.2.2.2.2.2.2.2.2.2
    have f37:=H.o.free 37
    go_wp2
    have HF:=hid (H.o.kC 7)
    have RF:=Kc (w:=w) (.int .i64 7) (.int .i64 st.code) (.slice ao st.o.length co) (.int .i64 st.steps) (.int .i64 st.read) (oK.o.grown (yf wr b 37 (.int .i64 7)) (by simp; omega)) (Nat.le_refl _) (ya G0.o HF.o.gr) HF.o.o (fun j e=>by have:=(HF.o.o.lt j e).1; omega)
    have h0:=RF.1.cell 0
    have h1:=RF.1.cell 1
    have h2:=RF.1.cell 2
    have h3:=RF.1.cell 3
    have h4:=RF.1.cell 4
    simp only [bC,bG,bE] at h0 h1 h2 h3 h4
    refine bodyPost_ret (v:=.tuple #[.agg #[.int .i64 7,.int .i64 st.code,.slice ao st.o.length co,.int .i64 st.steps,.int .i64 st.read],.int .i64 0]) ?_ rfl ⟨⟨.slice ao st.o.length co,by rw [RU.o],by rw [RU.o]; exact yW RF.2.2 (Nat.le_of_lt hw0)⟩,RF.2.1⟩
    clear RF HF x0 x1 x2 x3 x4 y0 y1 y2 y3 y4 c37 KT KU c40 AY f37
    generalize World.setCell _ _ _=WF at *
    simp [results,Tryz.results30,go_sem,h0,h1,h2,h3,h4]
  ·have q0:(st.dG == 0)=false:=by simpa using e0
   have RU:=hid (show Mc.run m ins fuel=st by unfold Mc.run; dsimp only; rw [HE.o,Vj m ins fuel k st (fun c=>e0 c.1)]; rw [if_neg e0])
   obtain ⟨ao,co,Fe⟩:=yh H.o.o
   subst Fe
   have oK:=hid (R0.o.grown H.o.gr (by simp))
   have hw0:w.heap.size < W0.heap.size:=HW0.o
   have hbw:b≠w.heap.size:=by have:=H.o.lo; omega
   have hwb:w.heap.size≠b:=fun e=>hbw e.symm
   have x0:=oK.o.cell 0
   have x1:=oK.o.cell 1
   have x2:=oK.o.cell 2
   have x3:=oK.o.cell 3
   have x4:=oK.o.cell 4
   simp only [bC,bG,bE] at x0 x1 x2 x3 x4
   have y0:=oK.o.free 0
   have y1:=oK.o.free 1
   have y2:=oK.o.free 2
   have y3:=oK.o.free 3
   have y4:=oK.o.free 4
   have KT:=H.o.c.2.2.2.2.2.2.1
   have KU:=H.o.c.2.2.2.2.2.2.2.1
   have AY:=H.o.c.2.2.2.2.2.2.2.2.2
   have f37:=H.o.free 37
   go_wp2
   have HF:=hid H.o
   have RF:=Kc (w:=w) (.int .i64 st.dG) (.int .i64 st.code) (.slice ao st.o.length co) (.int .i64 st.steps) (.int .i64 st.read) (oK.o) (Nat.le_refl _) (ya G0.o HF.o.gr) HF.o.o (fun j e=>by have:=(HF.o.o.lt j e).1; omega)
   have h0:=RF.1.cell 0
   have h1:=RF.1.cell 1
   have h2:=RF.1.cell 2
   have h3:=RF.1.cell 3
   have h4:=RF.1.cell 4
   simp only [bC,bG,bE] at h0 h1 h2 h3 h4
   refine bodyPost_ret (v:=.tuple #[.agg #[.int .i64 st.dG,.int .i64 st.code,.slice ao st.o.length co,.int .i64 st.steps,.int .i64 st.read],.int .i64 0]) ?_ rfl ⟨⟨.slice ao st.o.length co,by rw [RU.o],by rw [RU.o]; exact yW RF.2.2 (Nat.le_of_lt hw0)⟩,RF.2.1⟩
   clear RF HF x0 x1 x2 x3 x4 y0 y1 y2 y3 y4 c37 KT KU c40 AY f37
   generalize World.setCell _ _ _=WF at *
   simp [results,Tryz.results30,go_sem,h0,h1,h2,h3,h4]
set_option maxRecDepth 100000 in
theorem oL (W0:World) (b g:Nat) (ai:Option Addr) (ci:Nat) (ins:List Int) (st:Mc.St) (vd vo:Value) (m:Im.dK) (op rd au aC n:Int) (W:World) (hpre:mR W0 b g ai ci ins st vd vo m rd au aC n W) (hop:op=2) :
  Calls Tryz.prog 83 #[.pointer (some ⟨b,0,none⟩),aX op rd au aC n] W fun e W'=>e = .returned (.tuple #[])/\kN W0 b g (.slice ai ins.length ci) (Mc.doIt m ins op rd au aC n st) W':=by
 obtain ⟨h,hI,hT,hin,hl,d0,s1,s2,hn⟩:=hpre
 have HA:=hid (h.grown (aH W (.cells #[.int .i64 op,.int .i64 rd,.int .i64 au,.int .i64 aC,.int .i64 n] 143) none))
 have NE:=hid (show W.heap.size≠b from fun e=>by have:=h.blk.lt; omega)
 have IC:=hid (je W (.int .i64 op) (.int .i64 rd) (.int .i64 au) (.int .i64 aC) (.int .i64 n))
 have r1:=hid (fun W hW=>yj W0 b g (.slice ai ins.length ci) st vd vo au W hW s1.1 s1.2)
 have r2:=hid (fun W hW=>yj W0 b g (.slice ai ins.length ci) st vd vo aC W hW s2.1 s2.2)
 have q1:=ym h.ok au
 have q2:=ym h.ok aC
 have hp:=h.ok.pc
 obtain ⟨X,hX⟩:∃ X,X=Mc.doIt m ins op rd au aC n st:=⟨_,rfl⟩
 rw [<- hX]
 have RX:=hid hX
 clear hX
 unfold aX
 subst hop
 replace RX:=hid (show X=Mc.set rd (n * 4096+st.pc) st from RX.o)
 have x:IntKind.i64.wrap (n * 4096)=n * 4096:=IntWalk.i64_in _ ⟨by omega,by omega⟩
 have y:IntKind.i64.wrap (n * 4096+st.pc)=n * 4096+st.pc:=IntWalk.i64_in _ ⟨by omega,by omega⟩
 have cS:=hid (fun W hW=>xJ W0 b g (.slice ai ins.length ci) st vd vo rd (n * 4096+st.pc) W hW d0.1 d0.2)
 clear h hI hT hin
 go_enter Tryz.func83,Tryz.ntmps83
 go_wp2_with fail
 generalize W.alloc (.cells #[.int .i64 2,.int .i64 rd,.int .i64 au,.int .i64 aC,.int .i64 n] 143)=V at *
 generalize W.heap.size=ib at *
 obtain ⟨i0,i1,i2,i3,i4⟩:=IC.o
 refine (r1.o _ HA.o).mono ?_
 rintro e V1 ⟨rfl,hV⟩
 subst hV
 go_wp2_with fail
 refine (r2.o _ HA.o).mono ?_
 rintro e V1 ⟨rfl,hV⟩
 subst hV
 have HD:=hid (HA.o.grown (ye (World.grownBy.refl _ none) 1))
 have nS:=HA.o.c.2.2.2.1
 go_wp2
 go_region_with (first | (go_at_call 119; refine (cS.o _ HD.o).mono ?_; rintro e w' ⟨rfl,h2⟩))
 all_goals
  have H2:=hid h2
  clear h2
  go_wp2
  go_end0
  rw [RX.o]
  exact ⟨rfl,_,_,H2.o⟩
set_option maxRecDepth 100000 in
theorem um (W0:World) (b g:Nat) (ai:Option Addr) (ci:Nat) (ins:List Int) (st:Mc.St) (vd vo:Value) (m:Im.dK) (op rd au aC n:Int) (W:World) (hpre:mR W0 b g ai ci ins st vd vo m rd au aC n W) (hop:op=3) :
  Calls Tryz.prog 83 #[.pointer (some ⟨b,0,none⟩),aX op rd au aC n] W fun e W'=>e = .returned (.tuple #[])/\kN W0 b g (.slice ai ins.length ci) (Mc.doIt m ins op rd au aC n st) W':=by
 obtain ⟨h,hI,hT,hin,hl,d0,s1,s2,hn⟩:=hpre
 have HA:=hid (h.grown (aH W (.cells #[.int .i64 op,.int .i64 rd,.int .i64 au,.int .i64 aC,.int .i64 n] 143) none))
 have NE:=hid (show W.heap.size≠b from fun e=>by have:=h.blk.lt; omega)
 have IC:=hid (je W (.int .i64 op) (.int .i64 rd) (.int .i64 au) (.int .i64 aC) (.int .i64 n))
 have r1:=hid (fun W hW=>yj W0 b g (.slice ai ins.length ci) st vd vo au W hW s1.1 s1.2)
 have r2:=hid (fun W hW=>yj W0 b g (.slice ai ins.length ci) st vd vo aC W hW s2.1 s2.2)
 have q1:=ym h.ok au
 have q2:=ym h.ok aC
 have hp:=h.ok.pc
 obtain ⟨X,hX⟩:∃ X,X=Mc.doIt m ins op rd au aC n st:=⟨_,rfl⟩
 rw [<- hX]
 have RX:=hid hX
 clear hX
 unfold aX
 subst hop
 replace RX:=hid (show X=Mc.jump rd (st.pc+n) st from RX.o)
 have y:IntKind.i64.wrap (st.pc+n)=st.pc+n:=IntWalk.i64_in _ ⟨by omega,by omega⟩
 have cJ:=hid (fun W hW=>Vq W0 b g (.slice ai ins.length ci) st vd vo rd (st.pc+n) W hW d0.1 d0.2)
 clear h hI hT hin
 go_enter Tryz.func83,Tryz.ntmps83
 go_wp2_with fail
 generalize W.alloc (.cells #[.int .i64 3,.int .i64 rd,.int .i64 au,.int .i64 aC,.int .i64 n] 143)=V at *
 generalize W.heap.size=ib at *
 obtain ⟨i0,i1,i2,i3,i4⟩:=IC.o
 refine (r1.o _ HA.o).mono ?_
 rintro e V1 ⟨rfl,hV⟩
 subst hV
 go_wp2_with fail
 refine (r2.o _ HA.o).mono ?_
 rintro e V1 ⟨rfl,hV⟩
 subst hV
 have HD:=hid (HA.o.grown (ye (World.grownBy.refl _ none) 1))
 have nS:=HA.o.c.2.2.2.1
 go_wp2
 go_region_with (first | (go_at_call 120; refine (cJ.o _ HD.o).mono ?_; rintro e w' ⟨rfl,h2⟩))
 all_goals
  have H2:=hid h2
  clear h2
  go_wp2
  go_end0
  rw [RX.o]
  exact ⟨rfl,_,_,H2.o⟩
set_option maxRecDepth 100000 in
theorem yse (W0:World) (b g:Nat) (ai:Option Addr) (ci:Nat) (ins:List Int) (st:Mc.St) (vd vo:Value) (m:Im.dK) (op rd au aC n:Int) (W:World) (hpre:mR W0 b g ai ci ins st vd vo m rd au aC n W) (hop:op=11) :
  Calls Tryz.prog 83 #[.pointer (some ⟨b,0,none⟩),aX op rd au aC n] W fun e W'=>e = .returned (.tuple #[])/\kN W0 b g (.slice ai ins.length ci) (Mc.doIt m ins op rd au aC n st) W':=by
 obtain ⟨h,hI,hT,hin,hl,d0,s1,s2,hn⟩:=hpre
 have HA:=hid (h.grown (aH W (.cells #[.int .i64 op,.int .i64 rd,.int .i64 au,.int .i64 aC,.int .i64 n] 143) none))
 have NE:=hid (show W.heap.size≠b from fun e=>by have:=h.blk.lt; omega)
 have IC:=hid (je W (.int .i64 op) (.int .i64 rd) (.int .i64 au) (.int .i64 aC) (.int .i64 n))
 have r1:=hid (fun W hW=>yj W0 b g (.slice ai ins.length ci) st vd vo au W hW s1.1 s1.2)
 have r2:=hid (fun W hW=>yj W0 b g (.slice ai ins.length ci) st vd vo aC W hW s2.1 s2.2)
 have q1:=ym h.ok au
 have q2:=ym h.ok aC
 have hp:=h.ok.pc
 obtain ⟨X,hX⟩:∃ X,X=Mc.doIt m ins op rd au aC n st:=⟨_,rfl⟩
 rw [<- hX]
 have RX:=hid hX
 clear hX
 unfold aX
 subst hop
 replace RX:=hid (show X=Mc.load m rd (Mc.wd (Mc.reg st au+n)) st from RX.o)
 generalize Mc.reg st au=a at *
 have x:IntKind.i64.wrap (a+n)=a+n:=IntWalk.i64_in _ ⟨by omega,by omega⟩
 have cW:=hid (fun W=>Au (a+n) W)
 have wr:=Mc.gH (a+n)
 have cL:=hid (fun W hW=>ynY W0 b g (.slice ai ins.length ci) st vd vo m rd (Mc.wd (a+n)) W hW hI hT wr.1 wr.2 d0.1 d0.2)
 clear h hI hT hin
 go_enter Tryz.func83,Tryz.ntmps83
 go_wp2_with fail
 generalize W.alloc (.cells #[.int .i64 11,.int .i64 rd,.int .i64 au,.int .i64 aC,.int .i64 n] 143)=V at *
 generalize W.heap.size=ib at *
 obtain ⟨i0,i1,i2,i3,i4⟩:=IC.o
 refine (r1.o _ HA.o).mono ?_
 rintro e V1 ⟨rfl,hV⟩
 subst hV
 go_wp2_with fail
 refine (r2.o _ HA.o).mono ?_
 rintro e V1 ⟨rfl,hV⟩
 subst hV
 have HD:=hid (HA.o.grown (ye (World.grownBy.refl _ none) 1))
 have nS:=HA.o.c.2.2.2.1
 go_wp2
 go_region_with (first | (go_at_call 81; refine (cW.o _).mono ?_; rintro e w' ⟨rfl,rfl⟩) | (go_at_call 123; refine (cL.o _ HD.o).mono ?_; rintro e w' ⟨rfl,h2⟩))
 all_goals
  have H2:=hid h2
  clear h2
  go_wp2
  go_end0
  rw [RX.o]
  exact ⟨rfl,H2.o⟩
set_option maxRecDepth 100000 in
theorem yrE (W0:World) (b g:Nat) (ai:Option Addr) (ci:Nat) (ins:List Int) (st:Mc.St) (vd vo:Value) (m:Im.dK) (op rd au aC n:Int) (W:World) (hpre:mR W0 b g ai ci ins st vd vo m rd au aC n W) (hop:op=5) :
  Calls Tryz.prog 83 #[.pointer (some ⟨b,0,none⟩),aX op rd au aC n] W fun e W'=>e = .returned (.tuple #[])/\kN W0 b g (.slice ai ins.length ci) (Mc.doIt m ins op rd au aC n st) W':=by
 obtain ⟨h,hI,hT,hin,hl,d0,s1,s2,hn⟩:=hpre
 have HA:=hid (h.grown (aH W (.cells #[.int .i64 op,.int .i64 rd,.int .i64 au,.int .i64 aC,.int .i64 n] 143) none))
 have NE:=hid (show W.heap.size≠b from fun e=>by have:=h.blk.lt; omega)
 have IC:=hid (je W (.int .i64 op) (.int .i64 rd) (.int .i64 au) (.int .i64 aC) (.int .i64 n))
 have r1:=hid (fun W hW=>yj W0 b g (.slice ai ins.length ci) st vd vo au W hW s1.1 s1.2)
 have r2:=hid (fun W hW=>yj W0 b g (.slice ai ins.length ci) st vd vo aC W hW s2.1 s2.2)
 have q1:=ym h.ok au
 have q2:=ym h.ok aC
 have hp:=h.ok.pc
 obtain ⟨X,hX⟩:∃ X,X=Mc.doIt m ins op rd au aC n st:=⟨_,rfl⟩
 rw [<- hX]
 have RX:=hid hX
 clear hX
 unfold aX
 subst hop
 replace RX:=hid (show X=Mc.branch (Mc.holds 5 (Mc.reg st au) (Mc.reg st aC)) n st from RX.o)
 generalize Mc.reg st au=a at *
 generalize Mc.reg st aC=bb at *
 have cH:=hid (fun W=>DU 5 a bb W q1.1 q1.2 q2.1 q2.2 (by omega))
 have cB:=hid (fun t W hW=>He W0 b g (.slice ai ins.length ci) st vd vo t n W hW (by omega) (by omega))
 clear h hI hT hin
 go_enter Tryz.func83,Tryz.ntmps83
 go_wp2_with fail
 generalize W.alloc (.cells #[.int .i64 5,.int .i64 rd,.int .i64 au,.int .i64 aC,.int .i64 n] 143)=V at *
 generalize W.heap.size=ib at *
 obtain ⟨i0,i1,i2,i3,i4⟩:=IC.o
 refine (r1.o _ HA.o).mono ?_
 rintro e V1 ⟨rfl,hV⟩
 subst hV
 go_wp2_with fail
 refine (r2.o _ HA.o).mono ?_
 rintro e V1 ⟨rfl,hV⟩
 subst hV
 have HD:=hid (HA.o.grown (ye (World.grownBy.refl _ none) 1))
 have nS:=HA.o.c.2.2.2.1
 go_wp2
 go_region_with (first | (go_at_call 122; refine (cH.o _).mono ?_; rintro e w' ⟨rfl,rfl⟩) | (go_at_call 121; refine (cB.o _ _ HD.o).mono ?_; rintro e w' ⟨rfl,h2⟩))
 all_goals
  have H2:=hid h2
  clear h2
  go_wp2
  go_end0
  rw [RX.o]
  exact ⟨rfl,_,_,H2.o⟩
set_option maxRecDepth 100000 in
theorem yrF (W0:World) (b g:Nat) (ai:Option Addr) (ci:Nat) (ins:List Int) (st:Mc.St) (vd vo:Value) (m:Im.dK) (op rd au aC n:Int) (W:World) (hpre:mR W0 b g ai ci ins st vd vo m rd au aC n W) (hop:op=6) :
  Calls Tryz.prog 83 #[.pointer (some ⟨b,0,none⟩),aX op rd au aC n] W fun e W'=>e = .returned (.tuple #[])/\kN W0 b g (.slice ai ins.length ci) (Mc.doIt m ins op rd au aC n st) W':=by
 obtain ⟨h,hI,hT,hin,hl,d0,s1,s2,hn⟩:=hpre
 have HA:=hid (h.grown (aH W (.cells #[.int .i64 op,.int .i64 rd,.int .i64 au,.int .i64 aC,.int .i64 n] 143) none))
 have NE:=hid (show W.heap.size≠b from fun e=>by have:=h.blk.lt; omega)
 have IC:=hid (je W (.int .i64 op) (.int .i64 rd) (.int .i64 au) (.int .i64 aC) (.int .i64 n))
 have r1:=hid (fun W hW=>yj W0 b g (.slice ai ins.length ci) st vd vo au W hW s1.1 s1.2)
 have r2:=hid (fun W hW=>yj W0 b g (.slice ai ins.length ci) st vd vo aC W hW s2.1 s2.2)
 have q1:=ym h.ok au
 have q2:=ym h.ok aC
 have hp:=h.ok.pc
 obtain ⟨X,hX⟩:∃ X,X=Mc.doIt m ins op rd au aC n st:=⟨_,rfl⟩
 rw [<- hX]
 have RX:=hid hX
 clear hX
 unfold aX
 subst hop
 replace RX:=hid (show X=Mc.branch (Mc.holds 6 (Mc.reg st au) (Mc.reg st aC)) n st from RX.o)
 generalize Mc.reg st au=a at *
 generalize Mc.reg st aC=bb at *
 have cH:=hid (fun W=>DU 6 a bb W q1.1 q1.2 q2.1 q2.2 (by omega))
 have cB:=hid (fun t W hW=>He W0 b g (.slice ai ins.length ci) st vd vo t n W hW (by omega) (by omega))
 clear h hI hT hin
 go_enter Tryz.func83,Tryz.ntmps83
 go_wp2_with fail
 generalize W.alloc (.cells #[.int .i64 6,.int .i64 rd,.int .i64 au,.int .i64 aC,.int .i64 n] 143)=V at *
 generalize W.heap.size=ib at *
 obtain ⟨i0,i1,i2,i3,i4⟩:=IC.o
 refine (r1.o _ HA.o).mono ?_
 rintro e V1 ⟨rfl,hV⟩
 subst hV
 go_wp2_with fail
 refine (r2.o _ HA.o).mono ?_
 rintro e V1 ⟨rfl,hV⟩
 subst hV
 have HD:=hid (HA.o.grown (ye (World.grownBy.refl _ none) 1))
 have nS:=HA.o.c.2.2.2.1
 go_wp2
 go_region_with (first | (go_at_call 122; refine (cH.o _).mono ?_; rintro e w' ⟨rfl,rfl⟩) | (go_at_call 121; refine (cB.o _ _ HD.o).mono ?_; rintro e w' ⟨rfl,h2⟩))
 all_goals
  have H2:=hid h2
  clear h2
  go_wp2
  go_end0
  rw [RX.o]
  exact ⟨rfl,_,_,H2.o⟩
set_option maxRecDepth 100000 in
theorem yrG (W0:World) (b g:Nat) (ai:Option Addr) (ci:Nat) (ins:List Int) (st:Mc.St) (vd vo:Value) (m:Im.dK) (op rd au aC n:Int) (W:World) (hpre:mR W0 b g ai ci ins st vd vo m rd au aC n W) (hop:op=7) :
  Calls Tryz.prog 83 #[.pointer (some ⟨b,0,none⟩),aX op rd au aC n] W fun e W'=>e = .returned (.tuple #[])/\kN W0 b g (.slice ai ins.length ci) (Mc.doIt m ins op rd au aC n st) W':=by
 obtain ⟨h,hI,hT,hin,hl,d0,s1,s2,hn⟩:=hpre
 have HA:=hid (h.grown (aH W (.cells #[.int .i64 op,.int .i64 rd,.int .i64 au,.int .i64 aC,.int .i64 n] 143) none))
 have NE:=hid (show W.heap.size≠b from fun e=>by have:=h.blk.lt; omega)
 have IC:=hid (je W (.int .i64 op) (.int .i64 rd) (.int .i64 au) (.int .i64 aC) (.int .i64 n))
 have r1:=hid (fun W hW=>yj W0 b g (.slice ai ins.length ci) st vd vo au W hW s1.1 s1.2)
 have r2:=hid (fun W hW=>yj W0 b g (.slice ai ins.length ci) st vd vo aC W hW s2.1 s2.2)
 have q1:=ym h.ok au
 have q2:=ym h.ok aC
 have hp:=h.ok.pc
 obtain ⟨X,hX⟩:∃ X,X=Mc.doIt m ins op rd au aC n st:=⟨_,rfl⟩
 rw [<- hX]
 have RX:=hid hX
 clear hX
 unfold aX
 subst hop
 replace RX:=hid (show X=Mc.branch (Mc.holds 7 (Mc.reg st au) (Mc.reg st aC)) n st from RX.o)
 generalize Mc.reg st au=a at *
 generalize Mc.reg st aC=bb at *
 have cH:=hid (fun W=>DU 7 a bb W q1.1 q1.2 q2.1 q2.2 (by omega))
 have cB:=hid (fun t W hW=>He W0 b g (.slice ai ins.length ci) st vd vo t n W hW (by omega) (by omega))
 clear h hI hT hin
 go_enter Tryz.func83,Tryz.ntmps83
 go_wp2_with fail
 generalize W.alloc (.cells #[.int .i64 7,.int .i64 rd,.int .i64 au,.int .i64 aC,.int .i64 n] 143)=V at *
 generalize W.heap.size=ib at *
 obtain ⟨i0,i1,i2,i3,i4⟩:=IC.o
 refine (r1.o _ HA.o).mono ?_
 rintro e V1 ⟨rfl,hV⟩
 subst hV
 go_wp2_with fail
 refine (r2.o _ HA.o).mono ?_
 rintro e V1 ⟨rfl,hV⟩
 subst hV
 have HD:=hid (HA.o.grown (ye (World.grownBy.refl _ none) 1))
 have nS:=HA.o.c.2.2.2.1
 go_wp2
 go_region_with (first | (go_at_call 122; refine (cH.o _).mono ?_; rintro e w' ⟨rfl,rfl⟩) | (go_at_call 121; refine (cB.o _ _ HD.o).mono ?_; rintro e w' ⟨rfl,h2⟩))
 all_goals
  have H2:=hid h2
  clear h2
  go_wp2
  go_end0
  rw [RX.o]
  exact ⟨rfl,_,_,H2.o⟩
set_option maxRecDepth 100000 in
theorem yrH (W0:World) (b g:Nat) (ai:Option Addr) (ci:Nat) (ins:List Int) (st:Mc.St) (vd vo:Value) (m:Im.dK) (op rd au aC n:Int) (W:World) (hpre:mR W0 b g ai ci ins st vd vo m rd au aC n W) (hop:op=8) :
  Calls Tryz.prog 83 #[.pointer (some ⟨b,0,none⟩),aX op rd au aC n] W fun e W'=>e = .returned (.tuple #[])/\kN W0 b g (.slice ai ins.length ci) (Mc.doIt m ins op rd au aC n st) W':=by
 obtain ⟨h,hI,hT,hin,hl,d0,s1,s2,hn⟩:=hpre
 have HA:=hid (h.grown (aH W (.cells #[.int .i64 op,.int .i64 rd,.int .i64 au,.int .i64 aC,.int .i64 n] 143) none))
 have NE:=hid (show W.heap.size≠b from fun e=>by have:=h.blk.lt; omega)
 have IC:=hid (je W (.int .i64 op) (.int .i64 rd) (.int .i64 au) (.int .i64 aC) (.int .i64 n))
 have r1:=hid (fun W hW=>yj W0 b g (.slice ai ins.length ci) st vd vo au W hW s1.1 s1.2)
 have r2:=hid (fun W hW=>yj W0 b g (.slice ai ins.length ci) st vd vo aC W hW s2.1 s2.2)
 have q1:=ym h.ok au
 have q2:=ym h.ok aC
 have hp:=h.ok.pc
 obtain ⟨X,hX⟩:∃ X,X=Mc.doIt m ins op rd au aC n st:=⟨_,rfl⟩
 rw [<- hX]
 have RX:=hid hX
 clear hX
 unfold aX
 subst hop
 replace RX:=hid (show X=Mc.branch (Mc.holds 8 (Mc.reg st au) (Mc.reg st aC)) n st from RX.o)
 generalize Mc.reg st au=a at *
 generalize Mc.reg st aC=bb at *
 have cH:=hid (fun W=>DU 8 a bb W q1.1 q1.2 q2.1 q2.2 (by omega))
 have cB:=hid (fun t W hW=>He W0 b g (.slice ai ins.length ci) st vd vo t n W hW (by omega) (by omega))
 clear h hI hT hin
 go_enter Tryz.func83,Tryz.ntmps83
 go_wp2_with fail
 generalize W.alloc (.cells #[.int .i64 8,.int .i64 rd,.int .i64 au,.int .i64 aC,.int .i64 n] 143)=V at *
 generalize W.heap.size=ib at *
 obtain ⟨i0,i1,i2,i3,i4⟩:=IC.o
 refine (r1.o _ HA.o).mono ?_
 rintro e V1 ⟨rfl,hV⟩
 subst hV
 go_wp2_with fail
 refine (r2.o _ HA.o).mono ?_
 rintro e V1 ⟨rfl,hV⟩
 subst hV
 have HD:=hid (HA.o.grown (ye (World.grownBy.refl _ none) 1))
 have nS:=HA.o.c.2.2.2.1
 go_wp2
 go_region_with (first | (go_at_call 122; refine (cH.o _).mono ?_; rintro e w' ⟨rfl,rfl⟩) | (go_at_call 121; refine (cB.o _ _ HD.o).mono ?_; rintro e w' ⟨rfl,h2⟩))
 all_goals
  have H2:=hid h2
  clear h2
  go_wp2
  go_end0
  rw [RX.o]
  exact ⟨rfl,_,_,H2.o⟩
set_option maxRecDepth 100000 in
theorem yrI (W0:World) (b g:Nat) (ai:Option Addr) (ci:Nat) (ins:List Int) (st:Mc.St) (vd vo:Value) (m:Im.dK) (op rd au aC n:Int) (W:World) (hpre:mR W0 b g ai ci ins st vd vo m rd au aC n W) (hop:op=9) :
  Calls Tryz.prog 83 #[.pointer (some ⟨b,0,none⟩),aX op rd au aC n] W fun e W'=>e = .returned (.tuple #[])/\kN W0 b g (.slice ai ins.length ci) (Mc.doIt m ins op rd au aC n st) W':=by
 obtain ⟨h,hI,hT,hin,hl,d0,s1,s2,hn⟩:=hpre
 have HA:=hid (h.grown (aH W (.cells #[.int .i64 op,.int .i64 rd,.int .i64 au,.int .i64 aC,.int .i64 n] 143) none))
 have NE:=hid (show W.heap.size≠b from fun e=>by have:=h.blk.lt; omega)
 have IC:=hid (je W (.int .i64 op) (.int .i64 rd) (.int .i64 au) (.int .i64 aC) (.int .i64 n))
 have r1:=hid (fun W hW=>yj W0 b g (.slice ai ins.length ci) st vd vo au W hW s1.1 s1.2)
 have r2:=hid (fun W hW=>yj W0 b g (.slice ai ins.length ci) st vd vo aC W hW s2.1 s2.2)
 have q1:=ym h.ok au
 have q2:=ym h.ok aC
 have hp:=h.ok.pc
 obtain ⟨X,hX⟩:∃ X,X=Mc.doIt m ins op rd au aC n st:=⟨_,rfl⟩
 rw [<- hX]
 have RX:=hid hX
 clear hX
 unfold aX
 subst hop
 replace RX:=hid (show X=Mc.branch (Mc.holds 9 (Mc.reg st au) (Mc.reg st aC)) n st from RX.o)
 generalize Mc.reg st au=a at *
 generalize Mc.reg st aC=bb at *
 have cH:=hid (fun W=>DU 9 a bb W q1.1 q1.2 q2.1 q2.2 (by omega))
 have cB:=hid (fun t W hW=>He W0 b g (.slice ai ins.length ci) st vd vo t n W hW (by omega) (by omega))
 clear h hI hT hin
 go_enter Tryz.func83,Tryz.ntmps83
 go_wp2_with fail
 generalize W.alloc (.cells #[.int .i64 9,.int .i64 rd,.int .i64 au,.int .i64 aC,.int .i64 n] 143)=V at *
 generalize W.heap.size=ib at *
 obtain ⟨i0,i1,i2,i3,i4⟩:=IC.o
 refine (r1.o _ HA.o).mono ?_
 rintro e V1 ⟨rfl,hV⟩
 subst hV
 go_wp2_with fail
 refine (r2.o _ HA.o).mono ?_
 rintro e V1 ⟨rfl,hV⟩
 subst hV
 have HD:=hid (HA.o.grown (ye (World.grownBy.refl _ none) 1))
 have nS:=HA.o.c.2.2.2.1
 go_wp2
 go_region_with (first | (go_at_call 122; refine (cH.o _).mono ?_; rintro e w' ⟨rfl,rfl⟩) | (go_at_call 121; refine (cB.o _ _ HD.o).mono ?_; rintro e w' ⟨rfl,h2⟩))
 all_goals
  have H2:=hid h2
  clear h2
  go_wp2
  go_end0
  rw [RX.o]
  exact ⟨rfl,_,_,H2.o⟩
set_option maxRecDepth 100000 in
theorem yqq (W0:World) (b g:Nat) (ai:Option Addr) (ci:Nat) (ins:List Int) (st:Mc.St) (vd vo:Value) (m:Im.dK) (op rd au aC n:Int) (W:World) (hpre:mR W0 b g ai ci ins st vd vo m rd au aC n W) (hop:op=10) :
  Calls Tryz.prog 83 #[.pointer (some ⟨b,0,none⟩),aX op rd au aC n] W fun e W'=>e = .returned (.tuple #[])/\kN W0 b g (.slice ai ins.length ci) (Mc.doIt m ins op rd au aC n st) W':=by
 obtain ⟨h,hI,hT,hin,hl,d0,s1,s2,hn⟩:=hpre
 have HA:=hid (h.grown (aH W (.cells #[.int .i64 op,.int .i64 rd,.int .i64 au,.int .i64 aC,.int .i64 n] 143) none))
 have NE:=hid (show W.heap.size≠b from fun e=>by have:=h.blk.lt; omega)
 have IC:=hid (je W (.int .i64 op) (.int .i64 rd) (.int .i64 au) (.int .i64 aC) (.int .i64 n))
 have r1:=hid (fun W hW=>yj W0 b g (.slice ai ins.length ci) st vd vo au W hW s1.1 s1.2)
 have r2:=hid (fun W hW=>yj W0 b g (.slice ai ins.length ci) st vd vo aC W hW s2.1 s2.2)
 have q1:=ym h.ok au
 have q2:=ym h.ok aC
 have hp:=h.ok.pc
 obtain ⟨X,hX⟩:∃ X,X=Mc.doIt m ins op rd au aC n st:=⟨_,rfl⟩
 rw [<- hX]
 have RX:=hid hX
 clear hX
 unfold aX
 subst hop
 replace RX:=hid (show X=Mc.branch (Mc.holds 10 (Mc.reg st au) (Mc.reg st aC)) n st from RX.o)
 generalize Mc.reg st au=a at *
 generalize Mc.reg st aC=bb at *
 have cH:=hid (fun W=>DU 10 a bb W q1.1 q1.2 q2.1 q2.2 (by omega))
 have cB:=hid (fun t W hW=>He W0 b g (.slice ai ins.length ci) st vd vo t n W hW (by omega) (by omega))
 clear h hI hT hin
 go_enter Tryz.func83,Tryz.ntmps83
 go_wp2_with fail
 generalize W.alloc (.cells #[.int .i64 10,.int .i64 rd,.int .i64 au,.int .i64 aC,.int .i64 n] 143)=V at *
 generalize W.heap.size=ib at *
 obtain ⟨i0,i1,i2,i3,i4⟩:=IC.o
 refine (r1.o _ HA.o).mono ?_
 rintro e V1 ⟨rfl,hV⟩
 subst hV
 go_wp2_with fail
 refine (r2.o _ HA.o).mono ?_
 rintro e V1 ⟨rfl,hV⟩
 subst hV
 have HD:=hid (HA.o.grown (ye (World.grownBy.refl _ none) 1))
 have nS:=HA.o.c.2.2.2.1
 go_wp2
 go_region_with (first | (go_at_call 122; refine (cH.o _).mono ?_; rintro e w' ⟨rfl,rfl⟩) | (go_at_call 121; refine (cB.o _ _ HD.o).mono ?_; rintro e w' ⟨rfl,h2⟩))
 all_goals
  have H2:=hid h2
  clear h2
  go_wp2
  go_end0
  rw [RX.o]
  exact ⟨rfl,_,_,H2.o⟩
set_option maxRecDepth 100000 in
theorem yqr (W0:World) (b g:Nat) (ai:Option Addr) (ci:Nat) (ins:List Int) (st:Mc.St) (vd vo:Value) (m:Im.dK) (op rd au aC n:Int) (W:World) (hpre:mR W0 b g ai ci ins st vd vo m rd au aC n W) (hop:op=13) :
  Calls Tryz.prog 83 #[.pointer (some ⟨b,0,none⟩),aX op rd au aC n] W fun e W'=>e = .returned (.tuple #[])/\kN W0 b g (.slice ai ins.length ci) (Mc.doIt m ins op rd au aC n st) W':=by
 obtain ⟨h,hI,hT,hin,hl,d0,s1,s2,hn⟩:=hpre
 have HA:=hid (h.grown (aH W (.cells #[.int .i64 op,.int .i64 rd,.int .i64 au,.int .i64 aC,.int .i64 n] 143) none))
 have NE:=hid (show W.heap.size≠b from fun e=>by have:=h.blk.lt; omega)
 have IC:=hid (je W (.int .i64 op) (.int .i64 rd) (.int .i64 au) (.int .i64 aC) (.int .i64 n))
 have r1:=hid (fun W hW=>yj W0 b g (.slice ai ins.length ci) st vd vo au W hW s1.1 s1.2)
 have r2:=hid (fun W hW=>yj W0 b g (.slice ai ins.length ci) st vd vo aC W hW s2.1 s2.2)
 have q1:=ym h.ok au
 have q2:=ym h.ok aC
 have hp:=h.ok.pc
 obtain ⟨X,hX⟩:∃ X,X=Mc.doIt m ins op rd au aC n st:=⟨_,rfl⟩
 rw [<- hX]
 have RX:=hid hX
 clear hX
 unfold aX
 subst hop
 replace RX:=hid (show X=Mc.set rd (Mc.computed 18 (Mc.reg st au) (Mc.wd n)) st from RX.o)
 generalize Mc.reg st au=a at *
 have wr:=Mc.gH n
 have cP:=hid (fun W=>J8 13 W)
 replace cP:Hd (∀ W,Calls Tryz.prog 126 #[.int .i64 13] W fun e w'=>e = .returned (.int .i64 18)/\w'=W):=cP.o
 have cW:=hid (fun W=>Au n W)
 have cC:=hid (fun W=>xG 18 a (Mc.wd n) W q1.1 q1.2 wr.1 wr.2 (by omega))
 have cS:=hid (fun v W hW=>GX W0 b g (.slice ai ins.length ci) st vd vo rd v W hW d0.1 d0.2)
 clear h hI hT hin
 go_enter Tryz.func83,Tryz.ntmps83
 go_wp2_with fail
 generalize W.alloc (.cells #[.int .i64 13,.int .i64 rd,.int .i64 au,.int .i64 aC,.int .i64 n] 143)=V at *
 generalize W.heap.size=ib at *
 obtain ⟨i0,i1,i2,i3,i4⟩:=IC.o
 refine (r1.o _ HA.o).mono ?_
 rintro e V1 ⟨rfl,hV⟩
 subst hV
 go_wp2_with fail
 refine (r2.o _ HA.o).mono ?_
 rintro e V1 ⟨rfl,hV⟩
 subst hV
 have HD:=hid (HA.o.grown (ye (World.grownBy.refl _ none) 1))
 have nS:=HA.o.c.2.2.2.1
 have hib:ib≠b:=NE.o
 have KI:=hid (fun (j:Nat) (x:Value) (W':World) (hg:(V1.drew).grownBy W' (some b)) (hx:V1.cell? ⟨ib,j,none⟩=some x)=>hg.cell (a:=⟨ib,j,none⟩) (show V1.drew.cell? ⟨ib,j,none⟩=some x from hx) (by simp; omega))
 have J0:=hid i0
 have J1:=hid i1
 have J4:=hid i4
 go_wp2
 go_region_held3 (fun w'=>w'.cell? ⟨ib,0,none⟩=some (.int .i64 13)/\w'.cell? ⟨ib,1,none⟩=some (.int .i64 rd)/\w'.cell? ⟨ib,4,none⟩=some (.int .i64 n))
  (go_keep)
  (first | (go_at_call 126; refine (cP.o _).mono ?_; rintro e w' ⟨rfl,rfl⟩) | (go_at_call 81; refine (cW.o _).mono ?_; rintro e w' ⟨rfl,rfl⟩) | (go_at_call 125; refine (cC.o _).mono ?_; rintro e w' ⟨rfl,rfl⟩) | (go_at_call 119; refine (cS.o _ _ HD.o).mono ?_; rintro e w' ⟨rfl,h2,hq⟩; have j0:=KI.o 0 _ _ hq J0.o; have j1:=KI.o 1 _ _ hq J1.o; have j4:=KI.o 4 _ _ hq J4.o))
 all_goals
  have H2:=hid h2
  clear h2
  go_wp2
  go_end0
  rw [RX.o]
  exact ⟨rfl,_,_,H2.o⟩
set_option maxRecDepth 100000 in
theorem yqs (W0:World) (b g:Nat) (ai:Option Addr) (ci:Nat) (ins:List Int) (st:Mc.St) (vd vo:Value) (m:Im.dK) (op rd au aC n:Int) (W:World) (hpre:mR W0 b g ai ci ins st vd vo m rd au aC n W) (hop:op=14) :
  Calls Tryz.prog 83 #[.pointer (some ⟨b,0,none⟩),aX op rd au aC n] W fun e W'=>e = .returned (.tuple #[])/\kN W0 b g (.slice ai ins.length ci) (Mc.doIt m ins op rd au aC n st) W':=by
 obtain ⟨h,hI,hT,hin,hl,d0,s1,s2,hn⟩:=hpre
 have HA:=hid (h.grown (aH W (.cells #[.int .i64 op,.int .i64 rd,.int .i64 au,.int .i64 aC,.int .i64 n] 143) none))
 have NE:=hid (show W.heap.size≠b from fun e=>by have:=h.blk.lt; omega)
 have IC:=hid (je W (.int .i64 op) (.int .i64 rd) (.int .i64 au) (.int .i64 aC) (.int .i64 n))
 have r1:=hid (fun W hW=>yj W0 b g (.slice ai ins.length ci) st vd vo au W hW s1.1 s1.2)
 have r2:=hid (fun W hW=>yj W0 b g (.slice ai ins.length ci) st vd vo aC W hW s2.1 s2.2)
 have q1:=ym h.ok au
 have q2:=ym h.ok aC
 have hp:=h.ok.pc
 obtain ⟨X,hX⟩:∃ X,X=Mc.doIt m ins op rd au aC n st:=⟨_,rfl⟩
 rw [<- hX]
 have RX:=hid hX
 clear hX
 unfold aX
 subst hop
 replace RX:=hid (show X=Mc.set rd (Mc.computed 20 (Mc.reg st au) (Mc.wd n)) st from RX.o)
 generalize Mc.reg st au=a at *
 have wr:=Mc.gH n
 have cP:=hid (fun W=>J8 14 W)
 replace cP:Hd (∀ W,Calls Tryz.prog 126 #[.int .i64 14] W fun e w'=>e = .returned (.int .i64 20)/\w'=W):=cP.o
 have cW:=hid (fun W=>Au n W)
 have cC:=hid (fun W=>xG 20 a (Mc.wd n) W q1.1 q1.2 wr.1 wr.2 (by omega))
 have cS:=hid (fun v W hW=>GX W0 b g (.slice ai ins.length ci) st vd vo rd v W hW d0.1 d0.2)
 clear h hI hT hin
 go_enter Tryz.func83,Tryz.ntmps83
 go_wp2_with fail
 generalize W.alloc (.cells #[.int .i64 14,.int .i64 rd,.int .i64 au,.int .i64 aC,.int .i64 n] 143)=V at *
 generalize W.heap.size=ib at *
 obtain ⟨i0,i1,i2,i3,i4⟩:=IC.o
 refine (r1.o _ HA.o).mono ?_
 rintro e V1 ⟨rfl,hV⟩
 subst hV
 go_wp2_with fail
 refine (r2.o _ HA.o).mono ?_
 rintro e V1 ⟨rfl,hV⟩
 subst hV
 have HD:=hid (HA.o.grown (ye (World.grownBy.refl _ none) 1))
 have nS:=HA.o.c.2.2.2.1
 have hib:ib≠b:=NE.o
 have KI:=hid (fun (j:Nat) (x:Value) (W':World) (hg:(V1.drew).grownBy W' (some b)) (hx:V1.cell? ⟨ib,j,none⟩=some x)=>hg.cell (a:=⟨ib,j,none⟩) (show V1.drew.cell? ⟨ib,j,none⟩=some x from hx) (by simp; omega))
 have J0:=hid i0
 have J1:=hid i1
 have J4:=hid i4
 go_wp2
 go_region_held3 (fun w'=>w'.cell? ⟨ib,0,none⟩=some (.int .i64 14)/\w'.cell? ⟨ib,1,none⟩=some (.int .i64 rd)/\w'.cell? ⟨ib,4,none⟩=some (.int .i64 n))
  (go_keep)
  (first | (go_at_call 126; refine (cP.o _).mono ?_; rintro e w' ⟨rfl,rfl⟩) | (go_at_call 81; refine (cW.o _).mono ?_; rintro e w' ⟨rfl,rfl⟩) | (go_at_call 125; refine (cC.o _).mono ?_; rintro e w' ⟨rfl,rfl⟩) | (go_at_call 119; refine (cS.o _ _ HD.o).mono ?_; rintro e w' ⟨rfl,h2,hq⟩; have j0:=KI.o 0 _ _ hq J0.o; have j1:=KI.o 1 _ _ hq J1.o; have j4:=KI.o 4 _ _ hq J4.o))
 all_goals
  have H2:=hid h2
  clear h2
  go_wp2
  go_end0
  rw [RX.o]
  exact ⟨rfl,_,_,H2.o⟩
set_option maxRecDepth 100000 in
theorem yqt (W0:World) (b g:Nat) (ai:Option Addr) (ci:Nat) (ins:List Int) (st:Mc.St) (vd vo:Value) (m:Im.dK) (op rd au aC n:Int) (W:World) (hpre:mR W0 b g ai ci ins st vd vo m rd au aC n W) (hop:op=15) :
  Calls Tryz.prog 83 #[.pointer (some ⟨b,0,none⟩),aX op rd au aC n] W fun e W'=>e = .returned (.tuple #[])/\kN W0 b g (.slice ai ins.length ci) (Mc.doIt m ins op rd au aC n st) W':=by
 obtain ⟨h,hI,hT,hin,hl,d0,s1,s2,hn⟩:=hpre
 have HA:=hid (h.grown (aH W (.cells #[.int .i64 op,.int .i64 rd,.int .i64 au,.int .i64 aC,.int .i64 n] 143) none))
 have NE:=hid (show W.heap.size≠b from fun e=>by have:=h.blk.lt; omega)
 have IC:=hid (je W (.int .i64 op) (.int .i64 rd) (.int .i64 au) (.int .i64 aC) (.int .i64 n))
 have r1:=hid (fun W hW=>yj W0 b g (.slice ai ins.length ci) st vd vo au W hW s1.1 s1.2)
 have r2:=hid (fun W hW=>yj W0 b g (.slice ai ins.length ci) st vd vo aC W hW s2.1 s2.2)
 have q1:=ym h.ok au
 have q2:=ym h.ok aC
 have hp:=h.ok.pc
 obtain ⟨X,hX⟩:∃ X,X=Mc.doIt m ins op rd au aC n st:=⟨_,rfl⟩
 rw [<- hX]
 have RX:=hid hX
 clear hX
 unfold aX
 subst hop
 replace RX:=hid (show X=Mc.set rd (Mc.computed 22 (Mc.reg st au) (Mc.wd n)) st from RX.o)
 generalize Mc.reg st au=a at *
 have wr:=Mc.gH n
 have cP:=hid (fun W=>J8 15 W)
 replace cP:Hd (∀ W,Calls Tryz.prog 126 #[.int .i64 15] W fun e w'=>e = .returned (.int .i64 22)/\w'=W):=cP.o
 have cW:=hid (fun W=>Au n W)
 have cC:=hid (fun W=>xG 22 a (Mc.wd n) W q1.1 q1.2 wr.1 wr.2 (by omega))
 have cS:=hid (fun v W hW=>GX W0 b g (.slice ai ins.length ci) st vd vo rd v W hW d0.1 d0.2)
 clear h hI hT hin
 go_enter Tryz.func83,Tryz.ntmps83
 go_wp2_with fail
 generalize W.alloc (.cells #[.int .i64 15,.int .i64 rd,.int .i64 au,.int .i64 aC,.int .i64 n] 143)=V at *
 generalize W.heap.size=ib at *
 obtain ⟨i0,i1,i2,i3,i4⟩:=IC.o
 refine (r1.o _ HA.o).mono ?_
 rintro e V1 ⟨rfl,hV⟩
 subst hV
 go_wp2_with fail
 refine (r2.o _ HA.o).mono ?_
 rintro e V1 ⟨rfl,hV⟩
 subst hV
 have HD:=hid (HA.o.grown (ye (World.grownBy.refl _ none) 1))
 have nS:=HA.o.c.2.2.2.1
 have hib:ib≠b:=NE.o
 have KI:=hid (fun (j:Nat) (x:Value) (W':World) (hg:(V1.drew).grownBy W' (some b)) (hx:V1.cell? ⟨ib,j,none⟩=some x)=>hg.cell (a:=⟨ib,j,none⟩) (show V1.drew.cell? ⟨ib,j,none⟩=some x from hx) (by simp; omega))
 have J0:=hid i0
 have J1:=hid i1
 have J4:=hid i4
 go_wp2
 go_region_held3 (fun w'=>w'.cell? ⟨ib,0,none⟩=some (.int .i64 15)/\w'.cell? ⟨ib,1,none⟩=some (.int .i64 rd)/\w'.cell? ⟨ib,4,none⟩=some (.int .i64 n))
  (go_keep)
  (first | (go_at_call 126; refine (cP.o _).mono ?_; rintro e w' ⟨rfl,rfl⟩) | (go_at_call 81; refine (cW.o _).mono ?_; rintro e w' ⟨rfl,rfl⟩) | (go_at_call 125; refine (cC.o _).mono ?_; rintro e w' ⟨rfl,rfl⟩) | (go_at_call 119; refine (cS.o _ _ HD.o).mono ?_; rintro e w' ⟨rfl,h2,hq⟩; have j0:=KI.o 0 _ _ hq J0.o; have j1:=KI.o 1 _ _ hq J1.o; have j4:=KI.o 4 _ _ hq J4.o))
 all_goals
  have H2:=hid h2
  clear h2
  go_wp2
  go_end0
  rw [RX.o]
  exact ⟨rfl,_,_,H2.o⟩
set_option maxRecDepth 100000 in
theorem yqu (W0:World) (b g:Nat) (ai:Option Addr) (ci:Nat) (ins:List Int) (st:Mc.St) (vd vo:Value) (m:Im.dK) (op rd au aC n:Int) (W:World) (hpre:mR W0 b g ai ci ins st vd vo m rd au aC n W) (hop:op=16) :
  Calls Tryz.prog 83 #[.pointer (some ⟨b,0,none⟩),aX op rd au aC n] W fun e W'=>e = .returned (.tuple #[])/\kN W0 b g (.slice ai ins.length ci) (Mc.doIt m ins op rd au aC n st) W':=by
 obtain ⟨h,hI,hT,hin,hl,d0,s1,s2,hn⟩:=hpre
 have HA:=hid (h.grown (aH W (.cells #[.int .i64 op,.int .i64 rd,.int .i64 au,.int .i64 aC,.int .i64 n] 143) none))
 have NE:=hid (show W.heap.size≠b from fun e=>by have:=h.blk.lt; omega)
 have IC:=hid (je W (.int .i64 op) (.int .i64 rd) (.int .i64 au) (.int .i64 aC) (.int .i64 n))
 have r1:=hid (fun W hW=>yj W0 b g (.slice ai ins.length ci) st vd vo au W hW s1.1 s1.2)
 have r2:=hid (fun W hW=>yj W0 b g (.slice ai ins.length ci) st vd vo aC W hW s2.1 s2.2)
 have q1:=ym h.ok au
 have q2:=ym h.ok aC
 have hp:=h.ok.pc
 obtain ⟨X,hX⟩:∃ X,X=Mc.doIt m ins op rd au aC n st:=⟨_,rfl⟩
 rw [<- hX]
 have RX:=hid hX
 clear hX
 unfold aX
 subst hop
 replace RX:=hid (show X=Mc.set rd (Mc.computed 23 (Mc.reg st au) (Mc.wd n)) st from RX.o)
 generalize Mc.reg st au=a at *
 have wr:=Mc.gH n
 have cP:=hid (fun W=>J8 16 W)
 replace cP:Hd (∀ W,Calls Tryz.prog 126 #[.int .i64 16] W fun e w'=>e = .returned (.int .i64 23)/\w'=W):=cP.o
 have cW:=hid (fun W=>Au n W)
 have cC:=hid (fun W=>xG 23 a (Mc.wd n) W q1.1 q1.2 wr.1 wr.2 (by omega))
 have cS:=hid (fun v W hW=>GX W0 b g (.slice ai ins.length ci) st vd vo rd v W hW d0.1 d0.2)
 clear h hI hT hin
 go_enter Tryz.func83,Tryz.ntmps83
 go_wp2_with fail
 generalize W.alloc (.cells #[.int .i64 16,.int .i64 rd,.int .i64 au,.int .i64 aC,.int .i64 n] 143)=V at *
 generalize W.heap.size=ib at *
 obtain ⟨i0,i1,i2,i3,i4⟩:=IC.o
 refine (r1.o _ HA.o).mono ?_
 rintro e V1 ⟨rfl,hV⟩
 subst hV
 go_wp2_with fail
 refine (r2.o _ HA.o).mono ?_
 rintro e V1 ⟨rfl,hV⟩
 subst hV
 have HD:=hid (HA.o.grown (ye (World.grownBy.refl _ none) 1))
 have nS:=HA.o.c.2.2.2.1
 have hib:ib≠b:=NE.o
 have KI:=hid (fun (j:Nat) (x:Value) (W':World) (hg:(V1.drew).grownBy W' (some b)) (hx:V1.cell? ⟨ib,j,none⟩=some x)=>hg.cell (a:=⟨ib,j,none⟩) (show V1.drew.cell? ⟨ib,j,none⟩=some x from hx) (by simp; omega))
 have J0:=hid i0
 have J1:=hid i1
 have J4:=hid i4
 go_wp2
 go_region_held3 (fun w'=>w'.cell? ⟨ib,0,none⟩=some (.int .i64 16)/\w'.cell? ⟨ib,1,none⟩=some (.int .i64 rd)/\w'.cell? ⟨ib,4,none⟩=some (.int .i64 n))
  (go_keep)
  (first | (go_at_call 126; refine (cP.o _).mono ?_; rintro e w' ⟨rfl,rfl⟩) | (go_at_call 81; refine (cW.o _).mono ?_; rintro e w' ⟨rfl,rfl⟩) | (go_at_call 125; refine (cC.o _).mono ?_; rintro e w' ⟨rfl,rfl⟩) | (go_at_call 119; refine (cS.o _ _ HD.o).mono ?_; rintro e w' ⟨rfl,h2,hq⟩; have j0:=KI.o 0 _ _ hq J0.o; have j1:=KI.o 1 _ _ hq J1.o; have j4:=KI.o 4 _ _ hq J4.o))
 all_goals
  have H2:=hid h2
  clear h2
  go_wp2
  go_end0
  rw [RX.o]
  exact ⟨rfl,_,_,H2.o⟩
set_option maxRecDepth 100000 in
theorem yqv (W0:World) (b g:Nat) (ai:Option Addr) (ci:Nat) (ins:List Int) (st:Mc.St) (vd vo:Value) (m:Im.dK) (op rd au aC n:Int) (W:World) (hpre:mR W0 b g ai ci ins st vd vo m rd au aC n W) (hop:op=17) :
  Calls Tryz.prog 83 #[.pointer (some ⟨b,0,none⟩),aX op rd au aC n] W fun e W'=>e = .returned (.tuple #[])/\kN W0 b g (.slice ai ins.length ci) (Mc.doIt m ins op rd au aC n st) W':=by
 obtain ⟨h,hI,hT,hin,hl,d0,s1,s2,hn⟩:=hpre
 have HA:=hid (h.grown (aH W (.cells #[.int .i64 op,.int .i64 rd,.int .i64 au,.int .i64 aC,.int .i64 n] 143) none))
 have NE:=hid (show W.heap.size≠b from fun e=>by have:=h.blk.lt; omega)
 have IC:=hid (je W (.int .i64 op) (.int .i64 rd) (.int .i64 au) (.int .i64 aC) (.int .i64 n))
 have r1:=hid (fun W hW=>yj W0 b g (.slice ai ins.length ci) st vd vo au W hW s1.1 s1.2)
 have r2:=hid (fun W hW=>yj W0 b g (.slice ai ins.length ci) st vd vo aC W hW s2.1 s2.2)
 have q1:=ym h.ok au
 have q2:=ym h.ok aC
 have hp:=h.ok.pc
 obtain ⟨X,hX⟩:∃ X,X=Mc.doIt m ins op rd au aC n st:=⟨_,rfl⟩
 rw [<- hX]
 have RX:=hid hX
 clear hX
 unfold aX
 subst hop
 replace RX:=hid (show X=Mc.set rd (Mc.computed 24 (Mc.reg st au) (Mc.wd n)) st from RX.o)
 generalize Mc.reg st au=a at *
 have wr:=Mc.gH n
 have cP:=hid (fun W=>J8 17 W)
 replace cP:Hd (∀ W,Calls Tryz.prog 126 #[.int .i64 17] W fun e w'=>e = .returned (.int .i64 24)/\w'=W):=cP.o
 have cW:=hid (fun W=>Au n W)
 have cC:=hid (fun W=>xG 24 a (Mc.wd n) W q1.1 q1.2 wr.1 wr.2 (by omega))
 have cS:=hid (fun v W hW=>GX W0 b g (.slice ai ins.length ci) st vd vo rd v W hW d0.1 d0.2)
 clear h hI hT hin
 go_enter Tryz.func83,Tryz.ntmps83
 go_wp2_with fail
 generalize W.alloc (.cells #[.int .i64 17,.int .i64 rd,.int .i64 au,.int .i64 aC,.int .i64 n] 143)=V at *
 generalize W.heap.size=ib at *
 obtain ⟨i0,i1,i2,i3,i4⟩:=IC.o
 refine (r1.o _ HA.o).mono ?_
 rintro e V1 ⟨rfl,hV⟩
 subst hV
 go_wp2_with fail
 refine (r2.o _ HA.o).mono ?_
 rintro e V1 ⟨rfl,hV⟩
 subst hV
 have HD:=hid (HA.o.grown (ye (World.grownBy.refl _ none) 1))
 have nS:=HA.o.c.2.2.2.1
 have hib:ib≠b:=NE.o
 have KI:=hid (fun (j:Nat) (x:Value) (W':World) (hg:(V1.drew).grownBy W' (some b)) (hx:V1.cell? ⟨ib,j,none⟩=some x)=>hg.cell (a:=⟨ib,j,none⟩) (show V1.drew.cell? ⟨ib,j,none⟩=some x from hx) (by simp; omega))
 have J0:=hid i0
 have J1:=hid i1
 have J4:=hid i4
 go_wp2
 go_region_held3 (fun w'=>w'.cell? ⟨ib,0,none⟩=some (.int .i64 17)/\w'.cell? ⟨ib,1,none⟩=some (.int .i64 rd)/\w'.cell? ⟨ib,4,none⟩=some (.int .i64 n))
  (go_keep)
  (first | (go_at_call 126; refine (cP.o _).mono ?_; rintro e w' ⟨rfl,rfl⟩) | (go_at_call 81; refine (cW.o _).mono ?_; rintro e w' ⟨rfl,rfl⟩) | (go_at_call 125; refine (cC.o _).mono ?_; rintro e w' ⟨rfl,rfl⟩) | (go_at_call 119; refine (cS.o _ _ HD.o).mono ?_; rintro e w' ⟨rfl,h2,hq⟩; have j0:=KI.o 0 _ _ hq J0.o; have j1:=KI.o 1 _ _ hq J1.o; have j4:=KI.o 4 _ _ hq J4.o))
 all_goals
  have H2:=hid h2
  clear h2
  go_wp2
  go_end0
  rw [RX.o]
  exact ⟨rfl,_,_,H2.o⟩
end Go.Proofs.YtpgklkhgfcjceaaGreatDoor
