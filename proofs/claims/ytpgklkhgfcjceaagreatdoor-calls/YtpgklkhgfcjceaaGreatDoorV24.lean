
import Derived.Test.YtpgklkhgfcjceaaGreatDoorV23
import Derived.Laws.AppendOwn
import Derived.Deep.RegionHeld3
import Derived.Laws.CopyRow
set_option maxHeartbeats 16000000
namespace Go.Proofs.YtpgklkhgfcjceaaGreatDoor
namespace As
structure Tm (o:Lk.Obj):Prop where
 text:o.text.length<=1200
 far:o.far.length<=1200
 data:o.data.length<=64
 bss:0<=o.bss/\o.bss<=64
 names:∀ y∈o.syms,y.name.length<=6
 rz:∀ r∈o.aj,r.off<=4800
theorem wO {o:Lk.Obj} (h:Tm o) (ah:Nat):bK o ah<=1200:=by
 have h1:=h.text
 have h2:=h.far
 have h3:=h.data
 have h4:=h.bss
 unfold bK
 repeat' split
 all_goals omega
theorem bN (e pos:Nat) (st:St):(refuse e pos st).obj=st.obj:=by unfold refuse; split <;> rfl
theorem iL (c:Bool) (e pos:Nat) (st:St):(aW c e pos st).obj=st.obj:=by unfold aW; split; exact bN _ _ _; rfl
theorem dD (s:List UInt8) (st:St):(advance s st).obj=st.obj:=by
 unfold advance
 split
 ·rfl
 split
 ·rfl
 ·rw [bN]
theorem kF (s:List UInt8) (st:St):(dP s st).2.obj=st.obj:=by
 unfold dP
 split
 ·exact dD s st
 ·rfl
theorem lN (t:Tok) (st:St):(bV t st).obj=st.obj:=by unfold bV; rw [iL,iL,iL]
theorem sU (s:List UInt8) (st:St):(name s st).2.obj=st.obj:=by
 unfold name
 split
 ·show (advance s _).obj=_; rw [dD,lN]
 ·exact bN _ _ _
theorem bQ (s c:List UInt8) (st:St):(sign s c st).obj=st.obj:=by
 unfold sign
 split
 ·exact dD s st
 ·exact bN _ _ _
theorem aQ (s:List UInt8) (st:St):(register s st).2.obj=st.obj:=by
 unfold register
 split
 ·split
  ·exact bN _ _ _
  ·exact dD _ _
 ·exact bN _ _ _
theorem kM (s:List UInt8) (neg:Bool) (pos:Nat) (lo hi:Int) (st:St):(bB s neg pos lo hi st).2.obj=st.obj:=by
 unfold bB
 generalize (if neg=true then -(st.tok.n:Int) else (st.tok.n:Int))=v
 split
 ·split
  ·exact bN _ _ _
  ·exact dD _ _
 ·exact bN _ _ _
theorem dY (s:List UInt8) (lo hi:Int) (st:St):(number s lo hi st).2.obj=st.obj:=by
 unfold number
 split
 ·rw [kM,dD]
 ·rw [kM]
theorem nC (s:List UInt8) (st:St):(place s st).2.obj=st.obj:=by
 unfold place; dsimp only
 rw [bQ,aQ,bQ,dY]
theorem qh (e pos:Nat) (he:e≠0) (st:St):failed (refuse e pos st)=true:=by
 unfold refuse
 split
 ·assumption
 ·simp [failed,he]
theorem nV (c:Bool) (e pos:Nat) (st:St) (h:failed (aW c e pos st)=false):failed st=false:=by
 unfold aW at h
 split at h
 ·unfold refuse at h
  split at h
  ·exact h
  ·rename_i hf; simpa using hf
 ·exact h
theorem sZ (c:Bool) (e pos:Nat) (he:e≠0) (st:St) (h:failed (aW c e pos st)=false):c=false:=by
 unfold aW at h
 split at h
 ·rw [qh e pos he] at h; cases h
 ·rename_i hc; simpa using hc
theorem oN (s:List UInt8) (st:St) (h:failed (advance s st)=false):failed st=false:=by
 unfold advance at h
 split at h
 ·exact h
 ·rename_i hf; simpa using hf
theorem mE (t:Tok) (st:St) (h:failed (bV t st)=false):t.text.length<=6:=by
 unfold bV at h
 have:=sZ _ _ _ (by decide) _ (nV _ _ _ _ h)
 simpa using this
theorem vB (s:List UInt8) (st:St) (h:failed (name s st).2=false):(name s st).1.text.length<=6:=by
 unfold name at h ⊢
 split at h
 ·rename_i hk
  rw [if_pos hk]
  exact mE _ _ (oN s _ h)
 ·rename_i hk
  rw [if_neg hk]
  exact Nat.zero_le _
theorem jF (t:Tok) (st:St) (h:Tm st.obj) (ht:failed st=false->t.text.length<=6):Tm (aS t st).2.obj:=by
 unfold aS
 split
 ·exact h
 rename_i hf
 have hf':failed st=false:=by simpa using hf
 split
 ·exact h
 split
 ·show Tm (refuse _ _ _).obj; rw [bN]; exact h
 ·refine ⟨h.text,h.far,h.data,h.bss,fun y hy=>?_,h.rz⟩
  rcases List.mem_append.1 hy with hy | hy
  ·exact h.names y hy
  ·simp at hy; subst hy; exact ht hf'
theorem mem_modify {α:Type} (l:List α) (i:Nat) (f:α->α) (y:α) (h:y∈l.modify i f):∃ x∈l,y=x\/y=f x:=by
 obtain ⟨j,hj,rfl⟩:=List.getElem_of_mem h
 rw [List.getElem_modify]
 refine ⟨l[j]'(by simpa using hj),List.getElem_mem _,?_⟩
 split
 ·exact .inr rfl
 ·exact .inl rfl
theorem qM (st:St) (i:Nat) (f:Lk.Sym->Lk.Sym) (h:Tm st.obj) (hf:∀ y,(f y).name=y.name):Tm (pG st i f).obj:=by
 refine ⟨h.text,h.far,h.data,h.bss,fun y hy=>?_,h.rz⟩
 obtain ⟨x,hx,rfl | rfl⟩:=mem_modify _ _ _ _ hy
 ·exact h.names _ hx
 ·rw [hf]; exact h.names _ hx
theorem zC (t:Tok) (st:St) (h:Tm st.obj):Tm (label t st).obj:=by
 unfold label; dsimp only
 have k:=jF t (bV t st) (by rw [lN]; exact h) (mE t st)
 split
 ·exact k
 split
 ·rw [bN]; exact k
 ·exact qM _ _ _ k fun _=>rfl
theorem Cb (s:List UInt8) (binding:Int) (st:St) (h:Tm st.obj):Tm (bind s binding st).obj:=by
 unfold bind; dsimp only
 have k:=jF (name s st).1 (name s st).2 (by rw [sU]; exact h) (vB s st)
 split
 ·exact k
 split
 ·rw [bN]; exact k
 ·exact qM _ _ _ k fun _=>rfl
theorem kZ (s:List UInt8) (st:St) (h:Tm st.obj):Tm (symbol s st).2.obj:=jF (name s st).1 (name s st).2 (by rw [sU]; exact h) (vB s st)
theorem lq (s:List UInt8) (st:St) (h:Tm st.obj):Tm (target s st).2.obj:=by
 unfold target; dsimp only
 have k:=kZ s st h
 split
 ·rw [dY,dD]; exact k
 split
 ·rw [dY,dD]; exact k
 ·exact k
theorem sJ (o:Lk.Obj) (ah:Nat) (ws:List Int) (h:Tm o) (hl:¬ 4 * limit ah < 4 * bK o ah+4 * (ws.length:Int)):Tm (aI o ah ws):=by
 unfold limit bK at hl
 have h4:=h.bss
 unfold aI
 split
 ·rename_i e; subst e
  simp at hl
  exact ⟨by simp; omega,h.far,h.data,h.bss,h.names,h.rz⟩
 split
 ·rename_i e; subst e
  simp at hl
  exact ⟨h.text,by simp; omega,h.data,h.bss,h.names,h.rz⟩
 split
 ·rename_i e; subst e
  simp at hl
  exact ⟨h.text,h.far,by simp; omega,h.bss,h.names,h.rz⟩
 split
 ·rename_i e; subst e
  simp at hl
  exact ⟨h.text,h.far,h.data,by simp; omega,h.names,h.rz⟩
 ·exact h
theorem ny (ws:List Int) (st:St) (h:Tm st.obj):Tm (lay ws st).obj:=by
 unfold lay
 split
 ·rw [bN]; exact h
 split
 ·exact h
 ·rename_i hl _
  exact sJ _ _ _ h hl
theorem iW (kind:Int) (sym:Nat) (addend:Int) (ws:List Int) (st:St) (h:Tm st.obj):Tm (dS kind sym addend ws st).obj:=by
 unfold dS; dsimp only
 have k:Tm (aW (decide (32<=st.obj.aj.length)) 12 st.op.pos st).obj:=by rw [iL]; exact h
 split
 ·exact k
 ·refine ny _ _ ⟨k.text,k.far,k.data,k.bss,k.names,fun r hr=>?_⟩
  rcases List.mem_append.1 hr with hr | hr
  ·exact k.rz r hr
  ·simp at hr; subst hr
   have:=wO k (aW (decide (32<=st.obj.aj.length)) 12 st.op.pos st).ah
   show 4 * _<=(4800:Int)
   omega
theorem fC (op rd au aC:Nat) (n:Int) (st:St) (h:Tm st.obj):Tm (dw op rd au aC n st).obj:=ny _ _ h
theorem jO (reg op rd au aC:Nat) (n:Int) (sym:Nat) (addend:Int) (st:St) (h:Tm st.obj):Tm (fq reg op rd au aC n sym addend st).obj:=by
 unfold fq
 exact iW _ _ _ _ _ (by rw [iL]; exact h)
theorem eu {c:Prop} [Decidable c] {a b:St} (ha:Tm a.obj) (hb:Tm b.obj):Tm (if c then a else b).obj:=by
 by_cases h:c
 ·rw [if_pos h]; exact ha
 ·rw [if_neg h]; exact hb
section
variable (s:List UInt8) (op:Nat) (st:St) (h:Tm st.obj)
include h
theorem rM:Tm (gK s op st).obj:=by unfold gK; dsimp only; refine fC _ _ _ _ _ _ ?_; rw [aQ,bQ,aQ,bQ,aQ]; exact h
theorem qw:Tm (fO s op st).obj:=by unfold fO; dsimp only; refine fC _ _ _ _ _ _ ?_; rw [dY,bQ,aQ,bQ,aQ]; exact h
theorem Ag:Tm (upper s st).obj:=by unfold upper; dsimp only; refine fC _ _ _ _ _ _ ?_; rw [dY,bQ,aQ]; exact h
theorem Cy:Tm (load s st).obj:=by
 unfold load; dsimp only
 refine eu ?_ ?_
 ·refine jO _ _ _ _ _ _ _ _ _ (lq s _ ?_); rw [bQ,aQ]; exact h
 ·refine fC _ _ _ _ _ _ ?_; rw [nC,bQ,aQ]; exact h
theorem Ab:Tm (store s st).obj:=by
 unfold store; dsimp only
 refine eu ?_ ?_
 ·refine jO _ _ _ _ _ _ _ _ _ ?_; rw [aQ,bQ]; refine lq s _ ?_; rw [bQ,aQ]; exact h
 ·refine fC _ _ _ _ _ _ ?_; rw [nC,bQ,aQ]; exact h
theorem nW:Tm (dR s st).obj:=by unfold dR; dsimp only; refine fC _ _ _ _ _ _ ?_; rw [nC,bQ,aQ]; exact h
theorem BZ:Tm (bare st).obj:=by
 unfold bare
 exact eu (fC _ _ _ _ _ _ h) (eu (fC _ _ _ _ _ _ h) (eu (fC _ _ _ _ _ _ h) h))
theorem wB:Tm (branch s op st).obj:=by unfold branch; dsimp only; refine iW _ _ _ _ _ (kZ s _ ?_); rw [bQ,aQ,bQ,aQ]; exact h
theorem oU (rd:Nat):Tm (iH s rd st).obj:=by unfold iH; dsimp only; exact iW _ _ _ _ _ (kZ s _ h)
theorem CF:Tm (move s st).obj:=by unfold move; dsimp only; refine fC _ _ _ _ _ _ ?_; rw [aQ,bQ,aQ]; exact h
theorem ql:Tm (fJ s st).obj:=by
 unfold fJ; dsimp only
 refine eu ?_ ?_
 ·refine fC _ _ _ _ _ _ ?_; rw [dY,bQ,aQ]; exact h
 ·refine ny _ _ ?_; rw [dY,bQ,aQ]; exact h
theorem Cg:Tm (call s st).obj:=by unfold call; dsimp only; exact iW _ _ _ _ _ (kZ s _ h)
theorem oW:Tm (eO s st).obj:=by unfold eO; dsimp only; refine jO _ _ _ _ _ _ _ _ _ (lq s _ ?_); rw [bQ,aQ]; exact h
end
theorem sQ (s:List UInt8) (st:St) (h:Tm st.obj):Tm (iG s st).obj:=by unfold iG; dsimp only; refine oU s _ ?_ _; rw [bQ,aQ]; exact h
theorem oP (s:List UInt8) (shape op:Nat) (st:St) (h:Tm st.obj):Tm (instruction s shape op st).obj:=by
 unfold instruction
 exact eu (rM s op st h) (eu (qw s op st h) (eu (Ag s st h) (eu (Cy s st h) (eu (Ab s st h) (eu (nW s st h) (eu (BZ st h) (eu (wB s op st h) (eu (sQ s st h) (eu (oU s st h 0) (eu (CF s st h) (eu (ql s st h) (eu (Cg s st h) (eu (oW s st h) h)))))))))))))
theorem tq (st:St):(iN st).obj=st.obj:=by unfold iN; (repeat' split) <;> rfl
theorem qR (s:List UInt8) (shape:Nat) (st:St) (h:Tm st.obj):Tm (directive s shape st).obj:=by
 unfold directive
 split
 ·rw [tq]; exact h
 split
 ·unfold word; dsimp only
  split
  ·exact iW _ _ _ _ _ (lq s _ h)
  ·refine ny _ _ ?_; rw [dY]; exact h
 split
 ·unfold space; dsimp only
  split
  ·refine ny _ _ ?_; rw [dY]; exact h
  ·rw [bN,dY]; exact h
 split
 ·unfold align; dsimp only
  have k:Tm (number s 2 4 st).2.obj:=by rw [dY]; exact h
  split
  ·exact k
  ·have k2:Tm (dH (2 ^ (number s 2 4 st).1.toNat) (number s 2 4 st).2).obj:=by
    unfold dH
    split
    ·split
     ·exact iW _ _ _ _ _ k
     ·exact k
    ·exact ny _ _ k
   unfold dF
   split
   ·exact ⟨k2.text,k2.far,k2.data,k2.bss,k2.names,k2.rz⟩
   ·exact k2
 split
 ·unfold binding; exact Cb s _ _ h
 ·exact h
theorem rA (s:List UInt8) (t:Tok) (st:St) (h:Tm st.obj):Tm (operation s t st).obj:=by
 unfold operation
 split
 ·rw [bN]; exact h
 split
 ·rw [bN]; exact h
 split
 ·exact oP s _ _ _ h
 ·exact qR s _ _ h
theorem qH (s:List UInt8) (t:Tok) (st:St) (h:Tm st.obj):Tm (jP s t st).obj:=by
 unfold jP; dsimp only
 have k:Tm (if t.kind == 1 then operation s t st else st).obj:=eu (rA s t st h) h
 exact eu k (by rw [bN]; exact k)
theorem Cw (s:List UInt8) (st:St) (h:Tm st.obj):Tm (line s st).obj:=by
 unfold line; dsimp only
 split
 ·refine qH s _ _ ?_
  rw [kF,dD]
  refine zC _ _ ?_
  rw [kF,dD]; exact h
 ·refine qH s _ _ ?_
  rw [kF,dD]; exact h
theorem qZ (s:List UInt8) (st:St):(dN s st).2.obj=st.obj:=by unfold dN; split <;> rfl
theorem zG (s:List UInt8) (n:Nat) (st:St) (h:Tm st.obj):Tm (lines s n st).obj:=by
 induction n generalizing st with
 | zero=>exact h
 | succ n ih =>
  unfold lines; dsimp only
  have k:Tm (dN s (line s st)).2.obj:=by rw [qZ]; exact Cw s st h
  split
  ·exact ih _ k
  ·exact k
theorem zZ:Tm start.obj:=⟨by decide,by decide,by decide,by decide,by simp [start],by simp [start]⟩
end As
end Go.Proofs.YtpgklkhgfcjceaaGreatDoor

namespace Go.Proofs.YtpgklkhgfcjceaaGreatDoor
open Go.RowKit
theorem ypZ (g:Nat) (o:Lk.Obj) (w:World) (ht:dz w) (h:yu w g o) (hn:jq o) (hv:¬ yw o) :
  Calls Tryz.prog 36 #[.pointer (some ⟨g,0,none⟩)] w fun e w'=>e = .returned (.tuple #[.string ⟨#[]⟩,.int .i64 20])/\w.grownBy w' none:=by
 have cV:=hid (Pq g o w ht h hn)
 have HV:=hid hv
 clear ht h hv hn
 go_enter Tryz.func36,Tryz.ntmps36
 go_wp2_with fail
 refine cV.o.mono ?_
 rintro e W1 ⟨tv,q1⟩
 rcases tv.split with ⟨rfl,_⟩ | ⟨_,p⟩
 ·have Q:=hid q1
  clear q1
  go_wp2
  go_ret2
  exact ⟨rfl,Q.o⟩
 ·exact absurd p.o HV.o
theorem ynk (g:Nat) (o:Lk.Obj) (w:World) (ht:dz w) (h:yu w g o) (hn:jq o) :
  Calls Tryz.prog 36 #[.pointer (some ⟨g,0,none⟩)] w fun e w'=>((e = .returned (.tuple #[.string (bs (Lk.iZ o)),.int .i64 0])/\yw o)\/(e = .returned (.tuple #[.string (bs []),.int .i64 20])/\¬ yw o))/\w.grownBy w' none:=by
 by_cases hv:yw o
 ·exact (yoI g o w ht h (Hq hv) hv).mono fun e w' k=>⟨.inl ⟨k.1,hv⟩,k.2⟩
 ·exact (ypZ g o w ht h hn hv).mono fun e w' k=>⟨.inr ⟨k.1,hv⟩,k.2⟩
def Told (s t:List UInt8) (fe fa:Nat):Prop :=
 ((As.assemble s).1.1≠0/\t=[]/\fe=(As.assemble s).1.1/\fa=(As.assemble s).1.2) \/
 ((As.assemble s).1.1=0/\yw (As.assemble s).2/\t=Lk.iZ (As.assemble s).2/\fe=0/\fa=0) \/
 ((As.assemble s).1.1=0/\¬ yw (As.assemble s).2/\t=[]/\fe=20/\fa=0)
def vS (fe fa:Nat):Value:=.agg #[.int .i64 fe,.int .i64 fa,.string ⟨#[]⟩]
def tY (fe fa:Nat):Array Value:=#[.int .i64 fe,.int .i64 fa,.string ⟨#[]⟩]
def BK (s:ByteArray) (w:World):World :=
 (((w.alloc (.cells (tY 0 0) 45)).alloc (.cells (yE s (w.heap.size+1+1+1) As.start) 67)).alloc (.cells #[.int .i64 2,.int .i64 2,.int .i64 2,.int .i64 2] 3)).alloc
  (.cells #[.slice none 0 0,.slice none 0 0,.slice none 0 0,.int .i64 0,.slice (some ⟨w.heap.size+1+1,0,none⟩) 4 4,.slice none 0 0,.slice none 0 0] 71)
theorem Uk (s:ByteArray) (w:World):w.grownBy (BK s w) none :=
 ya (ya (ya (aH _ _ _) (aH _ _ _)) (aH _ _ _)) (aH _ _ _)
theorem ymk (s:ByteArray) (w:World):yc (BK s w) w.heap.size (tY 0 0) 45 :=
 (yc.new w (tY 0 0) 45).grown (ya (ya (aH _ _ none) (aH _ _ none)) (aH _ _ none)) (by simp)
theorem Bc (w:World) (o:Obj):(w.alloc o).heap.size=w.heap.size+1:=Array.size_push _
theorem ypM (s:ByteArray) (hs:s.size<=1000):jo s As.start :=
 ⟨hs,Nat.zero_le _,He,by decide,by decide,He,by decide,by decide,by decide,by decide,by decide,by decide,by decide,by decide⟩
theorem yqm (s:ByteArray) (w:World) (ht:dz w) (hB:3<=w.heap.size) (hs:s.size<=1000) :
  yl w.heap.size s (w.heap.size+1) (w.heap.size+1+1+1) As.start (BK s w):=by
 have b1:=yc.new (w.alloc (.cells (tY 0 0) 45)) (yE s (w.heap.size+1+1+1) As.start) 67
 have b2:=yc.new ((w.alloc (.cells (tY 0 0) 45)).alloc (.cells (yE s (w.heap.size+1+1+1) As.start) 67)) #[.int .i64 2,.int .i64 2,.int .i64 2,.int .i64 2] 3
 have b3:=yc.new (((w.alloc (.cells (tY 0 0) 45)).alloc (.cells (yE s (w.heap.size+1+1+1) As.start) 67)).alloc (.cells #[.int .i64 2,.int .i64 2,.int .i64 2,.int .i64 2] 3)) #[.slice none 0 0,.slice none 0 0,.slice none 0 0,.int .i64 0,.slice (some ⟨w.heap.size+1+1,0,none⟩) 4 4,.slice none 0 0,.slice none 0 0] 71
 rw [Bc] at b1
 rw [Bc,Bc] at b2
 rw [Bc,Bc,Bc] at b3
 refine ⟨b1.grown (ya (aH _ _ none) (aH _ _ none)) (by simp),⟨.slice none 0 0,.slice none 0 0,.slice none 0 0,.slice (some ⟨w.heap.size+1+1,0,none⟩) 4 4,.slice none 0 0,.slice none 0 0,?_⟩,⟨hB,by omega,by omega,by omega⟩,ypM s hs,ht.grown (Uk s w)⟩
 refine ⟨b3,World.ownsRow_nil _ _ _ _,World.ownsRow_nil _ _ _ _,World.ownsRow_nil _ _ _ _,⟨rfl,.inr ⟨w.heap.size+1+1,4,#[.int .i64 2,.int .i64 2,.int .i64 2,.int .i64 2],rfl,by omega,b2.grown (aH _ _ none) (by simp),Nat.le_refl 4,by decide,rfl,rfl⟩⟩,World.ownsRow_nil _ _ _ _,World.ownsRow_nil _ _ _ _,?_⟩
 unfold Aw jg Value.ownBlock
 simp
 omega
theorem Pg {w W V:World} (h:w.grownBy W none) (hb:Below w.heap.size W V):w.grownBy V none :=
 ⟨hb.os.trans h.os,hb.tape.trans h.tape,hb.output.trans h.output,Nat.le_trans h.size hb.size,fun i hi _=>(hb.block i hi).trans (h.block i hi (by simp))⟩
theorem Md {w V:World} (h:w.grownBy V none) (r:Nat) (hr:w.heap.size<=r) (l:List (Nat×Value)):w.grownBy (sets V r l) none:=by
 have g:=Ba V r l
 exact ⟨g.os.trans h.os,g.tape.trans h.tape,g.output.trans h.output,Nat.le_trans h.size g.size,fun i hi _=>(g.block i (Nat.lt_of_lt_of_le hi h.size) (by simp; omega)).trans (h.block i hi (by simp))⟩
theorem yoe {rs:List Lk.Rel} {r:Lk.Rel} (h:r∈As.gI rs):r∈rs:=by
 unfold As.gI at h
 simp only [List.mem_append,List.mem_filter] at h
 rcases h with (h | h) | h <;> exact h.1
theorem yla {s:ByteArray} {st:As.St} (hok:jo s st) (h:As.Tm st.obj):jq (As.finish st.obj):=by
 have h1:=hok.syms
 have h2:=hok.aj
 have h3:=hok.align
 have h4:=VG st.obj.aj
 refine ⟨⟨?_,?_,?_,?_,?_,?_⟩,fun y hy=>?_,fun r hr=>?_⟩
 ·have:=h.text; show st.obj.text.length<=_; omega
 ·have:=h.far; show st.obj.far.length<=_; omega
 ·have:=h.data; show st.obj.data.length<=_; omega
 ·show st.obj.align.length<=_; omega
 ·show (As.jT st.obj.syms).length<=_; simp [As.jT]; omega
 ·show (As.gI st.obj.aj).length<=_; omega
 ·obtain ⟨x,hx,rfl⟩:=List.mem_map.1 hy
  have:=h.names x hx
  split <;> simp <;> omega
 ·have:=h.rz r (yoe hr); omega
def yra (s:ByteArray) (w:World) (m:Value) (wr:World):Prop :=
 ∃ st:As.St,Does w.heap.size s (w.heap.size+1) (w.heap.size+1+1+1) (BK s w) st wr /\
  ((m = .bool true/\∃ n,As.lines (sl s) (s.size+1) As.start=As.lines (sl s) n st/\s.size - st.p+1<=n)\/(m = .bool false/\As.lines (sl s) (s.size+1) As.start=st))
def QB (s:ByteArray) (w:World) (m:Value) (wr:World):Nat:=match m with
 | .bool true=>s.size - AJ (w.heap.size+1) wr+1
 | _=>0
theorem yl.pos {B:Nat} {s:ByteArray} {b g:Nat} {st:As.St} {W:World} (h:yl B s b g st W):AJ b W=st.p:=by
 have:=yL h 1
 simp only [yE,bC,bG,bE] at this
 unfold AJ
 rw [this]
 simp
set_option maxRecDepth 100000 in
theorem yjp (s:ByteArray) (w:World) (ht:dz w) (hN:mq w) (hB:3<=w.heap.size) :
  Calls Tryz.prog 27 #[.string s] w fun e w'=>(∃ t fe fa,e = .returned (.tuple #[.string (bs t),vS fe fa])/\Told (sl s) t fe fa)/\w.grownBy w' none:=by
 have HT:=hid ht
 have HN:=hid hN
 clear ht hN
 by_cases hl:1000 < s.size
 ·have d:decide (1000 < (s.size:Int))=true:=by simp; omega
  have RA:=hid (show As.assemble (sl s)=((1,0),As.start.obj) by unfold As.assemble; rw [yr,if_pos hl])
  go_enter Tryz.func27,Tryz.ntmps27
  go_wp2
  refine bodyPost_ret (v:=.tuple #[.string (bs []),vS 1 0]) ?_ rfl ⟨⟨[],1,0,rfl,.inl ⟨by rw [RA.o]; decide,rfl,by rw [RA.o],by rw [RA.o]⟩⟩,aH _ _ _⟩
  simp [results,Tryz.results27,go_sem,vS,bs]
 ·have d:decide (1000 < (s.size:Int))=false:=by simp; omega
  have RA:=hid (show As.assemble (sl s)=(((As.lines (sl s) (s.size+1) As.start).fe,(As.lines (sl s) (s.size+1) As.start).fa),As.finish (As.lines (sl s) (s.size+1) As.start).obj) by unfold As.assemble; rw [yr,if_neg hl])
  have AT:=hid (yqm s w HT.o hB (by omega))
  have AG:=hid (Uk s w)
  have AF:=hid (ymk s w)
  have TM:=hid (As.zG (sl s) (s.size+1) As.start As.zZ)
  go_enter Tryz.func27,Tryz.ntmps27
  go_wp2
  go_loopw [5] (fun m wr=>yra s w m wr) (fun m wr=>QB s w m wr)
  case atStart=>exact ⟨As.start,AT.o.does,.inl ⟨rfl,s.size+1,rfl,by omega⟩⟩
  case round =>
   obtain ⟨st,hd,⟨rfl,n,hn,hle⟩ | ⟨rfl,hn⟩⟩:=hrel
   ·have D:=hid hd
    have EN:=hid hn
    have HL:=hid hle
    have N2:=hid (HN.o.below (LK (Pg AG.o D.o.2.1) (Nat.le_refl _) (by simp)) hB)
    clear hd hn hle
    go_wp2_with fail
    refine (ypj _ s _ _ st wr D.o.1 N2.o).mono ?_
    rintro e V1 ⟨rfl,h1⟩
    have D1:=hid (D.o.after h1)
    clear h1
    go_wp2_with fail
    refine (ZC _ s _ _ _ V1 D1.o.1).mono ?_
    rintro e V2 ⟨rfl,h2⟩
    have D2:=hid (D1.o.aO h2)
    clear h2
    cases hr:(As.dN (sl s) (As.line (sl s) st)).1
    ·have R:=hid hr
     clear hr
     go_wp2
     go_roundw
     case rel =>
      refine ⟨_,D2.o,.inr ⟨rfl,?_⟩⟩
      rw [EN.o]
      obtain ⟨k,rfl⟩:∃ k,n=k+1:=⟨n - 1,by have:=HL.o; omega⟩
      simp only [As.lines]
      rw [R.o]
      simp
     case measure=>simp [QB]
    ·have R:=hid hr
     clear hr
     go_wp2
     go_roundw
     case rel =>
      have u1:=As.vw (sl s) st
      have u2:=As.nM (sl s) (As.line (sl s) st) R.o
      rw [yr] at u2
      have hl2:=HL.o
      obtain ⟨k,rfl⟩:∃ k,n=k+1:=⟨n - 1,by omega⟩
      refine ⟨_,D2.o,.inl ⟨rfl,k,?_,by omega⟩⟩
      rw [EN.o]
      simp only [As.lines]
      rw [R.o]
      simp
     case measure =>
      have u1:=As.vw (sl s) st
      have u2:=As.nM (sl s) (As.line (sl s) st) R.o
      rw [yr] at u2
      have p1:=D.o.1.pos
      have p2:=D2.o.1.pos
      simp only [QB,p1,p2]
      omega
   ·have D:=hid hd
    rw [hn] at TM RA
    clear hd hn HN AT
    have FB:=hid (D.o.2.2 _ _ _ (by decide) (by decide) (by decide) (by decide) (by decide) AF.o)
    go_wp2_with fail
    refine (A9 _ s _ _ st wr D.o.1).mono ?_
    rintro e w1 ⟨rfl,rfl⟩
    cases hf:As.failed st
    ·have F0:=hid (show st.fe=0 by simpa [As.failed] using hf)
     clear hf
     go_wp2_with fail
     refine (yjq _ s _ _ st _ D.o.1).mono ?_
     rintro e V1 ⟨rfl,h1⟩
     have D1:=hid (D.o.after h1)
     clear h1
     go_wp2_with fail
     refine (Zq _ s _ _ _ V1 D1.o.1).mono ?_
     rintro e V2 ⟨rfl,h2⟩
     have D2:=hid (D1.o.after h2)
     clear h2 D1
     have QS:=hid (D2.o.2.2 _ _ _ (by decide) (by decide) (by decide) (by decide) (by decide) AF.o)
     have c14:=rR D2.o.1
     go_wp2_with fail
     refine (ynk _ (As.finish st.obj) V2 D2.o.1.tabs D2.o.1.DJ (yla D.o.1.ok TM.o)).mono ?_
     rintro e V3 ⟨hw,hg⟩
     have FG:=hid (Pg AG.o (D2.o.grown hg).2.1)
     have Dp:=hid (QS.o.grown hg (by simp))
     have v0:=Dp.o.free 0
     have v1:=Dp.o.free 1
     have v2:=Dp.o.free 2
     have x0:=Dp.o.cell 0
     have x1:=Dp.o.cell 1
     have x2:=Dp.o.cell 2
     simp only [tY,bC,bG,bE] at x0 x1 x2
     clear hg c14 D2 D FB QS
     rcases hw with ⟨rfl,hv⟩ | ⟨rfl,hv⟩
     ·have HV:=hid hv
      clear hv
      go_wp2
      have F:=Bb [(0,.int .i64 0),(1,.int .i64 0),(2,.string ⟨#[]⟩)] Dp.o
      have h0:=F.cell 0
      have h1:=F.cell 1
      have h2:=F.cell 2
      simp only [tY,rU,kI,kR,fQ,fT,fP,bC,bG,bE] at h0 h1 h2
      refine bodyPost_ret (v:=.tuple #[.string (bs (Lk.iZ (As.finish st.obj))),vS 0 0]) ?_ rfl ⟨⟨_,0,0,rfl,.inr (.inl ⟨by rw [RA.o]; exact F0.o,by rw [RA.o]; exact HV.o,by rw [RA.o],rfl,rfl⟩)⟩,Md FG.o _ (Nat.le_refl _) [(0,.int .i64 0),(1,.int .i64 0),(2,.string ⟨#[]⟩)]⟩
      clear F x0 x1 x2 v0 v1 v2
      simp only [sets,kI,kR] at h0 h1 h2 ⊢
      generalize World.setCell _ _ _=WF at *
      simp [results,Tryz.results27,go_sem,vS,h0,h1,h2]
     ·have HV:=hid hv
      clear hv
      go_wp2
      have F:=Bb [(0,.int .i64 20),(1,.int .i64 0),(2,.string ⟨#[]⟩)] Dp.o
      have h0:=F.cell 0
      have h1:=F.cell 1
      have h2:=F.cell 2
      simp only [tY,rU,kI,kR,fQ,fT,fP,bC,bG,bE] at h0 h1 h2
      refine bodyPost_ret (v:=.tuple #[.string (bs []),vS 20 0]) ?_ rfl ⟨⟨_,20,0,rfl,.inr (.inr ⟨by rw [RA.o]; exact F0.o,by rw [RA.o]; exact HV.o,rfl,rfl,rfl⟩)⟩,Md FG.o _ (Nat.le_refl _) [(0,.int .i64 20),(1,.int .i64 0),(2,.string ⟨#[]⟩)]⟩
      clear F x0 x1 x2 v0 v1 v2
      simp only [sets,kI,kR] at h0 h1 h2 ⊢
      generalize World.setCell _ _ _=WF at *
      simp [results,Tryz.results27,go_sem,vS,h0,h1,h2]
    ·have F0:=hid (show st.fe≠0 by simpa [As.failed] using hf)
     clear hf
     have FG:=hid (Pg AG.o D.o.2.1)
     have c6:=yL D.o.1 6
     have c7:=yL D.o.1 7
     have c8:=yL D.o.1 8
     simp only [yE,bC,bG,bE] at c6 c7 c8
     have v0:=FB.o.free 0
     have v1:=FB.o.free 1
     have v2:=FB.o.free 2
     have x0:=FB.o.cell 0
     have x1:=FB.o.cell 1
     have x2:=FB.o.cell 2
     simp only [tY,bC,bG,bE] at x0 x1 x2
     clear D
     go_wp2
     go_region
     go_wp2
     have F:=Bb [(0,.int .i64 st.fe),(1,.int .i64 st.fa),(2,.string ⟨#[]⟩)] FB.o
     have h0:=F.drew.cell 0
     have h1:=F.drew.cell 1
     have h2:=F.drew.cell 2
     simp only [tY,rU,kI,kR,fQ,fT,fP,bC,bG,bE] at h0 h1 h2
     refine bodyPost_ret (v:=.tuple #[.string (bs []),vS st.fe st.fa]) ?_ rfl ⟨⟨_,st.fe,st.fa,rfl,.inl ⟨by rw [RA.o]; exact F0.o,rfl,by rw [RA.o],by rw [RA.o]⟩⟩,yi (Md FG.o _ (Nat.le_refl _) [(0,.int .i64 st.fe),(1,.int .i64 st.fa),(2,.string ⟨#[]⟩)])⟩
     clear F x0 x1 x2 v0 v1 v2 c6 c7 c8
     simp only [sets,kI,kR] at h0 h1 h2 ⊢
     generalize World.drew _=WF at *
     simp [results,Tryz.results27,go_sem,vS,bs,h0,h1,h2]
section
instance (c:Int):Decidable (pO c):=by unfold pO; infer_instance
instance (s:ByteArray):Decidable (Bo s):=by unfold Bo; infer_instance
instance (xs:List Int):Decidable (qP xs):=by unfold qP; infer_instance
instance (xs:List Int):Decidable (xL xs):=by unfold xL; infer_instance
instance (o:Lk.Obj):Decidable (Gi o):=by unfold Gi; infer_instance
instance (o:Lk.Obj):Decidable (Ea o):=by unfold Ea; infer_instance
instance (o:Lk.Obj) (y:Lk.Sym):Decidable (Bq o y):=by unfold Bq; infer_instance
instance (o:Lk.Obj):Decidable (Kn o):=by unfold Kn; infer_instance
instance (r:Lk.Rel):Decidable (Bl r):=by unfold Bl; infer_instance
instance (r:Lk.Rel):Decidable (qA r):=by unfold qA; infer_instance
instance (o:Lk.Obj) (r:Lk.Rel):Decidable (Gj o r):=by unfold Gj; infer_instance
instance (o:Lk.Obj) (r:Lk.Rel):Decidable (Hz o r):=by unfold Hz; infer_instance
instance (o:Lk.Obj) (r:Lk.Rel):Decidable (Bh o r):=by unfold Bh; infer_instance
instance (o:Lk.Obj) (r:Lk.Rel):Decidable (Hr o r):=by unfold Hr; infer_instance
instance (k:Int) (xs:List Int):Decidable (nQ k xs):=by unfold nQ yQ iA Ih yX yV mR xV; infer_instance
instance (o:Lk.Obj) (r:Lk.Rel):Decidable (Di o r):=by unfold Di; infer_instance
instance (a r:Lk.Rel):Decidable (Da a r):=by unfold Da; infer_instance
instance (o:Lk.Obj):Decidable (Km o):=by unfold Km; infer_instance
instance GH (o:Lk.Obj):Decidable (yw o):=by unfold yw; infer_instance
end
theorem Y6 (s:ByteArray) (w:World) (ht:dz w) (hN:mq w) (hB:3<=w.heap.size) :
  Calls Tryz.prog 22 #[.string s] w fun e w'=>(∃ t fe fa,e = .returned (.tuple #[.string (bs t),vS fe fa])/\Told (sl s) t fe fa)/\w.grownBy w' none:=by
 have cA:=hid (yjp s (w.alloc (.cells (tY 0 0) 45)) (ht.grown (aH _ _ none)) (hN.below (LK (aH _ _ none) (Nat.le_refl _) (by simp)) hB) (by rw [Bc]; omega))
 have b0:=hid (yc.new w (tY 0 0) 45)
 go_enter Tryz.func22,Tryz.ntmps22
 go_wp2_with fail
 refine cA.o.mono ?_
 rintro e V1 ⟨⟨t,fe,fa,rfl,ht⟩,hg⟩
 have HT:=hid ht
 have FB:=hid (b0.o.grown hg (by simp))
 have FG:=hid (ya (aH w (.cells (tY 0 0) 45) none) hg)
 clear ht hg cA b0
 unfold vS
 have v0:=FB.o.free 0
 have v1:=FB.o.free 1
 have v2:=FB.o.free 2
 have x0:=FB.o.cell 0
 have x1:=FB.o.cell 1
 have x2:=FB.o.cell 2
 simp only [tY,bC,bG,bE] at x0 x1 x2
 go_wp2
 have F:=Bb [(0,.int .i64 fe),(1,.int .i64 fa),(2,.string ⟨#[]⟩)] FB.o
 have h0:=F.cell 0
 have h1:=F.cell 1
 have h2:=F.cell 2
 simp only [tY,rU,kI,kR,fQ,fT,fP,bC,bG,bE] at h0 h1 h2
 refine bodyPost_ret (v:=.tuple #[.string (bs t),vS fe fa]) ?_ rfl ⟨⟨t,fe,fa,rfl,HT.o⟩,Md FG.o _ (Nat.le_refl _) [(0,.int .i64 fe),(1,.int .i64 fa),(2,.string ⟨#[]⟩)]⟩
 clear F x0 x1 x2 v0 v1 v2
 simp only [sets,kI,kR] at h0 h1 h2 ⊢
 generalize World.setCell _ _ _=WF at *
 simp [results,Tryz.results22,go_sem,vS,h0,h1,h2]
def mY (t:List UInt8):List UInt8:=Lk.iZ (As.assemble t).2
def Ko (t:List UInt8):Prop:=(As.assemble t).1.1=0/\yw (As.assemble t).2
theorem ymj {s t:List UInt8} {fe fa:Nat} (h:Ko s) (k:Told s t fe fa):fe=0/\t=mY s:=by
 rcases k with ⟨h1,-⟩ | ⟨h1,h2,h3,h4,-⟩ | ⟨h1,h2,-⟩
 ·exact absurd h.1 h1
 ·exact ⟨h4,h3⟩
 ·exact absurd h.2 h2
theorem ylE {w:World} {B:Nat} {ao:Option Addr} {cap:Nat} {fs:List (List UInt8)} (h:w.ownsRow B 9 1 (.slice ao fs.length cap) fs.length (fs.map fun l=>.string (bs l))):Ay w ao fs:=by
 intro hp
 obtain ⟨sg,hs,-,-,-,hc⟩:=F5 h hp
 refine ⟨sg,0,hs,fun i hi=>?_⟩
 rw [Nat.zero_add,hc i hi,List.getElem?_map,jG hi]
 rfl
set_option maxRecDepth 100000 in
theorem ypp (ts:List (List UInt8)) (am:Option Addr) (cm:Nat) (w:World) (hin:Ay w am ts) (hl:ts.length<=64) (hok:∀ t∈ts,Ko t) (ht:dz w) (hN:mq w) (hB:3<=w.heap.size) :
  Calls Tryz.prog 15 #[.slice am ts.length cm] w fun e w'=>(∃ ao cap,e = .returned (.tuple #[.slice ao ts.length cap,.bool true])/\Ay w' ao (ts.map mY))/\w.grownBy w' none:=by
 obtain ⟨i0,hi,hz0,hz1,hz2⟩:=info_parts Tryz.vg
 have HI:=hid hin
 have HT:=hid ht
 have HN:=hid hN
 have HK:=hid hok
 clear hin ht hN hok
 go_enter Tryz.func15,Tryz.ntmps15
 go_wp2
 go_loopw [4,5] (fun v i wr=>∃ (k:Nat),k<=ts.length/\i = .int .i64 k/\wr.ownsRow w.heap.size 9 1 v k (((ts.take k).map mY).map fun l=>.string (bs l))/\w.grownBy wr none) (fun _ i _=>ts.length - (intOf i).toNat)
 case atStart=>exact ⟨0,Nat.zero_le _,rfl,World.ownsRow_nil _ _ _ _,World.grownBy.refl _ _⟩
 case round =>
  obtain ⟨k,hk,rfl,hown,hgr⟩:=hrel
  obtain ⟨av,cv,rfl⟩:=yh hown
  have HO:=hid hown
  have G:=hid hgr
  clear hown hgr
  by_cases hlt:k < ts.length
  ·obtain ⟨g0,off,rfl,hc⟩:=HI.o.kept G.o (by omega)
   have cc:=hc k hlt
   have hz:=G.o.size
   have g1:(k:Int) < (ts.length:Int):=by omega
   have Ro:=HK.o _ (gW hlt)
   have TK:=hid (show (((ts.take (k+1)).map mY).map fun l=>Value.string (bs l))=(((ts.take k).map mY).map fun l=>.string (bs l)) ++ [.string (bs (mY ts[k]))] by
    rw [List.take_succ_eq_append_getElem hlt,List.map_append,List.map_append]
    rfl)
   generalize ts[k]=tx at *
   clear hc
   go_wp2_with fail
   refine (Y6 (bs tx) wr (HT.o.grown G.o) (HN.o.below (LK G.o (Nat.le_refl _) (by simp)) hB) (by omega)).mono ?_
   rintro e V ⟨⟨t,fe,fa,rfl,htold⟩,hg⟩
   rw [Dk] at htold
   obtain ⟨rfl,rfl⟩:=ymj Ro htold
   have G2:=hid (ya (ya G.o hg) (aH V (.cells #[.int .i64 0,.int .i64 fa,.string ⟨#[]⟩] 45) none))
   have AU:=hid ((HO.o.kept hg (Decidable.em _)).alloc (.cells #[.int .i64 0,.int .i64 fa,.string ⟨#[]⟩] 45))
   have hzz:=hg.size
   have CN:=cell_one_new (V.alloc (.cells #[.int .i64 0,.int .i64 fa,.string ⟨#[]⟩] 45)) (.string (bs (mY tx))) 9
   rw [Bc] at CN
   have Xx:=hid CN
   clear htold hg cc HO G CN Ro
   generalize mY tx=t at *
   unfold vS
   go_wp2_with (at_builtin; refine wpList_append_own _ rfl _ _ 29 rfl w.heap.size 9 i0 (.string ⟨#[]⟩) 1 16 Tryz.underlying29 hi hz0 hz1 hz2 rfl (by decide) _ _ _ rfl (AU.o.alloc _) ⟨V.heap.size+1,0,none⟩ 1 1 [.string (bs t)] rfl rfl Xx.o (by intro u hu; simp at hu; subst hu; rfl) (by unfold maxLen; omega) (by omega) (by simp; omega) ?_; intro v' w3 hown' hgrow _; obtain ⟨mZ,cv',rfl⟩:=yh hown'; have K:=hid hown'; have GK:=hid (Hg (ya G2.o (aH _ _ _)) hgrow (fun b hb=>(AU.o.lt b hb).1)); clear hgrow hown')
   go_wp2
   go_roundw
   case rel=>exact ⟨k+1,by omega,by go_num,by rw [TK.o]; exact K.o,GK.o⟩
   case measure=>simp [intOf]; omega
  ·obtain rfl:k=ts.length:=by omega
   have g3:decide ((ts.length:Int) < (ts.length:Int))=false:=by simp
   rw [List.take_length] at HO
   go_wp2
   go_ret2
   refine ⟨⟨av,cv,rfl,ylE (B:=w.heap.size) (cap:=cv) ?_⟩,G.o⟩
   rw [pY]
   exact HO.o
theorem yjR {bt bf bd:Int} {fs:List (List UInt8)} {e:Ending} (h:Gb bt bf bd fs e):∃ (b:List UInt8) (f:Ln.pQ),e = .returned (.tuple #[.string (bs b),fF f]):=by
 rcases h with ⟨f,-,he,-⟩ | ⟨-,-,-,xs,hx,-,he⟩
 ·exact ⟨_,_,he⟩
 ·exact ⟨_,_,he⟩
set_option maxRecDepth 100000 in
theorem ynP (bt bf bd:Int) (af:Option Addr) (cf:Nat) (fs:List (List UInt8)) (w:World) (hin:Ay w af fs) (hsz:∀ f∈fs,f.length<=1048576) (ht:dz w) (hn:fs.length<=1048576) :
  Calls Tryz.prog 23 #[.slice af fs.length cf,.agg #[.int .i64 bt,.int .i64 bf,.int .i64 bd]] w fun e w'=>Gb bt bf bd fs e/\w.grownBy w' none:=by
 have HI:=hid hin
 have HT:=hid ht
 have cL:=hid (fun W (hg:w.grownBy W none)=>ypk bt bf bd af cf fs W (HI.o.kept hg) hsz (HT.o.grown hg) hn)
 have hs1:(w.alloc (.cells #[.int .i64 bt,.int .i64 bf,.int .i64 bd] 33)).heap.size=w.heap.size+1:=Array.size_push _
 have A1:=aH (w.alloc (.cells #[.int .i64 bt,.int .i64 bf,.int .i64 bd] 33)) (.cells #[.int .i64 0,.int .i64 0,.string ⟨#[]⟩] 45) none
 have G1:=hid (ya (aH w (.cells #[.int .i64 bt,.int .i64 bf,.int .i64 bd] 33) none) A1)
 have BR:=hid (yc.new (w.alloc (.cells #[.int .i64 bt,.int .i64 bf,.int .i64 bd] 33)) #[.int .i64 0,.int .i64 0,.string ⟨#[]⟩] 45)
 rw [hs1] at BR
 clear hin ht A1 hs1
 go_enter Tryz.func23,Tryz.ntmps23
 go_wp2_with fail
 generalize (w.alloc (.cells #[.int .i64 bt,.int .i64 bf,.int .i64 bd] 33)).alloc (.cells #[.int .i64 0,.int .i64 0,.string ⟨#[]⟩] 45)=W1 at *
 have Dx:w.heap.size<=w.heap.size+1:=by omega
 generalize w.heap.size+1=R at *
 refine (cL.o _ G1.o).mono ?_
 rintro e V1 ⟨hret,hg⟩
 obtain ⟨b,f,rfl⟩:=yjR hret
 have BJ:=hid hret
 have FB:=hid (BR.o.grown hg (by simp))
 have FG:=hid (ya G1.o hg)
 clear hret hg cL BR
 obtain ⟨fe,fa,fn⟩:=f
 unfold fF
 dsimp only
 have v0:=FB.o.free 0
 have v1:=FB.o.free 1
 have v2:=FB.o.free 2
 have x0:=FB.o.cell 0
 have x1:=FB.o.cell 1
 have x2:=FB.o.cell 2
 simp only [bC,bG,bE] at x0 x1 x2
 go_wp2
 have F:=((FB.o.set 0 (.int .i64 fe)).set 1 (.int .i64 fa)).set 2 (.string (bs fn))
 have h0:=F.cell 0
 have h1:=F.cell 1
 have h2:=F.cell 2
 simp only [fQ,fT,fP,bC,bG,bE] at h0 h1 h2
 refine bodyPost_ret (v:=.tuple #[.string (bs b),fF ⟨fe,fa,fn⟩]) ?_ rfl ⟨BJ.o,yx FG.o _ Dx _ _ _⟩
 clear F x0 x1 x2 v0 v1 v2
 generalize World.setCell _ _ _=WF at *
 simp [results,Tryz.results23,go_sem,fF,h0,h1,h2]
def MG (xs:List Int):Bool:=xs.all fun x=>decide (0<=x) && decide (x<=4294967295)
theorem PN {xs:List Int} (h:MG xs=true):qP xs:=by
 intro i hi
 have:=List.all_eq_true.1 h _ (gW hi)
 simp at this
 exact this
def Qu (o:Lk.Obj):Bool:=decide (Gi o) && (decide (xL o.align) && (MG o.text && (MG o.far && (MG o.data && (decide (Kn o) && decide (Km o))))))
theorem yni {o:Lk.Obj} (h:Qu o=true):yw o:=by
 unfold Qu at h
 simp only [Bool.and_eq_true,decide_eq_true_eq] at h
 obtain ⟨h1,h2,h3,h4,h5,h6,h7⟩:=h
 exact ⟨h1,h2,⟨PN h3,PN h4,PN h5⟩,h6,h7⟩
def Kq (f:Ln.pQ) (e at_:Int) (n:List UInt8):Prop:=f.e=e/\f.at_=at_/\f.name=n
instance (f:Ln.pQ) (e at_:Int) (n:List UInt8):Decidable (Kq f e at_ n):=by unfold Kq; infer_instance
def Qr (os:List Lk.Obj) (bt bf bd:Int) (e at_:Int) (n:List UInt8):Prop:=(Ln.eH os bt bf bd).1=[]/\Kq (Ln.eH os bt bf bd).2 e at_ n
instance (os:List Lk.Obj) (bt bf bd:Int) (e at_:Int) (n:List UInt8):Decidable (Qr os bt bf bd e at_ n):=by unfold Qr; infer_instance
theorem ykW {l:List UInt8} {a b:Bool} {os ps:List Lk.Obj} (h:rY l a os) (k:rY l b ps):a=b/\os=ps:=by
 rcases h with ⟨rfl,h1,rfl⟩ | ⟨rfl,h1,ms,h2,rfl⟩
 ·rcases k with ⟨rfl,-,rfl⟩ | ⟨-,k1,-⟩
  ·exact ⟨rfl,rfl⟩
  ·exact absurd h1 k1
 ·rcases k with ⟨-,k1,-⟩ | ⟨rfl,-,ns,k2,rfl⟩
  ·exact absurd k1 h1
  ·exact ⟨rfl,by rw [<- VH h2,<- VH k2]⟩
theorem yms {o:Lk.Obj} (hv:yw o):rY (Lk.iZ o) false [o]:=by
 have hg:=Hq hv
 have q:=Lf ((Lk.jM (Lk.iZ o) o).2 ⟨hg,rfl⟩) hv
 exact .inl ⟨rfl,q.1,by rw [q.2]⟩
theorem ymr {t:List UInt8} (h:Ko t):rY (mY t) false [(As.assemble t).2]:=yms h.2
theorem ymS {l:List UInt8} {a:Bool} {os:List Lk.Obj} (h:rY l a os) (k:Kl l):False:=by
 rcases h with ⟨-,h1,-⟩ | ⟨-,-,ms,h2,-⟩
 ·exact k.1 h1
 ·exact k.2 ms h2
def Ig:List (List UInt8)->List (Bool×List Lk.Obj)->Prop
 | [],[]=>True
 | l :: ls,x :: xs=>rY l x.1 x.2/\Ig ls xs
 | _,_=>False
theorem Vo:∀ {fs:List (List UInt8)} {xs:List (Bool×List Lk.Obj)},Ig fs xs->xs.length=fs.length:=by
 intro fs
 induction fs with
 | nil =>
  intro xs h
  cases xs with
  | nil=>rfl
  | cons x xs=>exact h.elim
 | cons l ls ih =>
  intro xs h
  cases xs with
  | nil=>exact h.elim
  | cons x xs=>rw [iE,iE,ih h.2]
theorem Vx:∀ {fs:List (List UInt8)} {xs:List (Bool×List Lk.Obj)},Ig fs xs->∀ i (h:i < fs.length) (h':i < xs.length),rY fs[i] xs[i].1 xs[i].2:=by
 intro fs
 induction fs with
 | nil=>intro xs _ i h; simp at h
 | cons l ls ih =>
  intro xs h i hi hx
  cases xs with
  | nil=>exact h.elim
  | cons x xs =>
   cases i with
   | zero=>exact h.1
   | succ i=>exact ih h.2 i (by simpa using hi) (by simpa using hx)
theorem ymt {fs:List (List UInt8)} {xs ys:List (Bool×List Lk.Obj)} (h:Ig fs xs) (hy:ys.length=fs.length) (k:∀ i (h:i < fs.length),rY fs[i] (ys[i]'(by omega)).1 (ys[i]'(by omega)).2):ys=xs:=by
 have hl:=Vo h
 apply List.ext_getElem
 ·omega
 ·intro i h1 h2
  have a:=Vx h i (by omega) h2
  have b:=k i (by omega)
  have u:=ykW b a
  exact Prod.ext u.1 u.2
theorem ymH {bt bf bd:Int} {fs:List (List UInt8)} {xs:List (Bool×List Lk.Obj)} {e:Ending} (h:Gb bt bf bd fs e) (hb:Im.Base bt/\Im.Base bf/\Im.Base bd) (h1:1<=fs.length) (h8:fs.length<=8) (hf:Ig fs xs):e = .returned (.tuple #[.string (bs (Ln.eH (Ln.bD xs) bt bf bd).1),fF (Ln.eH (Ln.bD xs) bt bf bd).2]):=by
 have hok:oh bt bf bd=Ln.ok:=by
  unfold oh
  rw [if_neg (not_not_intro hb.1),if_neg (not_not_intro hb.2.1),if_neg (not_not_intro hb.2.2)]
 rcases h with ⟨f,hfe,-,c⟩ | ⟨-,-,-,ys,hy,k,rfl⟩
 ·rcases c with rfl | ⟨-,c,-⟩ | ⟨-,-,-,i,hi,-,hn,-⟩
  ·exact absurd (by rw [hok]; rfl) hfe
  ·omega
  ·exact (ymS (Vx hf i hi (by rw [Vo hf]; exact hi)) hn).elim
 ·rw [ymt hf hy k]
theorem ypO {W:World} {X:Nat} {t:TypeId} (fs:List (List UInt8)) (h:yc W X (fs.map fun l=>Value.string (bs l)).toArray t):Ay W (some ⟨X,0,none⟩) fs:=fun _=>⟨X,0,rfl,fun i hi=>by
 rw [Nat.zero_add,h.cell i,bC,List.getElem?_map,jG hi]
 rfl⟩
def yrS (s:List UInt8) (o:Lk.Obj):Prop:=rY s false [o]/\s.length<=1048576
theorem WZ {t:List UInt8} (h:Ko t):yrS (mY t) (As.assemble t).2:=⟨ymr h,by have:=UJ h.2; unfold mY; omega⟩
theorem ynN (m:Im.dK):Im.lM m↔(Im.Base m.text/\Im.Base m.far/\Im.Base m.data)/\Im.Fits m/\(Im.code m m.start).isSome=true:=by
 rw [Im.zh]
 unfold Im.lM Im.Fits Im.mI Im.mH Im.mG
 constructor
 ·rintro ⟨a,b,c,d⟩; exact ⟨a,⟨b,c⟩,d⟩
 ·rintro ⟨a,⟨b,c⟩,d⟩; exact ⟨a,b,c,d⟩
theorem yjK (g:Nat) (m:Im.dK) (w:World) (h:lK w g m) (ht:Im.jq m) :
  Calls Tryz.prog 46 #[.pointer (some ⟨g,0,none⟩)] w fun e w'=>yg e (Im.lM m)/\w.grownBy w' none:=by
 have H:=hid h
 have HT:=hid ht
 obtain ⟨at_,ct,af,cf,ad,cd,hb,-,-,-⟩:=h.open
 have k0:=hb.cell 0
 have k1:=hb.cell 1
 have k2:=hb.cell 2
 have k3:=hb.cell 3
 simp only [bC,bG,bE] at k0 k1 k2 k3
 have c1:=hid (fun W=>Lv m.text W ht.text.1 ht.text.2)
 have c2:=hid (fun W=>Lv m.far W ht.far.1 ht.far.2)
 have c3:=hid (fun W=>Lv m.data W ht.data.1 ht.data.2)
 have Q0:=hid (ynN m)
 generalize Im.lM m=Q at *
 clear h ht hb
 go_enter Tryz.func46,Tryz.ntmps46
 go_wp2_with fail
 refine (c1.o w).mono ?_
 rintro e V ⟨t,rfl⟩
 rcases t.split with ⟨rfl,p1⟩ | ⟨rfl,p1⟩ <;> clear t c1
 ·go_wp2
  go_ret
  exact ⟨yg.no fun q=>p1.o (Q0.o.1 q).1.1,World.grownBy.refl _ _⟩
 go_wp2_with fail
 refine (c2.o _).mono ?_
 rintro e V ⟨t,rfl⟩
 rcases t.split with ⟨rfl,p2⟩ | ⟨rfl,p2⟩ <;> clear t c2
 ·go_wp2
  go_ret
  exact ⟨yg.no fun q=>p2.o (Q0.o.1 q).1.2.1,World.grownBy.refl _ _⟩
 go_wp2_with fail
 refine (c3.o _).mono ?_
 rintro e V ⟨t,rfl⟩
 rcases t.split with ⟨rfl,p3⟩ | ⟨rfl,p3⟩ <;> clear t c3
 ·go_wp2
  go_ret
  exact ⟨yg.no fun q=>p3.o (Q0.o.1 q).1.2.2,World.grownBy.refl _ _⟩
 go_wp2_with fail
 refine (Tx g m V H.o HT.o).mono ?_
 rintro e V1 ⟨t,hg⟩
 have G1:=hid hg
 rcases t.split with ⟨rfl,p4⟩ | ⟨rfl,p4⟩ <;> clear t
 ·go_wp2
  go_ret
  exact ⟨yg.no fun q=>p4.o (Q0.o.1 q).2.1,G1.o⟩
 replace k0:=yd k0 hg
 clear hg k1 k2 k3
 go_wp2_with fail
 refine (Ma g m m.start V1 (H.o.kept G1.o) HT.o HT.o.start.1 HT.o.start.2).mono ?_
 rintro e V2 ⟨rfl,n,rfl⟩
 have GF:=hid (ye G1.o n)
 cases hc:(Im.code m m.start).isSome
 ·have N:=hid (show ¬ Q from fun q=>by have:=(Q0.o.1 q).2.2; rw [hc] at this; cases this)
  go_wp2
  go_ret
  exact ⟨yg.no N.o,GF.o⟩
 ·have N:=hid (show Q from Q0.o.2 ⟨⟨p1.o,p2.o,p3.o⟩,p4.o,hc⟩)
  go_wp2
  go_ret
  exact ⟨yg.yes N.o,GF.o⟩
section
variable {P:Program} (w:World)
end
namespace Im
def Clear (a:Int) (n:Int):Prop:=(4096<=a/\a < 1073741824)/\a+4 * n<=1073741824/\a % 16=0
instance (a n:Int):Decidable (Clear a n):=by unfold Clear; infer_instance
instance (a b c d:Int):Decidable (jN a b c d):=by unfold jN; infer_instance
end Im
theorem Un {w a c:World} {row:Option Nat} (h:w.grownBy a none) (k:a.grownBy c row) (hb:∀ b,row=some b->w.heap.size<=b):w.grownBy c none :=
 ⟨k.os.trans h.os,k.tape.trans h.tape,k.output.trans h.output,Nat.le_trans h.size k.size,fun i hi _ =>
  (k.block i (Nat.lt_of_lt_of_le hi h.size) (fun e=>by have:=hb i e.symm; omega)).trans (h.block i hi (by simp))⟩
section
variable {w wr w3:World} {l:List UInt8} {g nt nf k:Nat} {a0 a1 a2 a3:Int} {vT vF vD v':Value} {B1 B2:Nat} {ob:Obj}
end
theorem Lu (l:List UInt8) (p:Nat):0<=dA l p 4/\dA l p 4 < 4294967296:=by have:=PU l p 4; simpa using this
theorem ymx (l:List UInt8):Im.jq (Im.dV l):=by
 have h:=Im.Fp l
 have h2:=Im.jA l 24
 refine ⟨Lu l 2,Lu l 6,Lu l 10,Lu l 14,⟨?_,?_,?_⟩,?_⟩
 ·simp only [Im.dV,Im.gL]; omega
 ·simp only [Im.dV,Im.gL]; omega
 ·simp only [Im.dV,Im.gL]; omega
 ·simp only [Im.dV]; omega
theorem ylp (l:List UInt8) (a b:UInt8) (h:(Lk.aD l 2 (0,false)).1=[a,b]):(Lk.aD l 2 (0,false)).2=(2,false)/\2<=l.length/\l.take 2=[a,b]:=by
 unfold Lk.aD at h ⊢
 simp only [Nat.sub_zero,List.drop_zero,Nat.zero_add] at h ⊢
 split at h
 ·rename_i hl
  rw [if_pos hl]
  exact ⟨rfl,hl,h⟩
 ·cases h
theorem yli (l:List UInt8) (a b:UInt8) (h:l.take 2=[a,b]):(Lk.aD l 2 (0,false)).1=[a,b]:=by
 unfold Lk.aD
 simp only [Nat.sub_zero,List.drop_zero]
 have:2<=l.length:=by have:=congrArg List.length h; simp at this; omega
 rw [if_pos this]
 exact h
def yqi (s:ByteArray) (e:Ending) (w':World):Prop :=
 (Im.jH (sl s)/\∃ g,e = .returned (.tuple #[.pointer (some ⟨g,0,none⟩),.int .i64 0])/\lK w' g (Im.dV (sl s))) \/
 (¬ Im.jH (sl s)/\e = .returned (.tuple #[.pointer none,.int .i64 23]))
theorem ylc (s:ByteArray) (w:World) (hs:s.size<=1048576) :
  Calls Tryz.prog 29 #[.string s] w fun e w'=>yqi s e w'/\w.grownBy w' none:=by
 have hsz:=yr s
 have TM:=hid (ymx (sl s))
 go_enter Tryz.func29,Tryz.ntmps29
 go_wp2_with fail
 refine (OH s w).mono ?_
 rintro e W1 ⟨rfl,g1⟩
 have R:aZ (W1.alloc (.cells #[.string s,.int .i64 0,.bool false] 83)) W1.heap.size s 0 false:=heap_alloc_new W1 _
 have HR:=hid R
 have G1:=hid g1
 have GA:=hid (aH W1 (.cells #[.string s,.int .i64 0,.bool false] 83) none)
 have hz:=hid g1.size
 clear R g1
 by_cases hm:(Lk.aD (sl s) 2 (0,false)).1=[73,77]
 ·have cR:=hid (ZQ W1.heap.size s 0 false _ HR.o hs (Nat.zero_le _) hm)
  obtain ⟨m1,m2,m3⟩:=ylp _ _ _ hm
  rw [m1] at cR
  have FU:=hid (fun h:Im.Full (sl s)=>Im.uK (sl s) h)
  have ON:=hid (Im.uL (sl s) m2)
  have IS:=hid (show Im.jH (sl s)↔Im.Full (sl s)/\Im.lM (Im.dV (sl s)) from ⟨fun q=>q.2,fun q=>⟨m3,q⟩⟩)
  generalize Im.mM (sl s) (2,false)=X at *
  obtain ⟨m,p',s'⟩:=X
  simp only at cR ON FU
  clear hm m1 m2 m3
  go_wp2_with fail
  refine cR.o.mono ?_
  rintro e W2 ⟨g,rfl,hg,Jr,hrd,hgr⟩
  have QZ:=hid Jr
  have Bw:=hid hrd
  have GR:=hid hgr
  clear Jr hrd hgr hg cR
  have cD:=hid (PZ W1.heap.size s p' s' W2 Bw.o)
  go_wp2_with fail
  refine cD.o.mono ?_
  rintro e W3 ⟨rfl,kd,rfl⟩
  have GF:=hid (ye (Un (ya G1.o GA.o) GR.o (by intro b e; simp at e; have:=hz.o; omega)) kd)
  clear cD
  by_cases hd:s'=false/\p'=s.size
  ·obtain ⟨rfl,rfl⟩:=hd
   have hfu:=ON.o (by rw [hsz])
   have HF:=hid hfu
   have hmm:m=Im.dV (sl s):=congrArg Prod.fst (FU.o hfu)
   subst hmm
   have cV:=hid (yjK g (Im.dV (sl s)) (W2.drewN kd) (QZ.o.kept (ye (World.grownBy.refl _ _) kd)) TM.o)
   have dd:(!false && decide (s.size=s.size))=true:=by simp
   clear hfu hsz
   go_wp2_with fail
   refine cV.o.mono ?_
   rintro e W4 ⟨t,q⟩
   have GQ:=hid (ya GF.o q)
   have M8:=hid (QZ.o.kept (ya (ye (World.grownBy.refl _ _) kd) q))
   rcases t.split with ⟨rfl,pv⟩ | ⟨rfl,pv⟩ <;> clear t q cV
   ·go_wp2
    go_ret2
    exact ⟨.inr ⟨fun q=>pv.o (IS.o.1 q).2,rfl⟩,GQ.o⟩
   ·go_wp2
    go_ret2
    exact ⟨.inl ⟨IS.o.2 ⟨HF.o,pv.o⟩,g,rfl,M8.o⟩,GQ.o⟩
  ·have N:=hid (show ¬ Im.jH (sl s) from fun q=>by
    have:=congrArg Prod.snd (FU.o (IS.o.1 q).1)
    simp only [Prod.mk.injEq] at this
    exact hd ⟨this.2,by rw [<- hsz]; exact this.1⟩)
   have dd:(!s' && decide (p'=s.size))=false:=by
    cases s'
    ·simp at hd ⊢; exact hd
    ·rfl
   clear hsz hd
   go_wp2
   go_ret2
   exact ⟨.inr ⟨N.o,rfl⟩,GF.o⟩
 ·have cR:=hid (yki W1.heap.size s 0 false _ HR.o hs (Nat.zero_le _) hm)
  have N:=hid (show ¬ Im.jH (sl s) from fun q=>hm (yli _ _ _ q.1))
  clear hm
  go_wp2_with fail
  refine cR.o.mono ?_
  rintro e W2 ⟨rfl,hgr⟩
  have GR:=hid hgr
  clear hgr cR
  go_wp2
  go_ret2
  exact ⟨.inr ⟨N.o,rfl⟩,Un (ya G1.o GA.o) GR.o (by intro b e; simp at e; have:=hz.o; omega)⟩
def yrb (W:World) (x:Nat) (m:Im.dK):Prop:=∃ g,yc W x #[.pointer (some ⟨g,0,none⟩)] 59/\lK W g m
def WW (s:ByteArray) (e:Ending) (w':World):Prop :=
 (Im.jH (sl s)/\∃ x,e = .returned (.tuple #[.pointer (some ⟨x,0,none⟩),.int .i64 0])/\yrb w' x (Im.dV (sl s))) \/
 (¬ Im.jH (sl s)/\e = .returned (.tuple #[.pointer none,.int .i64 23]))
theorem ynL (s:ByteArray) (w:World) (hs:s.size<=1048576) :
  Calls Tryz.prog 24 #[.string s] w fun e w'=>WW s e w'/\w.grownBy w' none:=by
 have cR:=hid (ylc s w hs)
 go_enter Tryz.func24,Tryz.ntmps24
 go_wp2_with fail
 refine cR.o.mono ?_
 rintro e W1 ⟨hr,hg⟩
 have G:=hid hg
 clear hg cR
 rcases hr with ⟨q,g,rfl,hi⟩ | ⟨q,rfl⟩
 ·have Q:=hid q
  have HI:=hid hi
  clear q hi
  go_wp2
  go_ret2
  have GA:=aH W1 (.cells #[.pointer (some ⟨g,0,none⟩)] 59) none
  exact ⟨.inl ⟨Q.o,W1.heap.size,rfl,g,yc.new _ _ _,HI.o.kept GA⟩,ya G.o GA⟩
 ·have Q:=hid q
  clear q
  go_wp2
  go_ret2
  exact ⟨.inr ⟨Q.o,rfl⟩,G.o⟩
set_option maxRecDepth 100000 in
theorem ZJ (g:Nat) (m:Im.dK) (w:World) (hI:lK w g m) (hT:Im.jq m) :
  Calls Tryz.prog 47 #[.pointer (some ⟨g,0,none⟩)] w fun e w'=>∃ v,e = .returned v/\w'.ownsRow w.heap.size 3 1 v (m.D.length+m.noughts.toNat) ((m.D ++ List.replicate m.noughts.toNat 0).map (Value.int .i64))/\w.grownBy w' none:=by
 obtain ⟨i0,hi,hz0,hz1,hz2⟩:=info_parts Tryz.kg
 obtain ⟨a1,t1,a2,t2,ad,cd,hb,-,-,q3⟩:=hI.open
 have HB:=hid hb
 have DI:=hid (yz.aR q3)
 have hcap:=pW q3
 have hl:=hT.lens.2.2
 have hn:=hT.noughts
 have k6:=hb.cell 6
 simp only [bC,bG,bE] at k6
 clear hI hT hb q3
 obtain ⟨nb,hnb⟩:=Int.eq_ofNat_of_zero_le hn.1
 have Rc:=hid hnb
 rw [hnb]
 simp only [Int.toNat_natCast]
 go_enter Tryz.func47,Tryz.ntmps47
 go_wp2
 clear k6
 go_loopw [3,12] (fun v i wr=>∃ k:Nat,k<=m.D.length/\i = .int .i64 k/\wr.ownsRow w.heap.size 3 1 v k ((m.D.take k).map (Value.int .i64))/\w.grownBy wr none) (fun _ i _=>m.D.length - (intOf i).toNat)
 case atStart=>exact ⟨0,Nat.zero_le _,rfl,World.ownsRow_nil _ _ _ _,World.grownBy.refl _ _⟩
 case round =>
  obtain ⟨k,hk,rfl,hown,hgr⟩:=hrel
  obtain ⟨av,cv,rfl⟩:=yh hown
  have HG:=hid hgr
  have hsz:=hgr.size
  by_cases hlt:k < m.D.length
  ·obtain ⟨sg,off,rfl,hcells⟩:=DI.o.kept (fun a v e=>yd e hgr) (by omega)
   have ck:=hcells k hlt
   clear hcells hgr
   have E:=hid (show (m.D.take (k+1)).map (Value.int .i64)=(m.D.take k).map (Value.int .i64) ++ [.int .i64 m.D[k]] by rw [List.take_succ_eq_append_getElem hlt,List.map_append]; rfl)
   have g1:(k:Int) < (m.D.length:Int):=by omega
   generalize m.D[k]=x at *
   go_wp2_with (at_builtin; refine wpList_append_own _ rfl _ _ 35 rfl w.heap.size 3 i0 (.int .i64 0) 1 8 Tryz.underlying35 hi hz0 hz1 hz2 rfl (by decide) _ _ _ rfl (hown.alloc _) ⟨wr.heap.size,0,none⟩ 1 1 [.int .i64 x] rfl rfl (cell_one_new _ _ _) (by intro u hu; simp at hu; subst hu; rfl) (by unfold maxLen; omega) (by omega) (by simp; omega) ?_; intro v' w3 hown' hgrow _; obtain ⟨mZ,cv',rfl⟩:=yh hown'; have K:=hid hown'; have GK:=hid (yN (ya HG.o (aH _ _ _)) hgrow (fun b hb=>(hown.lt b hb).1)); clear hgrow hown')
   go_wp2
   go_roundw
   case rel=>exact ⟨k+1,by omega,by go_num,by rw [E.o]; exact K.o,GK.o⟩
   case measure=>simp [intOf]; omega
  ·obtain rfl:k=m.D.length:=by omega
   have g0:decide ((m.D.length:Int) < (m.D.length:Int))=false:=by simp
   rw [List.take_length] at hown
   have HO:=hid hown
   clear hown hgr
   obtain ⟨U,hU⟩:∃ U:World,U=wr:=⟨_,rfl⟩
   subst hU
   go_wp2
   go_loopw [3,6] (fun v i wr=>∃ k:Nat,k<=nb/\i = .int .i64 k/\wr.ownsRow w.heap.size 3 1 v (m.D.length+k) ((m.D ++ List.replicate k 0).map (Value.int .i64))/\w.grownBy wr none) (fun _ i _=>nb - (intOf i).toNat)
   case atStart=>exact ⟨0,Nat.zero_le _,rfl,by simpa using HO.o,HG.o⟩
   case round =>
    obtain ⟨k,hk2,rfl,hown,hgr⟩:=hrel
    obtain ⟨Nr,Nu,rfl⟩:=yh hown
    have HG2:=hid hgr
    have hsz2:=hgr.size
    have k7:=(HB.o.grown hgr (by simp)).cell 7
    simp only [bC,bG,bE] at k7
    rw [Rc.o] at k7
    clear hgr
    have Yy:nb<=65535:=by have:=Rc.o; omega
    by_cases hlt2:k < nb
    ·have g1:(k:Int) < (nb:Int):=by omega
     have E:=hid (show (m.D ++ List.replicate (k+1) 0).map (Value.int .i64)=(m.D ++ List.replicate k 0).map (Value.int .i64) ++ [.int .i64 0] by simp [List.replicate_succ'])
     go_wp2_with (at_builtin; refine wpList_append_own _ rfl _ _ 35 rfl w.heap.size 3 i0 (.int .i64 0) 1 8 Tryz.underlying35 hi hz0 hz1 hz2 rfl (by decide) _ _ _ rfl (hown.alloc _) ⟨wr.heap.size,0,none⟩ 1 1 [.int .i64 0] rfl rfl (cell_one_new _ _ _) (by intro u hu; simp at hu; subst hu; rfl) (by unfold maxLen; omega) (by omega) (by simp; omega) ?_; intro v' w3 hown' hgrow _; obtain ⟨mZ,cv',rfl⟩:=yh hown'; have K:=hid hown'; have GK:=hid (yN (ya HG2.o (aH _ _ _)) hgrow (fun b hb=>(hown.lt b hb).1)); clear hgrow hown')
     go_wp2
     go_roundw
     case rel=>exact ⟨k+1,by omega,by go_num,by rw [E.o]; exact K.o,GK.o⟩
     case measure=>simp [intOf]; omega
    ·obtain rfl:k=nb:=by omega
     have AU:=hid hown
     clear hown
     have g2:decide ((k:Int) < (k:Int))=false:=by simp
     go_wp2
     go_ret
     exact ⟨_,rfl,AU.o,HG2.o⟩
section
variable {P:Program} (w:World)
theorem ylw (t:TypeId) (b:Nat) (e:TypeId) (cur:Array Value) (V:Value) (i:TypeInfo) (hi:P.info? t=some i) (hsz:V.cells.size=i.size) (hb:w.heap[b]?=some (.cells cur e (0,0))) (hcur:cur.size=V.cells.size) (h1:∀ u∈V.cells.toList,u.oneCell'=true) :
  (Instr.storeAt t (.pointer (some ⟨b,0,none⟩)) V).run P w = .ok () (w.setRow b V.cells):=by
 have hst:=run_storeCells_at P b 0 e V.cells.toList 0 cur w hb (by simp; omega) h1
 have e1:(cur.toList.take (0+0) ++ V.cells.toList ++ cur.toList.drop (0+0+V.cells.toList.length)).toArray=V.cells:=by
  have:cur.toList.drop V.cells.size=[]:=List.drop_eq_nil_of_le (by simp; omega)
  simp [this]
 rw [e1] at hst
 simp [Instr.storeAt,storeVar,Instr.sureAddr,sizeOf,typeInfo,hi,hsz,hst]
theorem TD {o:Oper} {a:Act} {K:Act->World->Prop} {Q:Exit->Act->World->Prop} (t:TypeId) (p x:Operand) (ho:o.op = .store t p x) (b:Nat) (e:TypeId) (cur:Array Value) (hp:a.eval p = .pointer (some ⟨b,0,none⟩)) (V:Value) (hv:a.eval x=V)
  (i:TypeInfo) (hi:P.info? t=some i) (hsz:V.cells.size=i.size) (hb:w.heap[b]?=some (.cells cur e (0,0))) (hcur:cur.size=V.cells.size) (h1:∀ u∈V.cells.toList,u.oneCell'=true) (h:K (a.put o.dst undef) (w.setRow b V.cells)):o.wp P a w K Q:=by
 have hr:=ylw (P:=P) w t b e cur V i hi hsz hb hcur h1
 unfold Oper.wp execOp
 simp only [ho,hp,hv,Sem.run_bind,Sem.run_pure,Result.andThen_ok,hr]
 unfold Oper.upon
 exact h
end
end Go.Proofs.YtpgklkhgfcjceaaGreatDoor
