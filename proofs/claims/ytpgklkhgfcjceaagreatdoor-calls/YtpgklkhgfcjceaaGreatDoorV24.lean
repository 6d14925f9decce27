
import Derived.Test.YtpgklkhgfcjceaaGreatDoorV23
import Derived.Laws.AppendOwn
import Derived.Deep.RegionHeld3
import Derived.Laws.CopyRow
set_option maxHeartbeats 16000000
namespace Go.Proofs.YtpgklkhgfcjceaaGreatDoor
namespace As
structure Tm (o:Lk.Obj):Prop where
 text:o.text.length<=1200
 far:o.far.length<=1200
 data:o.data.length<=64
 bss:0<=o.bss/\o.bss<=64
 names:∀ y∈o.syms,y.name.length<=6
 ru:∀ r∈o.aj,r.off<=4800
theorem wN {o:Lk.Obj} (h:Tm o) (ah:Nat):bK o ah<=1200:=by
 have h1:=h.text
 have h2:=h.far
 have h3:=h.data
 have h4:=h.bss
 unfold bK
 repeat' split
 all_goals omega
theorem bN (e pos:Nat) (st:St):(refuse e pos st).obj=st.obj:=by unfold refuse; split <;> rfl
theorem iL (c:Bool) (e pos:Nat) (st:St):(aW c e pos st).obj=st.obj:=by unfold aW; split; exact bN _ _ _; rfl
theorem dD (s:List UInt8) (st:St):(advance s st).obj=st.obj:=by
 unfold advance
 split
 ·rfl
 split
 ·rfl
 ·rw [bN]
theorem kE (s:List UInt8) (st:St):(dP s st).2.obj=st.obj:=by
 unfold dP
 split
 ·exact dD s st
 ·rfl
theorem lM (t:Tok) (st:St):(bV t st).obj=st.obj:=by unfold bV; rw [iL,iL,iL]
theorem sS (s:List UInt8) (st:St):(name s st).2.obj=st.obj:=by
 unfold name
 split
 ·show (advance s _).obj=_; rw [dD,lM]
 ·exact bN _ _ _
theorem bQ (s c:List UInt8) (st:St):(sign s c st).obj=st.obj:=by
 unfold sign
 split
 ·exact dD s st
 ·exact bN _ _ _
theorem aQ (s:List UInt8) (st:St):(register s st).2.obj=st.obj:=by
 unfold register
 split
 ·split
  ·exact bN _ _ _
  ·exact dD _ _
 ·exact bN _ _ _
theorem kL (s:List UInt8) (neg:Bool) (pos:Nat) (lo hi:Int) (st:St):(bB s neg pos lo hi st).2.obj=st.obj:=by
 unfold bB
 generalize (if neg=true then -(st.tok.n:Int) else (st.tok.n:Int))=v
 split
 ·split
  ·exact bN _ _ _
  ·exact dD _ _
 ·exact bN _ _ _
theorem dY (s:List UInt8) (lo hi:Int) (st:St):(number s lo hi st).2.obj=st.obj:=by
 unfold number
 split
 ·rw [kL,dD]
 ·rw [kL]
theorem nA (s:List UInt8) (st:St):(place s st).2.obj=st.obj:=by
 unfold place; dsimp only
 rw [bQ,aQ,bQ,dY]
theorem qg (e pos:Nat) (he:e≠0) (st:St):failed (refuse e pos st)=true:=by
 unfold refuse
 split
 ·assumption
 ·simp [failed,he]
theorem nU (c:Bool) (e pos:Nat) (st:St) (h:failed (aW c e pos st)=false):failed st=false:=by
 unfold aW at h
 split at h
 ·unfold refuse at h
  split at h
  ·exact h
  ·rename_i hf; simpa using hf
 ·exact h
theorem sW (c:Bool) (e pos:Nat) (he:e≠0) (st:St) (h:failed (aW c e pos st)=false):c=false:=by
 unfold aW at h
 split at h
 ·rw [qg e pos he] at h; cases h
 ·rename_i hc; simpa using hc
theorem oM (s:List UInt8) (st:St) (h:failed (advance s st)=false):failed st=false:=by
 unfold advance at h
 split at h
 ·exact h
 ·rename_i hf; simpa using hf
theorem mD (t:Tok) (st:St) (h:failed (bV t st)=false):t.text.length<=6:=by
 unfold bV at h
 have:=sW _ _ _ (by decide) _ (nU _ _ _ _ h)
 simpa using this
theorem vw (s:List UInt8) (st:St) (h:failed (name s st).2=false):(name s st).1.text.length<=6:=by
 unfold name at h ⊢
 split at h
 ·rename_i hk
  rw [if_pos hk]
  exact mD _ _ (oM s _ h)
 ·rename_i hk
  rw [if_neg hk]
  exact Nat.zero_le _
theorem jE (t:Tok) (st:St) (h:Tm st.obj) (ht:failed st=false->t.text.length<=6):Tm (aS t st).2.obj:=by
 unfold aS
 split
 ·exact h
 rename_i hf
 have hf':failed st=false:=by simpa using hf
 split
 ·exact h
 split
 ·show Tm (refuse _ _ _).obj; rw [bN]; exact h
 ·refine ⟨h.text,h.far,h.data,h.bss,fun y hy=>?_,h.ru⟩
  rcases List.mem_append.1 hy with hy | hy
  ·exact h.names y hy
  ·simp at hy; subst hy; exact ht hf'
theorem mem_modify {α:Type} (l:List α) (i:Nat) (f:α->α) (y:α) (h:y∈l.modify i f):∃ x∈l,y=x\/y=f x:=by
 obtain ⟨j,hj,rfl⟩:=List.getElem_of_mem h
 rw [List.getElem_modify]
 refine ⟨l[j]'(by simpa using hj),List.getElem_mem _,?_⟩
 split
 ·exact .inr rfl
 ·exact .inl rfl
theorem qL (st:St) (i:Nat) (f:Lk.Sym->Lk.Sym) (h:Tm st.obj) (hf:∀ y,(f y).name=y.name):Tm (pF st i f).obj:=by
 refine ⟨h.text,h.far,h.data,h.bss,fun y hy=>?_,h.ru⟩
 obtain ⟨x,hx,rfl | rfl⟩:=mem_modify _ _ _ _ hy
 ·exact h.names _ hx
 ·rw [hf]; exact h.names _ hx
theorem zB (t:Tok) (st:St) (h:Tm st.obj):Tm (label t st).obj:=by
 unfold label; dsimp only
 have k:=jE t (bV t st) (by rw [lM]; exact h) (mD t st)
 split
 ·exact k
 split
 ·rw [bN]; exact k
 ·exact qL _ _ _ k fun _=>rfl
theorem BZ (s:List UInt8) (binding:Int) (st:St) (h:Tm st.obj):Tm (bind s binding st).obj:=by
 unfold bind; dsimp only
 have k:=jE (name s st).1 (name s st).2 (by rw [sS]; exact h) (vw s st)
 split
 ·exact k
 split
 ·rw [bN]; exact k
 ·exact qL _ _ _ k fun _=>rfl
theorem kY (s:List UInt8) (st:St) (h:Tm st.obj):Tm (symbol s st).2.obj:=jE (name s st).1 (name s st).2 (by rw [sS]; exact h) (vw s st)
theorem lg (s:List UInt8) (st:St) (h:Tm st.obj):Tm (target s st).2.obj:=by
 unfold target; dsimp only
 have k:=kY s st h
 split
 ·rw [dY,dD]; exact k
 split
 ·rw [dY,dD]; exact k
 ·exact k
theorem sI (o:Lk.Obj) (ah:Nat) (ws:List Int) (h:Tm o) (hl:¬ 4 * limit ah < 4 * bK o ah+4 * (ws.length:Int)):Tm (aI o ah ws):=by
 unfold limit bK at hl
 have h4:=h.bss
 unfold aI
 split
 ·rename_i e; subst e
  simp at hl
  exact ⟨by simp; omega,h.far,h.data,h.bss,h.names,h.ru⟩
 split
 ·rename_i e; subst e
  simp at hl
  exact ⟨h.text,by simp; omega,h.data,h.bss,h.names,h.ru⟩
 split
 ·rename_i e; subst e
  simp at hl
  exact ⟨h.text,h.far,by simp; omega,h.bss,h.names,h.ru⟩
 split
 ·rename_i e; subst e
  simp at hl
  exact ⟨h.text,h.far,h.data,by simp; omega,h.names,h.ru⟩
 ·exact h
theorem nu (ws:List Int) (st:St) (h:Tm st.obj):Tm (lay ws st).obj:=by
 unfold lay
 split
 ·rw [bN]; exact h
 split
 ·exact h
 ·rename_i hl _
  exact sI _ _ _ h hl
theorem iV (kind:Int) (sym:Nat) (addend:Int) (ws:List Int) (st:St) (h:Tm st.obj):Tm (dS kind sym addend ws st).obj:=by
 unfold dS; dsimp only
 have k:Tm (aW (decide (32<=st.obj.aj.length)) 12 st.op.pos st).obj:=by rw [iL]; exact h
 split
 ·exact k
 ·refine nu _ _ ⟨k.text,k.far,k.data,k.bss,k.names,fun r hr=>?_⟩
  rcases List.mem_append.1 hr with hr | hr
  ·exact k.ru r hr
  ·simp at hr; subst hr
   have:=wN k (aW (decide (32<=st.obj.aj.length)) 12 st.op.pos st).ah
   show 4 * _<=(4800:Int)
   omega
theorem fC (op rd au aC:Nat) (n:Int) (st:St) (h:Tm st.obj):Tm (dw op rd au aC n st).obj:=nu _ _ h
theorem jN (reg op rd au aC:Nat) (n:Int) (sym:Nat) (addend:Int) (st:St) (h:Tm st.obj):Tm (fq reg op rd au aC n sym addend st).obj:=by
 unfold fq
 exact iV _ _ _ _ _ (by rw [iL]; exact h)
theorem eu {c:Prop} [Decidable c] {a b:St} (ha:Tm a.obj) (hb:Tm b.obj):Tm (if c then a else b).obj:=by
 by_cases h:c
 ·rw [if_pos h]; exact ha
 ·rw [if_neg h]; exact hb
section
variable (s:List UInt8) (op:Nat) (st:St) (h:Tm st.obj)
include h
theorem rJ:Tm (gK s op st).obj:=by unfold gK; dsimp only; refine fC _ _ _ _ _ _ ?_; rw [aQ,bQ,aQ,bQ,aQ]; exact h
theorem qp:Tm (fO s op st).obj:=by unfold fO; dsimp only; refine fC _ _ _ _ _ _ ?_; rw [dY,bQ,aQ,bQ,aQ]; exact h
theorem Af:Tm (upper s st).obj:=by unfold upper; dsimp only; refine fC _ _ _ _ _ _ ?_; rw [dY,bQ,aQ]; exact h
theorem Cx:Tm (load s st).obj:=by
 unfold load; dsimp only
 refine eu ?_ ?_
 ·refine jN _ _ _ _ _ _ _ _ _ (lg s _ ?_); rw [bQ,aQ]; exact h
 ·refine fC _ _ _ _ _ _ ?_; rw [nA,bQ,aQ]; exact h
theorem Aa:Tm (store s st).obj:=by
 unfold store; dsimp only
 refine eu ?_ ?_
 ·refine jN _ _ _ _ _ _ _ _ _ ?_; rw [aQ,bQ]; refine lg s _ ?_; rw [bQ,aQ]; exact h
 ·refine fC _ _ _ _ _ _ ?_; rw [nA,bQ,aQ]; exact h
theorem nV:Tm (dR s st).obj:=by unfold dR; dsimp only; refine fC _ _ _ _ _ _ ?_; rw [nA,bQ,aQ]; exact h
theorem BS:Tm (bare st).obj:=by
 unfold bare
 exact eu (fC _ _ _ _ _ _ h) (eu (fC _ _ _ _ _ _ h) (eu (fC _ _ _ _ _ _ h) h))
theorem wz:Tm (branch s op st).obj:=by unfold branch; dsimp only; refine iV _ _ _ _ _ (kY s _ ?_); rw [bQ,aQ,bQ,aQ]; exact h
theorem oQ (rd:Nat):Tm (iH s rd st).obj:=by unfold iH; dsimp only; exact iV _ _ _ _ _ (kY s _ h)
theorem Cz:Tm (move s st).obj:=by unfold move; dsimp only; refine fC _ _ _ _ _ _ ?_; rw [aQ,bQ,aQ]; exact h
theorem qj:Tm (fJ s st).obj:=by
 unfold fJ; dsimp only
 refine eu ?_ ?_
 ·refine fC _ _ _ _ _ _ ?_; rw [dY,bQ,aQ]; exact h
 ·refine nu _ _ ?_; rw [dY,bQ,aQ]; exact h
theorem Ce:Tm (call s st).obj:=by unfold call; dsimp only; exact iV _ _ _ _ _ (kY s _ h)
theorem oV:Tm (eO s st).obj:=by unfold eO; dsimp only; refine jN _ _ _ _ _ _ _ _ _ (lg s _ ?_); rw [bQ,aQ]; exact h
end
theorem sP (s:List UInt8) (st:St) (h:Tm st.obj):Tm (iG s st).obj:=by unfold iG; dsimp only; refine oQ s _ ?_ _; rw [bQ,aQ]; exact h
theorem oO (s:List UInt8) (shape op:Nat) (st:St) (h:Tm st.obj):Tm (instruction s shape op st).obj:=by
 unfold instruction
 exact eu (rJ s op st h) (eu (qp s op st h) (eu (Af s st h) (eu (Cx s st h) (eu (Aa s st h) (eu (nV s st h) (eu (BS st h) (eu (wz s op st h) (eu (sP s st h) (eu (oQ s st h 0) (eu (Cz s st h) (eu (qj s st h) (eu (Ce s st h) (eu (oV s st h) h)))))))))))))
theorem sZ (st:St):(iN st).obj=st.obj:=by unfold iN; (repeat' split) <;> rfl
theorem qQ (s:List UInt8) (shape:Nat) (st:St) (h:Tm st.obj):Tm (directive s shape st).obj:=by
 unfold directive
 split
 ·rw [sZ]; exact h
 split
 ·unfold word; dsimp only
  split
  ·exact iV _ _ _ _ _ (lg s _ h)
  ·refine nu _ _ ?_; rw [dY]; exact h
 split
 ·unfold space; dsimp only
  split
  ·refine nu _ _ ?_; rw [dY]; exact h
  ·rw [bN,dY]; exact h
 split
 ·unfold align; dsimp only
  have k:Tm (number s 2 4 st).2.obj:=by rw [dY]; exact h
  split
  ·exact k
  ·have k2:Tm (dH (2 ^ (number s 2 4 st).1.toNat) (number s 2 4 st).2).obj:=by
    unfold dH
    split
    ·split
     ·exact iV _ _ _ _ _ k
     ·exact k
    ·exact nu _ _ k
   unfold dF
   split
   ·exact ⟨k2.text,k2.far,k2.data,k2.bss,k2.names,k2.ru⟩
   ·exact k2
 split
 ·unfold binding; exact BZ s _ _ h
 ·exact h
theorem rz (s:List UInt8) (t:Tok) (st:St) (h:Tm st.obj):Tm (operation s t st).obj:=by
 unfold operation
 split
 ·rw [bN]; exact h
 split
 ·rw [bN]; exact h
 split
 ·exact oO s _ _ _ h
 ·exact qQ s _ _ h
theorem qG (s:List UInt8) (t:Tok) (st:St) (h:Tm st.obj):Tm (jO s t st).obj:=by
 unfold jO; dsimp only
 have k:Tm (if t.kind == 1 then operation s t st else st).obj:=eu (rz s t st h) h
 exact eu k (by rw [bN]; exact k)
theorem Cv (s:List UInt8) (st:St) (h:Tm st.obj):Tm (line s st).obj:=by
 unfold line; dsimp only
 split
 ·refine qG s _ _ ?_
  rw [kE,dD]
  refine zB _ _ ?_
  rw [kE,dD]; exact h
 ·refine qG s _ _ ?_
  rw [kE,dD]; exact h
theorem qY (s:List UInt8) (st:St):(dN s st).2.obj=st.obj:=by unfold dN; split <;> rfl
theorem zF (s:List UInt8) (n:Nat) (st:St) (h:Tm st.obj):Tm (lines s n st).obj:=by
 induction n generalizing st with
 | zero=>exact h
 | succ n ih =>
  unfold lines; dsimp only
  have k:Tm (dN s (line s st)).2.obj:=by rw [qY]; exact Cv s st h
  split
  ·exact ih _ k
  ·exact k
theorem zY:Tm start.obj:=⟨by decide,by decide,by decide,by decide,by simp [start],by simp [start]⟩
end As
end Go.Proofs.YtpgklkhgfcjceaaGreatDoor

namespace Go.Proofs.YtpgklkhgfcjceaaGreatDoor
open Go.RowKit
theorem ypZ (g:Nat) (o:Lk.Obj) (w:World) (ht:dz w) (h:yu w g o) (hn:jo o) (hv:¬ yw o) :
  Calls Tryz.prog 36 #[.pointer (some ⟨g,0,none⟩)] w fun e w'=>e = .returned (.tuple #[.string ⟨#[]⟩,.int .i64 20])/\w.grownBy w' none:=by
 have cV:=hid (Pp g o w ht h hn)
 have HV:=hid hv
 clear ht h hv hn
 go_enter Tryz.func36,Tryz.ntmps36
 go_wp2_with fail
 refine cV.o.mono ?_
 rintro e W1 ⟨tv,q1⟩
 rcases tv.split with ⟨rfl,_⟩ | ⟨_,p⟩
 ·have Q:=hid q1
  clear q1
  go_wp2
  go_ret2
  exact ⟨rfl,Q.o⟩
 ·exact absurd p.o HV.o
theorem ynk (g:Nat) (o:Lk.Obj) (w:World) (ht:dz w) (h:yu w g o) (hn:jo o) :
  Calls Tryz.prog 36 #[.pointer (some ⟨g,0,none⟩)] w fun e w'=>((e = .returned (.tuple #[.string (bs (Lk.iY o)),.int .i64 0])/\yw o)\/(e = .returned (.tuple #[.string (bs []),.int .i64 20])/\¬ yw o))/\w.grownBy w' none:=by
 by_cases hv:yw o
 ·exact (yoI g o w ht h (Ho hv) hv).mono fun e w' k=>⟨.inl ⟨k.1,hv⟩,k.2⟩
 ·exact (ypZ g o w ht h hn hv).mono fun e w' k=>⟨.inr ⟨k.1,hv⟩,k.2⟩
def Told (s t:List UInt8) (fe fa:Nat):Prop :=
 ((As.assemble s).1.1≠0/\t=[]/\fe=(As.assemble s).1.1/\fa=(As.assemble s).1.2) \/
 ((As.assemble s).1.1=0/\yw (As.assemble s).2/\t=Lk.iY (As.assemble s).2/\fe=0/\fa=0) \/
 ((As.assemble s).1.1=0/\¬ yw (As.assemble s).2/\t=[]/\fe=20/\fa=0)
def vR (fe fa:Nat):Value:=.agg #[.int .i64 fe,.int .i64 fa,.string ⟨#[]⟩]
def tX (fe fa:Nat):Array Value:=#[.int .i64 fe,.int .i64 fa,.string ⟨#[]⟩]
def BJ (s:ByteArray) (w:World):World :=
 (((w.alloc (.cells (tX 0 0) 45)).alloc (.cells (yE s (w.heap.size+1+1+1) As.start) 67)).alloc (.cells #[.int .i64 2,.int .i64 2,.int .i64 2,.int .i64 2] 3)).alloc
  (.cells #[.slice none 0 0,.slice none 0 0,.slice none 0 0,.int .i64 0,.slice (some ⟨w.heap.size+1+1,0,none⟩) 4 4,.slice none 0 0,.slice none 0 0] 71)
theorem Uj (s:ByteArray) (w:World):w.grownBy (BJ s w) none :=
 ya (ya (ya (aH _ _ _) (aH _ _ _)) (aH _ _ _)) (aH _ _ _)
theorem ymk (s:ByteArray) (w:World):yc (BJ s w) w.heap.size (tX 0 0) 45 :=
 (yc.new w (tX 0 0) 45).grown (ya (ya (aH _ _ none) (aH _ _ none)) (aH _ _ none)) (by simp)
theorem Bb (w:World) (o:Obj):(w.alloc o).heap.size=w.heap.size+1:=Array.size_push _
theorem ypM (s:ByteArray) (hs:s.size<=1000):jm s As.start :=
 ⟨hs,Nat.zero_le _,G8,by decide,by decide,G8,by decide,by decide,by decide,by decide,by decide,by decide,by decide,by decide⟩
theorem yqm (s:ByteArray) (w:World) (ht:dz w) (hB:3<=w.heap.size) (hs:s.size<=1000) :
  yl w.heap.size s (w.heap.size+1) (w.heap.size+1+1+1) As.start (BJ s w):=by
 have b1:=yc.new (w.alloc (.cells (tX 0 0) 45)) (yE s (w.heap.size+1+1+1) As.start) 67
 have b2:=yc.new ((w.alloc (.cells (tX 0 0) 45)).alloc (.cells (yE s (w.heap.size+1+1+1) As.start) 67)) #[.int .i64 2,.int .i64 2,.int .i64 2,.int .i64 2] 3
 have b3:=yc.new (((w.alloc (.cells (tX 0 0) 45)).alloc (.cells (yE s (w.heap.size+1+1+1) As.start) 67)).alloc (.cells #[.int .i64 2,.int .i64 2,.int .i64 2,.int .i64 2] 3)) #[.slice none 0 0,.slice none 0 0,.slice none 0 0,.int .i64 0,.slice (some ⟨w.heap.size+1+1,0,none⟩) 4 4,.slice none 0 0,.slice none 0 0] 71
 rw [Bb] at b1
 rw [Bb,Bb] at b2
 rw [Bb,Bb,Bb] at b3
 refine ⟨b1.grown (ya (aH _ _ none) (aH _ _ none)) (by simp),⟨.slice none 0 0,.slice none 0 0,.slice none 0 0,.slice (some ⟨w.heap.size+1+1,0,none⟩) 4 4,.slice none 0 0,.slice none 0 0,?_⟩,⟨hB,by omega,by omega,by omega⟩,ypM s hs,ht.grown (Uj s w)⟩
 refine ⟨b3,World.ownsRow_nil _ _ _ _,World.ownsRow_nil _ _ _ _,World.ownsRow_nil _ _ _ _,⟨rfl,.inr ⟨w.heap.size+1+1,4,#[.int .i64 2,.int .i64 2,.int .i64 2,.int .i64 2],rfl,by omega,b2.grown (aH _ _ none) (by simp),Nat.le_refl 4,by decide,rfl,rfl⟩⟩,World.ownsRow_nil _ _ _ _,World.ownsRow_nil _ _ _ _,?_⟩
 unfold Av jf Value.ownBlock
 simp
 omega
theorem Pf {w W V:World} (h:w.grownBy W none) (hb:Below w.heap.size W V):w.grownBy V none :=
 ⟨hb.os.trans h.os,hb.tape.trans h.tape,hb.output.trans h.output,Nat.le_trans h.size hb.size,fun i hi _=>(hb.block i hi).trans (h.block i hi (by simp))⟩
theorem Ma {w V:World} (h:w.grownBy V none) (r:Nat) (hr:w.heap.size<=r) (l:List (Nat×Value)):w.grownBy (sets V r l) none:=by
 have g:=A9 V r l
 exact ⟨g.os.trans h.os,g.tape.trans h.tape,g.output.trans h.output,Nat.le_trans h.size g.size,fun i hi _=>(g.block i (Nat.lt_of_lt_of_le hi h.size) (by simp; omega)).trans (h.block i hi (by simp))⟩
theorem yoe {rs:List Lk.Rel} {r:Lk.Rel} (h:r∈As.gI rs):r∈rs:=by
 unfold As.gI at h
 simp only [List.mem_append,List.mem_filter] at h
 rcases h with (h | h) | h <;> exact h.1
theorem yla {s:ByteArray} {st:As.St} (hok:jm s st) (h:As.Tm st.obj):jo (As.finish st.obj):=by
 have h1:=hok.syms
 have h2:=hok.aj
 have h3:=hok.align
 have h4:=VE st.obj.aj
 refine ⟨⟨?_,?_,?_,?_,?_,?_⟩,fun y hy=>?_,fun r hr=>?_⟩
 ·have:=h.text; show st.obj.text.length<=_; omega
 ·have:=h.far; show st.obj.far.length<=_; omega
 ·have:=h.data; show st.obj.data.length<=_; omega
 ·show st.obj.align.length<=_; omega
 ·show (As.jS st.obj.syms).length<=_; simp [As.jS]; omega
 ·show (As.gI st.obj.aj).length<=_; omega
 ·obtain ⟨x,hx,rfl⟩:=List.mem_map.1 hy
  have:=h.names x hx
  split <;> simp <;> omega
 ·have:=h.ru r (yoe hr); omega
def yra (s:ByteArray) (w:World) (m:Value) (wr:World):Prop :=
 ∃ st:As.St,Does w.heap.size s (w.heap.size+1) (w.heap.size+1+1+1) (BJ s w) st wr /\
  ((m = .bool true/\∃ n,As.lines (sl s) (s.size+1) As.start=As.lines (sl s) n st/\s.size - st.p+1<=n)\/(m = .bool false/\As.lines (sl s) (s.size+1) As.start=st))
def QA (s:ByteArray) (w:World) (m:Value) (wr:World):Nat:=match m with
 | .bool true=>s.size - AA (w.heap.size+1) wr+1
 | _=>0
theorem yl.pos {B:Nat} {s:ByteArray} {b g:Nat} {st:As.St} {W:World} (h:yl B s b g st W):AA b W=st.p:=by
 have:=yL h 1
 simp only [yE,bC,bG,bE] at this
 unfold AA
 rw [this]
 simp
set_option maxRecDepth 100000 in
theorem yjp (s:ByteArray) (w:World) (ht:dz w) (hN:mh w) (hB:3<=w.heap.size) :
  Calls Tryz.prog 27 #[.string s] w fun e w'=>(∃ t fe fa,e = .returned (.tuple #[.string (bs t),vR fe fa])/\Told (sl s) t fe fa)/\w.grownBy w' none:=by
 have HT:=hid ht
 have HN:=hid hN
 clear ht hN
 by_cases hl:1000 < s.size
 ·have d:decide (1000 < (s.size:Int))=true:=by simp; omega
  have RA:=hid (show As.assemble (sl s)=((1,0),As.start.obj) by unfold As.assemble; rw [yr,if_pos hl])
  go_enter Tryz.func27,Tryz.ntmps27
  go_wp2
  refine bodyPost_ret (v:=.tuple #[.string (bs []),vR 1 0]) ?_ rfl ⟨⟨[],1,0,rfl,.inl ⟨by rw [RA.o]; decide,rfl,by rw [RA.o],by rw [RA.o]⟩⟩,aH _ _ _⟩
  simp [results,Tryz.results27,go_sem,vR,bs]
 ·have d:decide (1000 < (s.size:Int))=false:=by simp; omega
  have RA:=hid (show As.assemble (sl s)=(((As.lines (sl s) (s.size+1) As.start).fe,(As.lines (sl s) (s.size+1) As.start).fa),As.finish (As.lines (sl s) (s.size+1) As.start).obj) by unfold As.assemble; rw [yr,if_neg hl])
  have AT:=hid (yqm s w HT.o hB (by omega))
  have AG:=hid (Uj s w)
  have AF:=hid (ymk s w)
  have TM:=hid (As.zF (sl s) (s.size+1) As.start As.zY)
  go_enter Tryz.func27,Tryz.ntmps27
  go_wp2
  go_loopw [5] (fun m wr=>yra s w m wr) (fun m wr=>QA s w m wr)
  case atStart=>exact ⟨As.start,AT.o.does,.inl ⟨rfl,s.size+1,rfl,by omega⟩⟩
  case round =>
   obtain ⟨st,hd,⟨rfl,n,hn,hle⟩ | ⟨rfl,hn⟩⟩:=hrel
   ·have D:=hid hd
    have EN:=hid hn
    have HL:=hid hle
    have N2:=hid (HN.o.below (LH (Pf AG.o D.o.2.1) (Nat.le_refl _) (by simp)) hB)
    clear hd hn hle
    go_wp2_with fail
    refine (ypj _ s _ _ st wr D.o.1 N2.o).mono ?_
    rintro e V1 ⟨rfl,h1⟩
    have D1:=hid (D.o.after h1)
    clear h1
    go_wp2_with fail
    refine (Zy _ s _ _ _ V1 D1.o.1).mono ?_
    rintro e V2 ⟨rfl,h2⟩
    have D2:=hid (D1.o.aO h2)
    clear h2
    cases hr:(As.dN (sl s) (As.line (sl s) st)).1
    ·have R:=hid hr
     clear hr
     go_wp2
     go_roundw
     case rel =>
      refine ⟨_,D2.o,.inr ⟨rfl,?_⟩⟩
      rw [EN.o]
      obtain ⟨k,rfl⟩:∃ k,n=k+1:=⟨n - 1,by have:=HL.o; omega⟩
      simp only [As.lines]
      rw [R.o]
      simp
     case measure=>simp [QA]
    ·have R:=hid hr
     clear hr
     go_wp2
     go_roundw
     case rel =>
      have u1:=As.vv (sl s) st
      have u2:=As.nL (sl s) (As.line (sl s) st) R.o
      rw [yr] at u2
      have hl2:=HL.o
      obtain ⟨k,rfl⟩:∃ k,n=k+1:=⟨n - 1,by omega⟩
      refine ⟨_,D2.o,.inl ⟨rfl,k,?_,by omega⟩⟩
      rw [EN.o]
      simp only [As.lines]
      rw [R.o]
      simp
     case measure =>
      have u1:=As.vv (sl s) st
      have u2:=As.nL (sl s) (As.line (sl s) st) R.o
      rw [yr] at u2
      have p1:=D.o.1.pos
      have p2:=D2.o.1.pos
      simp only [QA,p1,p2]
      omega
   ·have D:=hid hd
    rw [hn] at TM RA
    clear hd hn HN AT
    have FB:=hid (D.o.2.2 _ _ _ (by decide) (by decide) (by decide) (by decide) (by decide) AF.o)
    go_wp2_with fail
    refine (AZ _ s _ _ st wr D.o.1).mono ?_
    rintro e w1 ⟨rfl,rfl⟩
    cases hf:As.failed st
    ·have F0:=hid (show st.fe=0 by simpa [As.failed] using hf)
     clear hf
     go_wp2_with fail
     refine (yjq _ s _ _ st _ D.o.1).mono ?_
     rintro e V1 ⟨rfl,h1⟩
     have D1:=hid (D.o.after h1)
     clear h1
     go_wp2_with fail
     refine (Zm _ s _ _ _ V1 D1.o.1).mono ?_
     rintro e V2 ⟨rfl,h2⟩
     have D2:=hid (D1.o.after h2)
     clear h2 D1
     have QO:=hid (D2.o.2.2 _ _ _ (by decide) (by decide) (by decide) (by decide) (by decide) AF.o)
     have c14:=rQ D2.o.1
     go_wp2_with fail
     refine (ynk _ (As.finish st.obj) V2 D2.o.1.tabs D2.o.1.DC (yla D.o.1.ok TM.o)).mono ?_
     rintro e V3 ⟨hw,hg⟩
     have FG:=hid (Pf AG.o (D2.o.grown hg).2.1)
     have Dn:=hid (QO.o.grown hg (by simp))
     have v0:=Dn.o.free 0
     have v1:=Dn.o.free 1
     have v2:=Dn.o.free 2
     have x0:=Dn.o.cell 0
     have x1:=Dn.o.cell 1
     have x2:=Dn.o.cell 2
     simp only [tX,bC,bG,bE] at x0 x1 x2
     clear hg c14 D2 D FB QO
     rcases hw with ⟨rfl,hv⟩ | ⟨rfl,hv⟩
     ·have HV:=hid hv
      clear hv
      go_wp2
      have F:=Ba [(0,.int .i64 0),(1,.int .i64 0),(2,.string ⟨#[]⟩)] Dn.o
      have h0:=F.cell 0
      have h1:=F.cell 1
      have h2:=F.cell 2
      simp only [tX,rT,kH,kQ,fQ,fT,fP,bC,bG,bE] at h0 h1 h2
      refine bodyPost_ret (v:=.tuple #[.string (bs (Lk.iY (As.finish st.obj))),vR 0 0]) ?_ rfl ⟨⟨_,0,0,rfl,.inr (.inl ⟨by rw [RA.o]; exact F0.o,by rw [RA.o]; exact HV.o,by rw [RA.o],rfl,rfl⟩)⟩,Ma FG.o _ (Nat.le_refl _) [(0,.int .i64 0),(1,.int .i64 0),(2,.string ⟨#[]⟩)]⟩
      clear F x0 x1 x2 v0 v1 v2
      simp only [sets,kH,kQ] at h0 h1 h2 ⊢
      generalize World.setCell _ _ _=WF at *
      simp [results,Tryz.results27,go_sem,vR,h0,h1,h2]
     ·have HV:=hid hv
      clear hv
      go_wp2
      have F:=Ba [(0,.int .i64 20),(1,.int .i64 0),(2,.string ⟨#[]⟩)] Dn.o
      have h0:=F.cell 0
      have h1:=F.cell 1
      have h2:=F.cell 2
      simp only [tX,rT,kH,kQ,fQ,fT,fP,bC,bG,bE] at h0 h1 h2
      refine bodyPost_ret (v:=.tuple #[.string (bs []),vR 20 0]) ?_ rfl ⟨⟨_,20,0,rfl,.inr (.inr ⟨by rw [RA.o]; exact F0.o,by rw [RA.o]; exact HV.o,rfl,rfl,rfl⟩)⟩,Ma FG.o _ (Nat.le_refl _) [(0,.int .i64 20),(1,.int .i64 0),(2,.string ⟨#[]⟩)]⟩
      clear F x0 x1 x2 v0 v1 v2
      simp only [sets,kH,kQ] at h0 h1 h2 ⊢
      generalize World.setCell _ _ _=WF at *
      simp [results,Tryz.results27,go_sem,vR,h0,h1,h2]
    ·have F0:=hid (show st.fe≠0 by simpa [As.failed] using hf)
     clear hf
     have FG:=hid (Pf AG.o D.o.2.1)
     have c6:=yL D.o.1 6
     have c7:=yL D.o.1 7
     have c8:=yL D.o.1 8
     simp only [yE,bC,bG,bE] at c6 c7 c8
     have v0:=FB.o.free 0
     have v1:=FB.o.free 1
     have v2:=FB.o.free 2
     have x0:=FB.o.cell 0
     have x1:=FB.o.cell 1
     have x2:=FB.o.cell 2
     simp only [tX,bC,bG,bE] at x0 x1 x2
     clear D
     go_wp2
     go_region
     go_wp2
     have F:=Ba [(0,.int .i64 st.fe),(1,.int .i64 st.fa),(2,.string ⟨#[]⟩)] FB.o
     have h0:=F.drew.cell 0
     have h1:=F.drew.cell 1
     have h2:=F.drew.cell 2
     simp only [tX,rT,kH,kQ,fQ,fT,fP,bC,bG,bE] at h0 h1 h2
     refine bodyPost_ret (v:=.tuple #[.string (bs []),vR st.fe st.fa]) ?_ rfl ⟨⟨_,st.fe,st.fa,rfl,.inl ⟨by rw [RA.o]; exact F0.o,rfl,by rw [RA.o],by rw [RA.o]⟩⟩,yi (Ma FG.o _ (Nat.le_refl _) [(0,.int .i64 st.fe),(1,.int .i64 st.fa),(2,.string ⟨#[]⟩)])⟩
     clear F x0 x1 x2 v0 v1 v2 c6 c7 c8
     simp only [sets,kH,kQ] at h0 h1 h2 ⊢
     generalize World.drew _=WF at *
     simp [results,Tryz.results27,go_sem,vR,bs,h0,h1,h2]
section
instance (c:Int):Decidable (pK c):=by unfold pK; infer_instance
instance (s:ByteArray):Decidable (Bn s):=by unfold Bn; infer_instance
instance (xs:List Int):Decidable (qO xs):=by unfold qO; infer_instance
instance (xs:List Int):Decidable (xK xs):=by unfold xK; infer_instance
instance (o:Lk.Obj):Decidable (Gh o):=by unfold Gh; infer_instance
instance (o:Lk.Obj):Decidable (D9 o):=by unfold D9; infer_instance
instance (o:Lk.Obj) (y:Lk.Sym):Decidable (Bp o y):=by unfold Bp; infer_instance
instance (o:Lk.Obj):Decidable (Km o):=by unfold Km; infer_instance
instance (r:Lk.Rel):Decidable (Bj r):=by unfold Bj; infer_instance
instance (r:Lk.Rel):Decidable (qz r):=by unfold qz; infer_instance
instance (o:Lk.Obj) (r:Lk.Rel):Decidable (Gi o r):=by unfold Gi; infer_instance
instance (o:Lk.Obj) (r:Lk.Rel):Decidable (Hy o r):=by unfold Hy; infer_instance
instance (o:Lk.Obj) (r:Lk.Rel):Decidable (Bg o r):=by unfold Bg; infer_instance
instance (o:Lk.Obj) (r:Lk.Rel):Decidable (Hq o r):=by unfold Hq; infer_instance
instance (k:Int) (xs:List Int):Decidable (nP k xs):=by unfold nP yQ iA Ig yX yV mQ xU; infer_instance
instance (o:Lk.Obj) (r:Lk.Rel):Decidable (Dh o r):=by unfold Dh; infer_instance
instance (a r:Lk.Rel):Decidable (C9 a r):=by unfold C9; infer_instance
instance (o:Lk.Obj):Decidable (Kl o):=by unfold Kl; infer_instance
instance GD (o:Lk.Obj):Decidable (yw o):=by unfold yw; infer_instance
end
theorem Y2 (s:ByteArray) (w:World) (ht:dz w) (hN:mh w) (hB:3<=w.heap.size) :
  Calls Tryz.prog 22 #[.string s] w fun e w'=>(∃ t fe fa,e = .returned (.tuple #[.string (bs t),vR fe fa])/\Told (sl s) t fe fa)/\w.grownBy w' none:=by
 have cA:=hid (yjp s (w.alloc (.cells (tX 0 0) 45)) (ht.grown (aH _ _ none)) (hN.below (LH (aH _ _ none) (Nat.le_refl _) (by simp)) hB) (by rw [Bb]; omega))
 have b0:=hid (yc.new w (tX 0 0) 45)
 go_enter Tryz.func22,Tryz.ntmps22
 go_wp2_with fail
 refine cA.o.mono ?_
 rintro e V1 ⟨⟨t,fe,fa,rfl,ht⟩,hg⟩
 have HT:=hid ht
 have FB:=hid (b0.o.grown hg (by simp))
 have FG:=hid (ya (aH w (.cells (tX 0 0) 45) none) hg)
 clear ht hg cA b0
 unfold vR
 have v0:=FB.o.free 0
 have v1:=FB.o.free 1
 have v2:=FB.o.free 2
 have x0:=FB.o.cell 0
 have x1:=FB.o.cell 1
 have x2:=FB.o.cell 2
 simp only [tX,bC,bG,bE] at x0 x1 x2
 go_wp2
 have F:=Ba [(0,.int .i64 fe),(1,.int .i64 fa),(2,.string ⟨#[]⟩)] FB.o
 have h0:=F.cell 0
 have h1:=F.cell 1
 have h2:=F.cell 2
 simp only [tX,rT,kH,kQ,fQ,fT,fP,bC,bG,bE] at h0 h1 h2
 refine bodyPost_ret (v:=.tuple #[.string (bs t),vR fe fa]) ?_ rfl ⟨⟨t,fe,fa,rfl,HT.o⟩,Ma FG.o _ (Nat.le_refl _) [(0,.int .i64 fe),(1,.int .i64 fa),(2,.string ⟨#[]⟩)]⟩
 clear F x0 x1 x2 v0 v1 v2
 simp only [sets,kH,kQ] at h0 h1 h2 ⊢
 generalize World.setCell _ _ _=WF at *
 simp [results,Tryz.results22,go_sem,vR,h0,h1,h2]
def mX (t:List UInt8):List UInt8:=Lk.iY (As.assemble t).2
def Kn (t:List UInt8):Prop:=(As.assemble t).1.1=0/\yw (As.assemble t).2
theorem ymj {s t:List UInt8} {fe fa:Nat} (h:Kn s) (k:Told s t fe fa):fe=0/\t=mX s:=by
 rcases k with ⟨h1,-⟩ | ⟨h1,h2,h3,h4,-⟩ | ⟨h1,h2,-⟩
 ·exact absurd h.1 h1
 ·exact ⟨h4,h3⟩
 ·exact absurd h.2 h2
theorem ylE {w:World} {B:Nat} {ao:Option Addr} {cap:Nat} {fs:List (List UInt8)} (h:w.ownsRow B 9 1 (.slice ao fs.length cap) fs.length (fs.map fun l=>.string (bs l))):Aw w ao fs:=by
 intro hp
 obtain ⟨sg,hs,-,-,-,hc⟩:=F4 h hp
 refine ⟨sg,0,hs,fun i hi=>?_⟩
 rw [Nat.zero_add,hc i hi,List.getElem?_map,jF hi]
 rfl
set_option maxRecDepth 100000 in
theorem ypp (ts:List (List UInt8)) (am:Option Addr) (cm:Nat) (w:World) (hin:Aw w am ts) (hl:ts.length<=64) (hok:∀ t∈ts,Kn t) (ht:dz w) (hN:mh w) (hB:3<=w.heap.size) :
  Calls Tryz.prog 15 #[.slice am ts.length cm] w fun e w'=>(∃ ao cap,e = .returned (.tuple #[.slice ao ts.length cap,.bool true])/\Aw w' ao (ts.map mX))/\w.grownBy w' none:=by
 obtain ⟨i0,hi,hz0,hz1,hz2⟩:=info_parts Tryz.u7
 have HI:=hid hin
 have HT:=hid ht
 have HN:=hid hN
 have HK:=hid hok
 clear hin ht hN hok
 go_enter Tryz.func15,Tryz.ntmps15
 go_wp2
 go_loopw [4,5] (fun v i wr=>∃ (k:Nat),k<=ts.length/\i = .int .i64 k/\wr.ownsRow w.heap.size 9 1 v k (((ts.take k).map mX).map fun l=>.string (bs l))/\w.grownBy wr none) (fun _ i _=>ts.length - (intOf i).toNat)
 case atStart=>exact ⟨0,Nat.zero_le _,rfl,World.ownsRow_nil _ _ _ _,World.grownBy.refl _ _⟩
 case round =>
  obtain ⟨k,hk,rfl,hown,hgr⟩:=hrel
  obtain ⟨av,cv,rfl⟩:=yh hown
  have HO:=hid hown
  have G:=hid hgr
  clear hown hgr
  by_cases hlt:k < ts.length
  ·obtain ⟨g0,off,rfl,hc⟩:=HI.o.kept G.o (by omega)
   have cc:=hc k hlt
   have hz:=G.o.size
   have g1:(k:Int) < (ts.length:Int):=by omega
   have Rn:=HK.o _ (gW hlt)
   have TK:=hid (show (((ts.take (k+1)).map mX).map fun l=>Value.string (bs l))=(((ts.take k).map mX).map fun l=>.string (bs l)) ++ [.string (bs (mX ts[k]))] by
    rw [List.take_succ_eq_append_getElem hlt,List.map_append,List.map_append]
    rfl)
   generalize ts[k]=tx at *
   clear hc
   go_wp2_with fail
   refine (Y2 (bs tx) wr (HT.o.grown G.o) (HN.o.below (LH G.o (Nat.le_refl _) (by simp)) hB) (by omega)).mono ?_
   rintro e V ⟨⟨t,fe,fa,rfl,htold⟩,hg⟩
   rw [Dj] at htold
   obtain ⟨rfl,rfl⟩:=ymj Rn htold
   have G2:=hid (ya (ya G.o hg) (aH V (.cells #[.int .i64 0,.int .i64 fa,.string ⟨#[]⟩] 45) none))
   have AQ:=hid ((HO.o.kept hg (Decidable.em _)).alloc (.cells #[.int .i64 0,.int .i64 fa,.string ⟨#[]⟩] 45))
   have hzz:=hg.size
   have CN:=cell_one_new (V.alloc (.cells #[.int .i64 0,.int .i64 fa,.string ⟨#[]⟩] 45)) (.string (bs (mX tx))) 9
   rw [Bb] at CN
   have Xw:=hid CN
   clear htold hg cc HO G CN Rn
   generalize mX tx=t at *
   unfold vR
   go_wp2_with (at_builtin; refine wpList_append_own _ rfl _ _ 29 rfl w.heap.size 9 i0 (.string ⟨#[]⟩) 1 16 Tryz.underlying29 hi hz0 hz1 hz2 rfl (by decide) _ _ _ rfl (AQ.o.alloc _) ⟨V.heap.size+1,0,none⟩ 1 1 [.string (bs t)] rfl rfl Xw.o (by intro u hu; simp at hu; subst hu; rfl) (by unfold maxLen; omega) (by omega) (by simp; omega) ?_; intro v' w3 hown' hgrow _; obtain ⟨mY,cv',rfl⟩:=yh hown'; have K:=hid hown'; have GK:=hid (Hf (ya G2.o (aH _ _ _)) hgrow (fun b hb=>(AQ.o.lt b hb).1)); clear hgrow hown')
   go_wp2
   go_roundw
   case rel=>exact ⟨k+1,by omega,by go_num,by rw [TK.o]; exact K.o,GK.o⟩
   case measure=>simp [intOf]; omega
  ·obtain rfl:k=ts.length:=by omega
   have g3:decide ((ts.length:Int) < (ts.length:Int))=false:=by simp
   rw [List.take_length] at HO
   go_wp2
   go_ret2
   refine ⟨⟨av,cv,rfl,ylE (B:=w.heap.size) (cap:=cv) ?_⟩,G.o⟩
   rw [pX]
   exact HO.o
theorem yjR {bt bf bd:Int} {fs:List (List UInt8)} {e:Ending} (h:Ga bt bf bd fs e):∃ (b:List UInt8) (f:Ln.pO),e = .returned (.tuple #[.string (bs b),fF f]):=by
 rcases h with ⟨f,-,he,-⟩ | ⟨-,-,-,xs,hx,-,he⟩
 ·exact ⟨_,_,he⟩
 ·exact ⟨_,_,he⟩
set_option maxRecDepth 100000 in
theorem ynP (bt bf bd:Int) (af:Option Addr) (cf:Nat) (fs:List (List UInt8)) (w:World) (hin:Aw w af fs) (hsz:∀ f∈fs,f.length<=1048576) (ht:dz w) (hn:fs.length<=1048576) :
  Calls Tryz.prog 23 #[.slice af fs.length cf,.agg #[.int .i64 bt,.int .i64 bf,.int .i64 bd]] w fun e w'=>Ga bt bf bd fs e/\w.grownBy w' none:=by
 have HI:=hid hin
 have HT:=hid ht
 have cL:=hid (fun W (hg:w.grownBy W none)=>ypk bt bf bd af cf fs W (HI.o.kept hg) hsz (HT.o.grown hg) hn)
 have hs1:(w.alloc (.cells #[.int .i64 bt,.int .i64 bf,.int .i64 bd] 33)).heap.size=w.heap.size+1:=Array.size_push _
 have A1:=aH (w.alloc (.cells #[.int .i64 bt,.int .i64 bf,.int .i64 bd] 33)) (.cells #[.int .i64 0,.int .i64 0,.string ⟨#[]⟩] 45) none
 have G1:=hid (ya (aH w (.cells #[.int .i64 bt,.int .i64 bf,.int .i64 bd] 33) none) A1)
 have BR:=hid (yc.new (w.alloc (.cells #[.int .i64 bt,.int .i64 bf,.int .i64 bd] 33)) #[.int .i64 0,.int .i64 0,.string ⟨#[]⟩] 45)
 rw [hs1] at BR
 clear hin ht A1 hs1
 go_enter Tryz.func23,Tryz.ntmps23
 go_wp2_with fail
 generalize (w.alloc (.cells #[.int .i64 bt,.int .i64 bf,.int .i64 bd] 33)).alloc (.cells #[.int .i64 0,.int .i64 0,.string ⟨#[]⟩] 45)=W1 at *
 have Dw:w.heap.size<=w.heap.size+1:=by omega
 generalize w.heap.size+1=R at *
 refine (cL.o _ G1.o).mono ?_
 rintro e V1 ⟨hret,hg⟩
 obtain ⟨b,f,rfl⟩:=yjR hret
 have BI:=hid hret
 have FB:=hid (BR.o.grown hg (by simp))
 have FG:=hid (ya G1.o hg)
 clear hret hg cL BR
 obtain ⟨fe,fa,fn⟩:=f
 unfold fF
 dsimp only
 have v0:=FB.o.free 0
 have v1:=FB.o.free 1
 have v2:=FB.o.free 2
 have x0:=FB.o.cell 0
 have x1:=FB.o.cell 1
 have x2:=FB.o.cell 2
 simp only [bC,bG,bE] at x0 x1 x2
 go_wp2
 have F:=((FB.o.set 0 (.int .i64 fe)).set 1 (.int .i64 fa)).set 2 (.string (bs fn))
 have h0:=F.cell 0
 have h1:=F.cell 1
 have h2:=F.cell 2
 simp only [fQ,fT,fP,bC,bG,bE] at h0 h1 h2
 refine bodyPost_ret (v:=.tuple #[.string (bs b),fF ⟨fe,fa,fn⟩]) ?_ rfl ⟨BI.o,yx FG.o _ Dw _ _ _⟩
 clear F x0 x1 x2 v0 v1 v2
 generalize World.setCell _ _ _=WF at *
 simp [results,Tryz.results23,go_sem,fF,h0,h1,h2]
def MF (xs:List Int):Bool:=xs.all fun x=>decide (0<=x) && decide (x<=4294967295)
theorem PG {xs:List Int} (h:MF xs=true):qO xs:=by
 intro i hi
 have:=List.all_eq_true.1 h _ (gW hi)
 simp at this
 exact this
def Qt (o:Lk.Obj):Bool:=decide (Gh o) && (decide (xK o.align) && (MF o.text && (MF o.far && (MF o.data && (decide (Km o) && decide (Kl o))))))
theorem yni {o:Lk.Obj} (h:Qt o=true):yw o:=by
 unfold Qt at h
 simp only [Bool.and_eq_true,decide_eq_true_eq] at h
 obtain ⟨h1,h2,h3,h4,h5,h6,h7⟩:=h
 exact ⟨h1,h2,⟨PG h3,PG h4,PG h5⟩,h6,h7⟩
def Ko (f:Ln.pO) (e at_:Int) (n:List UInt8):Prop:=f.e=e/\f.at_=at_/\f.name=n
instance (f:Ln.pO) (e at_:Int) (n:List UInt8):Decidable (Ko f e at_ n):=by unfold Ko; infer_instance
def Qq (os:List Lk.Obj) (bt bf bd:Int) (e at_:Int) (n:List UInt8):Prop:=(Ln.eH os bt bf bd).1=[]/\Ko (Ln.eH os bt bf bd).2 e at_ n
instance (os:List Lk.Obj) (bt bf bd:Int) (e at_:Int) (n:List UInt8):Decidable (Qq os bt bf bd e at_ n):=by unfold Qq; infer_instance
theorem ykW {l:List UInt8} {a b:Bool} {os ps:List Lk.Obj} (h:rX l a os) (k:rX l b ps):a=b/\os=ps:=by
 rcases h with ⟨rfl,h1,rfl⟩ | ⟨rfl,h1,ms,h2,rfl⟩
 ·rcases k with ⟨rfl,-,rfl⟩ | ⟨-,k1,-⟩
  ·exact ⟨rfl,rfl⟩
  ·exact absurd h1 k1
 ·rcases k with ⟨-,k1,-⟩ | ⟨rfl,-,ns,k2,rfl⟩
  ·exact absurd k1 h1
  ·exact ⟨rfl,by rw [<- VG h2,<- VG k2]⟩
theorem yms {o:Lk.Obj} (hv:yw o):rX (Lk.iY o) false [o]:=by
 have hg:=Ho hv
 have q:=Le ((Lk.jL (Lk.iY o) o).2 ⟨hg,rfl⟩) hv
 exact .inl ⟨rfl,q.1,by rw [q.2]⟩
theorem ymr {t:List UInt8} (h:Kn t):rX (mX t) false [(As.assemble t).2]:=yms h.2
theorem ymS {l:List UInt8} {a:Bool} {os:List Lk.Obj} (h:rX l a os) (k:Kk l):False:=by
 rcases h with ⟨-,h1,-⟩ | ⟨-,-,ms,h2,-⟩
 ·exact k.1 h1
 ·exact k.2 ms h2
def Ie:List (List UInt8)->List (Bool×List Lk.Obj)->Prop
 | [],[]=>True
 | l :: ls,x :: xs=>rX l x.1 x.2/\Ie ls xs
 | _,_=>False
theorem Vn:∀ {fs:List (List UInt8)} {xs:List (Bool×List Lk.Obj)},Ie fs xs->xs.length=fs.length:=by
 intro fs
 induction fs with
 | nil =>
  intro xs h
  cases xs with
  | nil=>rfl
  | cons x xs=>exact h.elim
 | cons l ls ih =>
  intro xs h
  cases xs with
  | nil=>exact h.elim
  | cons x xs=>rw [iE,iE,ih h.2]
theorem Vw:∀ {fs:List (List UInt8)} {xs:List (Bool×List Lk.Obj)},Ie fs xs->∀ i (h:i < fs.length) (h':i < xs.length),rX fs[i] xs[i].1 xs[i].2:=by
 intro fs
 induction fs with
 | nil=>intro xs _ i h; simp at h
 | cons l ls ih =>
  intro xs h i hi hx
  cases xs with
  | nil=>exact h.elim
  | cons x xs =>
   cases i with
   | zero=>exact h.1
   | succ i=>exact ih h.2 i (by simpa using hi) (by simpa using hx)
theorem ymt {fs:List (List UInt8)} {xs ys:List (Bool×List Lk.Obj)} (h:Ie fs xs) (hy:ys.length=fs.length) (k:∀ i (h:i < fs.length),rX fs[i] (ys[i]'(by omega)).1 (ys[i]'(by omega)).2):ys=xs:=by
 have hl:=Vn h
 apply List.ext_getElem
 ·omega
 ·intro i h1 h2
  have a:=Vw h i (by omega) h2
  have b:=k i (by omega)
  have u:=ykW b a
  exact Prod.ext u.1 u.2
theorem ymH {bt bf bd:Int} {fs:List (List UInt8)} {xs:List (Bool×List Lk.Obj)} {e:Ending} (h:Ga bt bf bd fs e) (hb:Im.Base bt/\Im.Base bf/\Im.Base bd) (h1:1<=fs.length) (h8:fs.length<=8) (hf:Ie fs xs):e = .returned (.tuple #[.string (bs (Ln.eH (Ln.bD xs) bt bf bd).1),fF (Ln.eH (Ln.bD xs) bt bf bd).2]):=by
 have hok:nZ bt bf bd=Ln.ok:=by
  unfold nZ
  rw [if_neg (not_not_intro hb.1),if_neg (not_not_intro hb.2.1),if_neg (not_not_intro hb.2.2)]
 rcases h with ⟨f,hfe,-,c⟩ | ⟨-,-,-,ys,hy,k,rfl⟩
 ·rcases c with rfl | ⟨-,c,-⟩ | ⟨-,-,-,i,hi,-,hn,-⟩
  ·exact absurd (by rw [hok]; rfl) hfe
  ·omega
  ·exact (ymS (Vw hf i hi (by rw [Vn hf]; exact hi)) hn).elim
 ·rw [ymt hf hy k]
theorem ypO {W:World} {X:Nat} {t:TypeId} (fs:List (List UInt8)) (h:yc W X (fs.map fun l=>Value.string (bs l)).toArray t):Aw W (some ⟨X,0,none⟩) fs:=fun _=>⟨X,0,rfl,fun i hi=>by
 rw [Nat.zero_add,h.cell i,bC,List.getElem?_map,jF hi]
 rfl⟩
def yrS (s:List UInt8) (o:Lk.Obj):Prop:=rX s false [o]/\s.length<=1048576
theorem WY {t:List UInt8} (h:Kn t):yrS (mX t) (As.assemble t).2:=⟨ymr h,by have:=UH h.2; unfold mX; omega⟩
theorem ynN (m:Im.dK):Im.lK m↔(Im.Base m.text/\Im.Base m.far/\Im.Base m.data)/\Im.Fits m/\(Im.code m m.start).isSome=true:=by
 rw [Im.zf]
 unfold Im.lK Im.Fits Im.mH Im.mG Im.mF
 constructor
 ·rintro ⟨a,b,c,d⟩; exact ⟨a,⟨b,c⟩,d⟩
 ·rintro ⟨a,⟨b,c⟩,d⟩; exact ⟨a,b,c,d⟩
theorem yjK (g:Nat) (m:Im.dK) (w:World) (h:lJ w g m) (ht:Im.jo m) :
  Calls Tryz.prog 46 #[.pointer (some ⟨g,0,none⟩)] w fun e w'=>yg e (Im.lK m)/\w.grownBy w' none:=by
 have H:=hid h
 have HT:=hid ht
 obtain ⟨at_,ct,af,cf,ad,cd,hb,-,-,-⟩:=h.open
 have k0:=hb.cell 0
 have k1:=hb.cell 1
 have k2:=hb.cell 2
 have k3:=hb.cell 3
 simp only [bC,bG,bE] at k0 k1 k2 k3
 have c1:=hid (fun W=>Lu m.text W ht.text.1 ht.text.2)
 have c2:=hid (fun W=>Lu m.far W ht.far.1 ht.far.2)
 have c3:=hid (fun W=>Lu m.data W ht.data.1 ht.data.2)
 have Q0:=hid (ynN m)
 generalize Im.lK m=Q at *
 clear h ht hb
 go_enter Tryz.func46,Tryz.ntmps46
 go_wp2_with fail
 refine (c1.o w).mono ?_
 rintro e V ⟨t,rfl⟩
 rcases t.split with ⟨rfl,p1⟩ | ⟨rfl,p1⟩ <;> clear t c1
 ·go_wp2
  go_ret
  exact ⟨yg.no fun q=>p1.o (Q0.o.1 q).1.1,World.grownBy.refl _ _⟩
 go_wp2_with fail
 refine (c2.o _).mono ?_
 rintro e V ⟨t,rfl⟩
 rcases t.split with ⟨rfl,p2⟩ | ⟨rfl,p2⟩ <;> clear t c2
 ·go_wp2
  go_ret
  exact ⟨yg.no fun q=>p2.o (Q0.o.1 q).1.2.1,World.grownBy.refl _ _⟩
 go_wp2_with fail
 refine (c3.o _).mono ?_
 rintro e V ⟨t,rfl⟩
 rcases t.split with ⟨rfl,p3⟩ | ⟨rfl,p3⟩ <;> clear t c3
 ·go_wp2
  go_ret
  exact ⟨yg.no fun q=>p3.o (Q0.o.1 q).1.2.2,World.grownBy.refl _ _⟩
 go_wp2_with fail
 refine (Tw g m V H.o HT.o).mono ?_
 rintro e V1 ⟨t,hg⟩
 have G1:=hid hg
 rcases t.split with ⟨rfl,p4⟩ | ⟨rfl,p4⟩ <;> clear t
 ·go_wp2
  go_ret
  exact ⟨yg.no fun q=>p4.o (Q0.o.1 q).2.1,G1.o⟩
 replace k0:=yd k0 hg
 clear hg k1 k2 k3
 go_wp2_with fail
 refine (L9 g m m.start V1 (H.o.kept G1.o) HT.o HT.o.start.1 HT.o.start.2).mono ?_
 rintro e V2 ⟨rfl,n,rfl⟩
 have GF:=hid (ye G1.o n)
 cases hc:(Im.code m m.start).isSome
 ·have N:=hid (show ¬ Q from fun q=>by have:=(Q0.o.1 q).2.2; rw [hc] at this; cases this)
  go_wp2
  go_ret
  exact ⟨yg.no N.o,GF.o⟩
 ·have N:=hid (show Q from Q0.o.2 ⟨⟨p1.o,p2.o,p3.o⟩,p4.o,hc⟩)
  go_wp2
  go_ret
  exact ⟨yg.yes N.o,GF.o⟩
section
variable {P:Program} (w:World)
end
namespace Im
def Clear (a:Int) (n:Int):Prop:=(4096<=a/\a < 1073741824)/\a+4 * n<=1073741824/\a % 16=0
instance (a n:Int):Decidable (Clear a n):=by unfold Clear; infer_instance
instance (a b c d:Int):Decidable (jM a b c d):=by unfold jM; infer_instance
end Im
theorem Um {w a c:World} {row:Option Nat} (h:w.grownBy a none) (k:a.grownBy c row) (hb:∀ b,row=some b->w.heap.size<=b):w.grownBy c none :=
 ⟨k.os.trans h.os,k.tape.trans h.tape,k.output.trans h.output,Nat.le_trans h.size k.size,fun i hi _ =>
  (k.block i (Nat.lt_of_lt_of_le hi h.size) (fun e=>by have:=hb i e.symm; omega)).trans (h.block i hi (by simp))⟩
section
variable {w wr w3:World} {l:List UInt8} {g nt nf k:Nat} {a0 a1 a2 a3:Int} {vT vF vD v':Value} {B1 B2:Nat} {ob:Obj}
end
theorem Ls (l:List UInt8) (p:Nat):0<=dA l p 4/\dA l p 4 < 4294967296:=by have:=PN l p 4; simpa using this
theorem ymx (l:List UInt8):Im.jo (Im.dV l):=by
 have h:=Im.Fj l
 have h2:=Im.jy l 24
 refine ⟨Ls l 2,Ls l 6,Ls l 10,Ls l 14,⟨?_,?_,?_⟩,?_⟩
 ·simp only [Im.dV,Im.gL]; omega
 ·simp only [Im.dV,Im.gL]; omega
 ·simp only [Im.dV,Im.gL]; omega
 ·simp only [Im.dV]; omega
theorem ylp (l:List UInt8) (a b:UInt8) (h:(Lk.aD l 2 (0,false)).1=[a,b]):(Lk.aD l 2 (0,false)).2=(2,false)/\2<=l.length/\l.take 2=[a,b]:=by
 unfold Lk.aD at h ⊢
 simp only [Nat.sub_zero,List.drop_zero,Nat.zero_add] at h ⊢
 split at h
 ·rename_i hl
  rw [if_pos hl]
  exact ⟨rfl,hl,h⟩
 ·cases h
theorem yli (l:List UInt8) (a b:UInt8) (h:l.take 2=[a,b]):(Lk.aD l 2 (0,false)).1=[a,b]:=by
 unfold Lk.aD
 simp only [Nat.sub_zero,List.drop_zero]
 have:2<=l.length:=by have:=congrArg List.length h; simp at this; omega
 rw [if_pos this]
 exact h
def yqi (s:ByteArray) (e:Ending) (w':World):Prop :=
 (Im.jG (sl s)/\∃ g,e = .returned (.tuple #[.pointer (some ⟨g,0,none⟩),.int .i64 0])/\lJ w' g (Im.dV (sl s))) \/
 (¬ Im.jG (sl s)/\e = .returned (.tuple #[.pointer none,.int .i64 23]))
theorem ylc (s:ByteArray) (w:World) (hs:s.size<=1048576) :
  Calls Tryz.prog 29 #[.string s] w fun e w'=>yqi s e w'/\w.grownBy w' none:=by
 have hsz:=yr s
 have TM:=hid (ymx (sl s))
 go_enter Tryz.func29,Tryz.ntmps29
 go_wp2_with fail
 refine (OG s w).mono ?_
 rintro e W1 ⟨rfl,g1⟩
 have R:aZ (W1.alloc (.cells #[.string s,.int .i64 0,.bool false] 83)) W1.heap.size s 0 false:=heap_alloc_new W1 _
 have HR:=hid R
 have G1:=hid g1
 have GA:=hid (aH W1 (.cells #[.string s,.int .i64 0,.bool false] 83) none)
 have hz:=hid g1.size
 clear R g1
 by_cases hm:(Lk.aD (sl s) 2 (0,false)).1=[73,77]
 ·have cR:=hid (ZM W1.heap.size s 0 false _ HR.o hs (Nat.zero_le _) hm)
  obtain ⟨m1,m2,m3⟩:=ylp _ _ _ hm
  rw [m1] at cR
  have FU:=hid (fun h:Im.Full (sl s)=>Im.uJ (sl s) h)
  have ON:=hid (Im.uK (sl s) m2)
  have IS:=hid (show Im.jG (sl s)↔Im.Full (sl s)/\Im.lK (Im.dV (sl s)) from ⟨fun q=>q.2,fun q=>⟨m3,q⟩⟩)
  generalize Im.mK (sl s) (2,false)=X at *
  obtain ⟨m,p',s'⟩:=X
  simp only at cR ON FU
  clear hm m1 m2 m3
  go_wp2_with fail
  refine cR.o.mono ?_
  rintro e W2 ⟨g,rfl,hg,Jq,hrd,hgr⟩
  have QY:=hid Jq
  have Bv:=hid hrd
  have GR:=hid hgr
  clear Jq hrd hgr hg cR
  have cD:=hid (PY W1.heap.size s p' s' W2 Bv.o)
  go_wp2_with fail
  refine cD.o.mono ?_
  rintro e W3 ⟨rfl,kd,rfl⟩
  have GF:=hid (ye (Um (ya G1.o GA.o) GR.o (by intro b e; simp at e; have:=hz.o; omega)) kd)
  clear cD
  by_cases hd:s'=false/\p'=s.size
  ·obtain ⟨rfl,rfl⟩:=hd
   have hfu:=ON.o (by rw [hsz])
   have HF:=hid hfu
   have hmm:m=Im.dV (sl s):=congrArg Prod.fst (FU.o hfu)
   subst hmm
   have cV:=hid (yjK g (Im.dV (sl s)) (W2.drewN kd) (QY.o.kept (ye (World.grownBy.refl _ _) kd)) TM.o)
   have dd:(!false && decide (s.size=s.size))=true:=by simp
   clear hfu hsz
   go_wp2_with fail
   refine cV.o.mono ?_
   rintro e W4 ⟨t,q⟩
   have GQ:=hid (ya GF.o q)
   have M7:=hid (QY.o.kept (ya (ye (World.grownBy.refl _ _) kd) q))
   rcases t.split with ⟨rfl,pv⟩ | ⟨rfl,pv⟩ <;> clear t q cV
   ·go_wp2
    go_ret2
    exact ⟨.inr ⟨fun q=>pv.o (IS.o.1 q).2,rfl⟩,GQ.o⟩
   ·go_wp2
    go_ret2
    exact ⟨.inl ⟨IS.o.2 ⟨HF.o,pv.o⟩,g,rfl,M7.o⟩,GQ.o⟩
  ·have N:=hid (show ¬ Im.jG (sl s) from fun q=>by
    have:=congrArg Prod.snd (FU.o (IS.o.1 q).1)
    simp only [Prod.mk.injEq] at this
    exact hd ⟨this.2,by rw [<- hsz]; exact this.1⟩)
   have dd:(!s' && decide (p'=s.size))=false:=by
    cases s'
    ·simp at hd ⊢; exact hd
    ·rfl
   clear hsz hd
   go_wp2
   go_ret2
   exact ⟨.inr ⟨N.o,rfl⟩,GF.o⟩
 ·have cR:=hid (yki W1.heap.size s 0 false _ HR.o hs (Nat.zero_le _) hm)
  have N:=hid (show ¬ Im.jG (sl s) from fun q=>hm (yli _ _ _ q.1))
  clear hm
  go_wp2_with fail
  refine cR.o.mono ?_
  rintro e W2 ⟨rfl,hgr⟩
  have GR:=hid hgr
  clear hgr cR
  go_wp2
  go_ret2
  exact ⟨.inr ⟨N.o,rfl⟩,Um (ya G1.o GA.o) GR.o (by intro b e; simp at e; have:=hz.o; omega)⟩
def yrb (W:World) (x:Nat) (m:Im.dK):Prop:=∃ g,yc W x #[.pointer (some ⟨g,0,none⟩)] 59/\lJ W g m
def WV (s:ByteArray) (e:Ending) (w':World):Prop :=
 (Im.jG (sl s)/\∃ x,e = .returned (.tuple #[.pointer (some ⟨x,0,none⟩),.int .i64 0])/\yrb w' x (Im.dV (sl s))) \/
 (¬ Im.jG (sl s)/\e = .returned (.tuple #[.pointer none,.int .i64 23]))
theorem ynL (s:ByteArray) (w:World) (hs:s.size<=1048576) :
  Calls Tryz.prog 24 #[.string s] w fun e w'=>WV s e w'/\w.grownBy w' none:=by
 have cR:=hid (ylc s w hs)
 go_enter Tryz.func24,Tryz.ntmps24
 go_wp2_with fail
 refine cR.o.mono ?_
 rintro e W1 ⟨hr,hg⟩
 have G:=hid hg
 clear hg cR
 rcases hr with ⟨q,g,rfl,hi⟩ | ⟨q,rfl⟩
 ·have Q:=hid q
  have HI:=hid hi
  clear q hi
  go_wp2
  go_ret2
  have GA:=aH W1 (.cells #[.pointer (some ⟨g,0,none⟩)] 59) none
  exact ⟨.inl ⟨Q.o,W1.heap.size,rfl,g,yc.new _ _ _,HI.o.kept GA⟩,ya G.o GA⟩
 ·have Q:=hid q
  clear q
  go_wp2
  go_ret2
  exact ⟨.inr ⟨Q.o,rfl⟩,G.o⟩
set_option maxRecDepth 100000 in
theorem ZF (g:Nat) (m:Im.dK) (w:World) (hI:lJ w g m) (hT:Im.jo m) :
  Calls Tryz.prog 47 #[.pointer (some ⟨g,0,none⟩)] w fun e w'=>∃ v,e = .returned v/\w'.ownsRow w.heap.size 3 1 v (m.D.length+m.noughts.toNat) ((m.D ++ List.replicate m.noughts.toNat 0).map (Value.int .i64))/\w.grownBy w' none:=by
 obtain ⟨i0,hi,hz0,hz1,hz2⟩:=info_parts Tryz.j6
 obtain ⟨a1,t1,a2,t2,ad,cd,hb,-,-,q3⟩:=hI.open
 have HB:=hid hb
 have DI:=hid (yz.aR q3)
 have hcap:=pV q3
 have hl:=hT.lens.2.2
 have hn:=hT.noughts
 have k6:=hb.cell 6
 simp only [bC,bG,bE] at k6
 clear hI hT hb q3
 obtain ⟨nb,hnb⟩:=Int.eq_ofNat_of_zero_le hn.1
 have Rb:=hid hnb
 rw [hnb]
 simp only [Int.toNat_natCast]
 go_enter Tryz.func47,Tryz.ntmps47
 go_wp2
 clear k6
 go_loopw [3,12] (fun v i wr=>∃ k:Nat,k<=m.D.length/\i = .int .i64 k/\wr.ownsRow w.heap.size 3 1 v k ((m.D.take k).map (Value.int .i64))/\w.grownBy wr none) (fun _ i _=>m.D.length - (intOf i).toNat)
 case atStart=>exact ⟨0,Nat.zero_le _,rfl,World.ownsRow_nil _ _ _ _,World.grownBy.refl _ _⟩
 case round =>
  obtain ⟨k,hk,rfl,hown,hgr⟩:=hrel
  obtain ⟨av,cv,rfl⟩:=yh hown
  have HG:=hid hgr
  have hsz:=hgr.size
  by_cases hlt:k < m.D.length
  ·obtain ⟨sg,off,rfl,hcells⟩:=DI.o.kept (fun a v e=>yd e hgr) (by omega)
   have ck:=hcells k hlt
   clear hcells hgr
   have E:=hid (show (m.D.take (k+1)).map (Value.int .i64)=(m.D.take k).map (Value.int .i64) ++ [.int .i64 m.D[k]] by rw [List.take_succ_eq_append_getElem hlt,List.map_append]; rfl)
   have g1:(k:Int) < (m.D.length:Int):=by omega
   generalize m.D[k]=x at *
   go_wp2_with (at_builtin; refine wpList_append_own _ rfl _ _ 35 rfl w.heap.size 3 i0 (.int .i64 0) 1 8 Tryz.underlying35 hi hz0 hz1 hz2 rfl (by decide) _ _ _ rfl (hown.alloc _) ⟨wr.heap.size,0,none⟩ 1 1 [.int .i64 x] rfl rfl (cell_one_new _ _ _) (by intro u hu; simp at hu; subst hu; rfl) (by unfold maxLen; omega) (by omega) (by simp; omega) ?_; intro v' w3 hown' hgrow _; obtain ⟨mY,cv',rfl⟩:=yh hown'; have K:=hid hown'; have GK:=hid (yN (ya HG.o (aH _ _ _)) hgrow (fun b hb=>(hown.lt b hb).1)); clear hgrow hown')
   go_wp2
   go_roundw
   case rel=>exact ⟨k+1,by omega,by go_num,by rw [E.o]; exact K.o,GK.o⟩
   case measure=>simp [intOf]; omega
  ·obtain rfl:k=m.D.length:=by omega
   have g0:decide ((m.D.length:Int) < (m.D.length:Int))=false:=by simp
   rw [List.take_length] at hown
   have HO:=hid hown
   clear hown hgr
   obtain ⟨U,hU⟩:∃ U:World,U=wr:=⟨_,rfl⟩
   subst hU
   go_wp2
   go_loopw [3,6] (fun v i wr=>∃ k:Nat,k<=nb/\i = .int .i64 k/\wr.ownsRow w.heap.size 3 1 v (m.D.length+k) ((m.D ++ List.replicate k 0).map (Value.int .i64))/\w.grownBy wr none) (fun _ i _=>nb - (intOf i).toNat)
   case atStart=>exact ⟨0,Nat.zero_le _,rfl,by simpa using HO.o,HG.o⟩
   case round =>
    obtain ⟨k,hk2,rfl,hown,hgr⟩:=hrel
    obtain ⟨Nq,Nt,rfl⟩:=yh hown
    have HG2:=hid hgr
    have hsz2:=hgr.size
    have k7:=(HB.o.grown hgr (by simp)).cell 7
    simp only [bC,bG,bE] at k7
    rw [Rb.o] at k7
    clear hgr
    have Yu:nb<=65535:=by have:=Rb.o; omega
    by_cases hlt2:k < nb
    ·have g1:(k:Int) < (nb:Int):=by omega
     have E:=hid (show (m.D ++ List.replicate (k+1) 0).map (Value.int .i64)=(m.D ++ List.replicate k 0).map (Value.int .i64) ++ [.int .i64 0] by simp [List.replicate_succ'])
     go_wp2_with (at_builtin; refine wpList_append_own _ rfl _ _ 35 rfl w.heap.size 3 i0 (.int .i64 0) 1 8 Tryz.underlying35 hi hz0 hz1 hz2 rfl (by decide) _ _ _ rfl (hown.alloc _) ⟨wr.heap.size,0,none⟩ 1 1 [.int .i64 0] rfl rfl (cell_one_new _ _ _) (by intro u hu; simp at hu; subst hu; rfl) (by unfold maxLen; omega) (by omega) (by simp; omega) ?_; intro v' w3 hown' hgrow _; obtain ⟨mY,cv',rfl⟩:=yh hown'; have K:=hid hown'; have GK:=hid (yN (ya HG2.o (aH _ _ _)) hgrow (fun b hb=>(hown.lt b hb).1)); clear hgrow hown')
     go_wp2
     go_roundw
     case rel=>exact ⟨k+1,by omega,by go_num,by rw [E.o]; exact K.o,GK.o⟩
     case measure=>simp [intOf]; omega
    ·obtain rfl:k=nb:=by omega
     have AQ:=hid hown
     clear hown
     have g2:decide ((k:Int) < (k:Int))=false:=by simp
     go_wp2
     go_ret
     exact ⟨_,rfl,AQ.o,HG2.o⟩
section
variable {P:Program} (w:World)
theorem ylw (t:TypeId) (b:Nat) (e:TypeId) (cur:Array Value) (V:Value) (i:TypeInfo) (hi:P.info? t=some i) (hsz:V.cells.size=i.size) (hb:w.heap[b]?=some (.cells cur e (0,0))) (hcur:cur.size=V.cells.size) (h1:∀ u∈V.cells.toList,u.oneCell'=true) :
  (Instr.storeAt t (.pointer (some ⟨b,0,none⟩)) V).run P w = .ok () (w.setRow b V.cells):=by
 have hst:=run_storeCells_at P b 0 e V.cells.toList 0 cur w hb (by simp; omega) h1
 have e1:(cur.toList.take (0+0) ++ V.cells.toList ++ cur.toList.drop (0+0+V.cells.toList.length)).toArray=V.cells:=by
  have:cur.toList.drop V.cells.size=[]:=List.drop_eq_nil_of_le (by simp; omega)
  simp [this]
 rw [e1] at hst
 simp [Instr.storeAt,storeVar,Instr.sureAddr,sizeOf,typeInfo,hi,hsz,hst]
theorem TA {o:Oper} {a:Act} {K:Act->World->Prop} {Q:Exit->Act->World->Prop} (t:TypeId) (p x:Operand) (ho:o.op = .store t p x) (b:Nat) (e:TypeId) (cur:Array Value) (hp:a.eval p = .pointer (some ⟨b,0,none⟩)) (V:Value) (hv:a.eval x=V)
  (i:TypeInfo) (hi:P.info? t=some i) (hsz:V.cells.size=i.size) (hb:w.heap[b]?=some (.cells cur e (0,0))) (hcur:cur.size=V.cells.size) (h1:∀ u∈V.cells.toList,u.oneCell'=true) (h:K (a.put o.dst undef) (w.setRow b V.cells)):o.wp P a w K Q:=by
 have hr:=ylw (P:=P) w t b e cur V i hi hsz hb hcur h1
 unfold Oper.wp execOp
 simp only [ho,hp,hv,Sem.run_bind,Sem.run_pure,Result.andThen_ok,hr]
 unfold Oper.upon
 exact h
end
end Go.Proofs.YtpgklkhgfcjceaaGreatDoor
