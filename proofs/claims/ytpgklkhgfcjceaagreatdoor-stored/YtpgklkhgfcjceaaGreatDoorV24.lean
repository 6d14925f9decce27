
import Derived.Test.YtpgklkhgfcjceaaGreatDoorV23
import Derived.Laws.AppendOwn
import Derived.Deep.RegionHeld3
import Derived.Laws.CopyRow
import Derived.Deep.CutRange
set_option maxHeartbeats 16000000
set_option maxRecDepth 100000
namespace Go.Proofs.YtpgklkhgfcjceaaGreatDoor
open Go.RowKit
def Told (s t:List UInt8) (fe fa:Nat):Prop :=
 ((As.assemble s).1.1≠0/\t=[]/\fe=(As.assemble s).1.1/\fa=(As.assemble s).1.2) \/
 ((As.assemble s).1.1=0/\yv (As.assemble s).2/\t=Lk.lN (As.assemble s).2/\fe=0/\fa=0) \/
 ((As.assemble s).1.1=0/\¬ yv (As.assemble s).2/\t=[]/\fe=20/\fa=0)
def ze (fe fa:Nat):Value:=.agg #[.int .i64 fe,.int .i64 fa,.string ⟨#[]⟩]
def wu (fe fa:Nat):Array Value:=#[.int .i64 fe,.int .i64 fa,.string ⟨#[]⟩]
def EI (s:ByteArray) (w:World):World :=
 (((w.alloc (.cells (wu 0 0) 45)).alloc (.cells (yE s (w.heap.size+1+1+1) As.start) 67)).alloc (.cells #[.int .i64 2,.int .i64 2,.int .i64 2,.int .i64 2] 3)).alloc
  (.cells #[.slice none 0 0,.slice none 0 0,.slice none 0 0,.int .i64 0,.slice (some ⟨w.heap.size+1+1,0,none⟩) 4 4,.slice none 0 0,.slice none 0 0] 71)
theorem XD (s:ByteArray) (w:World):w.grownBy (EI s w) none :=
 ya (ya (ya (aJ _ _ _) (aJ _ _ _)) (aJ _ _ _)) (aJ _ _ _)
theorem ymp (s:ByteArray) (w:World):yc (EI s w) w.heap.size (wu 0 0) 45 :=
 (yc.new w (wu 0 0) 45).grown (ya (ya (aJ _ _ none) (aJ _ _ none)) (aJ _ _ none)) (by simp)
theorem Eb (w:World) (o:Obj):(w.alloc o).heap.size=w.heap.size+1:=Array.size_push _
theorem ypP (s:ByteArray) (hs:s.size<=1000):jE s As.start :=
 ⟨hs,Nat.zero_le _,KN,by decide,by decide,KN,by decide,by decide,by decide,by decide,by decide,by decide,by decide,by decide⟩
theorem yqk (s:ByteArray) (w:World) (ht:dQ w) (hB:3<=w.heap.size) (hs:s.size<=1000) :
  yl w.heap.size s (w.heap.size+1) (w.heap.size+1+1+1) As.start (EI s w):=by
 have b1:=yc.new (w.alloc (.cells (wu 0 0) 45)) (yE s (w.heap.size+1+1+1) As.start) 67;have b2:=yc.new ((w.alloc (.cells (wu 0 0) 45)).alloc (.cells (yE s (w.heap.size+1+1+1) As.start) 67)) #[.int .i64 2,.int .i64 2,.int .i64 2,.int .i64 2] 3;have b3:=yc.new (((w.alloc (.cells (wu 0 0) 45)).alloc (.cells (yE s (w.heap.size+1+1+1) As.start) 67)).alloc (.cells #[.int .i64 2,.int .i64 2,.int .i64 2,.int .i64 2] 3)) #[.slice none 0 0,.slice none 0 0,.slice none 0 0,.int .i64 0,.slice (some ⟨w.heap.size+1+1,0,none⟩) 4 4,.slice none 0 0,.slice none 0 0] 71;rw [Eb] at b1;rw [Eb,Eb] at b2;rw [Eb,Eb,Eb] at b3
 refine ⟨b1.grown (ya (aJ _ _ none) (aJ _ _ none)) (by simp),⟨.slice none 0 0,.slice none 0 0,.slice none 0 0,.slice (some ⟨w.heap.size+1+1,0,none⟩) 4 4,.slice none 0 0,.slice none 0 0,?_⟩,⟨hB,by omega,by omega,by omega⟩,ypP s hs,ht.grown (XD s w)⟩;refine ⟨b3,World.ownsRow_nil _ _ _ _,World.ownsRow_nil _ _ _ _,World.ownsRow_nil _ _ _ _,⟨rfl,.inr ⟨w.heap.size+1+1,4,#[.int .i64 2,.int .i64 2,.int .i64 2,.int .i64 2],rfl,by omega,b2.grown (aJ _ _ none) (by simp),Nat.le_refl 4,by decide,rfl,rfl⟩⟩,World.ownsRow_nil _ _ _ _,World.ownsRow_nil _ _ _ _,?_⟩;unfold DC jw Value.ownBlock;simp;omega
theorem Tp {w W V:World} (h:w.grownBy W none) (hb:Below w.heap.size W V):w.grownBy V none :=
 ⟨hb.os.trans h.os,hb.tape.trans h.tape,hb.output.trans h.output,Nat.le_trans h.size hb.size,fun i hi _=>(hb.block i hi).trans (h.block i hi (by simp))⟩
theorem Py {w V:World} (h:w.grownBy V none) (r:Nat) (hr:w.heap.size<=r) (l:List (Nat×Value)):w.grownBy (sets V r l) none:=by
 have g:=Ea V r l;exact ⟨g.os.trans h.os,g.tape.trans h.tape,g.output.trans h.output,Nat.le_trans h.size g.size,fun i hi _=>(g.block i (Nat.lt_of_lt_of_le hi h.size) (by simp; omega)).trans (h.block i hi (by simp))⟩
theorem yom {rs:List Lk.Rel} {r:Lk.Rel} (h:r∈As.gV rs):r∈rs:=by
 unfold As.gV at h;simp only [List.mem_append,List.mem_filter] at h;rcases h with (h | h) | h <;> exact h.1
theorem ylb {s:ByteArray} {st:As.St} (hok:jE s st) (h:As.Tm st.obj):jF (As.finish st.obj):=by
 have h1:=hok.syms;have h2:=hok.aj;have h3:=hok.align;have h4:=Y1 st.obj.aj;refine ⟨⟨?_,?_,?_,?_,?_,?_⟩,fun y hy=>?_,fun r hr=>?_⟩
 ·have:=h.text; show st.obj.text.length<=_; omega
 ·have:=h.far; show st.obj.far.length<=_; omega
 ·have:=h.data; show st.obj.data.length<=_; omega
 ·show st.obj.align.length<=_; omega
 ·show (As.kF st.obj.syms).length<=_; simp [As.kF]; omega
 ·show (As.gV st.obj.aj).length<=_; omega
 ·obtain ⟨x,hx,rfl⟩:=List.mem_map.1 hy
  have:=h.names x hx
  split <;> simp <;> omega
 ·have:=h.tH r (yom hr); omega
def yqW (s:ByteArray) (w:World) (m:Value) (wr:World):Prop :=
 ∃ st:As.St,Does w.heap.size s (w.heap.size+1) (w.heap.size+1+1+1) (EI s w) st wr /\
  ((m = .bool true/\∃ n,As.lines (sl s) (s.size+1) As.start=As.lines (sl s) n st/\s.size - st.p+1<=n)\/(m = .bool false/\As.lines (sl s) (s.size+1) As.start=st))
def UD (s:ByteArray) (w:World) (m:Value) (wr:World):Nat:=match m with
 | .bool true=>s.size - DT (w.heap.size+1) wr+1
 | _=>0
theorem yl.pos {B:Nat} {s:ByteArray} {b g:Nat} {st:As.St} {W:World} (h:yl B s b g st W):DT b W=st.p:=by
 have:=yL h 1
 simp only [yE,bI,bN,bK] at this;unfold DT;rw [this];simp
theorem yjq (s:ByteArray) (w:World) (ht:dQ w) (hN:nI w) (hB:3<=w.heap.size) :
  Calls Tryz.prog 27 #[.string s] w fun e w'=>(∃ t fe fa,e = .returned (.tuple #[.string (bs t),ze fe fa])/\Told (sl s) t fe fa)/\w.grownBy w' none:=by
 have HT:=hid ht;have HN:=hid hN;clear ht hN;by_cases hl:1000 < s.size
 ·have d:decide (1000 < (s.size:Int))=true:=by simp; omega
  have RA:=hid (show As.assemble (sl s)=((1,0),As.start.obj) by unfold As.assemble; rw [yq,if_pos hl]);go_enter Tryz.func27,Tryz.ntmps27;go_wp2;refine bodyPost_ret (v:=.tuple #[.string (bs []),ze 1 0]) ?_ rfl ⟨⟨[],1,0,rfl,.inl ⟨by rw [RA.o]; decide,rfl,by rw [RA.o],by rw [RA.o]⟩⟩,aJ _ _ _⟩;simp [results,Tryz.results27,go_sem,ze,bs]
 ·have d:decide (1000 < (s.size:Int))=false:=by simp; omega
  have RA:=hid (show As.assemble (sl s)=(((As.lines (sl s) (s.size+1) As.start).fe,(As.lines (sl s) (s.size+1) As.start).fa),As.finish (As.lines (sl s) (s.size+1) As.start).obj) by unfold As.assemble; rw [yq,if_neg hl]);have AT:=hid (yqk s w HT.o hB (by omega));have AG:=hid (XD s w);have AF:=hid (ymp s w);have TM:=hid (As.Cr (sl s) (s.size+1) As.start As.Dh);go_enter Tryz.func27,Tryz.ntmps27;go_wp2
  go_loopw [5] (fun m wr=>yqW s w m wr) (fun m wr=>UD s w m wr)
  case atStart=>exact ⟨As.start,AT.o.does,.inl ⟨rfl,s.size+1,rfl,by omega⟩⟩
  case round =>
   obtain ⟨st,hd,⟨rfl,n,hn,hle⟩ | ⟨rfl,hn⟩⟩:=hrel
   ·have D:=hid hd;have EN:=hid hn;have HL:=hid hle;have N2:=hid (HN.o.below (Pn (Tp AG.o D.o.2.1) (Nat.le_refl _) (by simp)) hB);clear hd hn hle;go_wp2_with fail;refine (ypm _ s _ _ st wr D.o.1 N2.o).mono ?_;rintro e V1 ⟨rfl,h1⟩;have D1:=hid (D.o.after h1);clear h1;go_wp2_with fail;refine (yiC _ s _ _ _ V1 D1.o.1).mono ?_;rintro e V2 ⟨rfl,h2⟩;have D2:=hid (D1.o.aN h2);clear h2
    cases hr:(As.bG (sl s) (As.line (sl s) st)).1
    ·have R:=hid hr;clear hr;go_wp2
     go_roundw
     case rel =>
      refine ⟨_,D2.o,.inr ⟨rfl,?_⟩⟩;rw [EN.o];obtain ⟨k,rfl⟩:∃ k,n=k+1:=⟨n - 1,by have:=HL.o; omega⟩
      simp only [As.lines];rw [R.o];simp
     case measure=>simp [UD]
    ·have R:=hid hr;clear hr;go_wp2
     go_roundw
     case rel =>
      have u1:=As.xS (sl s) st;have u2:=As.oU (sl s) (As.line (sl s) st) R.o;rw [yq] at u2;have hl2:=HL.o;obtain ⟨k,rfl⟩:∃ k,n=k+1:=⟨n - 1,by omega⟩
      refine ⟨_,D2.o,.inl ⟨rfl,k,?_,by omega⟩⟩;rw [EN.o];simp only [As.lines];rw [R.o];simp
     case measure =>
      have u1:=As.xS (sl s) st;have u2:=As.oU (sl s) (As.line (sl s) st) R.o;rw [yq] at u2;have p1:=D.o.1.pos;have p2:=D2.o.1.pos;simp only [UD,p1,p2];omega
   ·have D:=hid hd;rw [hn] at TM RA;clear hd hn HN AT;have FB:=hid (D.o.2.2 _ _ _ (by decide) (by decide) (by decide) (by decide) (by decide) AF.o);go_wp2_with fail;refine (D9 _ s _ _ st wr D.o.1).mono ?_;rintro e w1 ⟨rfl,rfl⟩
    cases hf:As.failed st
    ·have F0:=hid (show st.fe=0 by simpa [As.failed] using hf);clear hf;go_wp2_with fail;refine (yjr _ s _ _ st _ D.o.1).mono ?_;rintro e V1 ⟨rfl,h1⟩;have D1:=hid (D.o.after h1);clear h1;go_wp2_with fail;refine (yhg _ s _ _ _ V1 D1.o.1).mono ?_;rintro e V2 ⟨rfl,h2⟩;have D2:=hid (D1.o.after h2);clear h2 D1;have U0:=hid (D2.o.2.2 _ _ _ (by decide) (by decide) (by decide) (by decide) (by decide) AF.o);have c14:=uq D2.o.1;go_wp2_with fail;refine (ynr _ (As.finish st.obj) V2 D2.o.1.tabs D2.o.1.Hg (ylb D.o.1.ok TM.o)).mono ?_;rintro e V3 ⟨hw,hg⟩;have FG:=hid (Tp AG.o (D2.o.grown hg).2.1);have GI:=hid (U0.o.grown hg (by simp))
     have v0:=GI.o.free 0;have v1:=GI.o.free 1;have v2:=GI.o.free 2;have x0:=GI.o.cell 0;have x1:=GI.o.cell 1;have x2:=GI.o.cell 2;simp only [wu,bI,bN,bK] at x0 x1 x2;clear hg c14 D2 D FB U0;rcases hw with ⟨rfl,hv⟩ | ⟨rfl,hv⟩
     ·have HV:=hid hv;clear hv;go_wp2;have F:=D8 [(0,.int .i64 0),(1,.int .i64 0),(2,.string ⟨#[]⟩)] GI.o;have h0:=F.cell 0;have h1:=F.cell 1;have h2:=F.cell 2;simp only [wu,uy,lu,lW,gu,fZ,gq,bI,bN,bK] at h0 h1 h2;refine bodyPost_ret (v:=.tuple #[.string (bs (Lk.lN (As.finish st.obj))),ze 0 0]) ?_ rfl ⟨⟨_,0,0,rfl,.inr (.inl ⟨by rw [RA.o]; exact F0.o,by rw [RA.o]; exact HV.o,by rw [RA.o],rfl,rfl⟩)⟩,Py FG.o _ (Nat.le_refl _) [(0,.int .i64 0),(1,.int .i64 0),(2,.string ⟨#[]⟩)]⟩;clear F x0 x1 x2 v0 v1 v2;simp only [sets,lu,lW] at h0 h1 h2 ⊢;generalize World.setCell _ _ _=WF at *;simp [results,Tryz.results27,go_sem,ze,h0,h1,h2]
     ·have HV:=hid hv;clear hv;go_wp2;have F:=D8 [(0,.int .i64 20),(1,.int .i64 0),(2,.string ⟨#[]⟩)] GI.o;have h0:=F.cell 0;have h1:=F.cell 1;have h2:=F.cell 2;simp only [wu,uy,lu,lW,gu,fZ,gq,bI,bN,bK] at h0 h1 h2;refine bodyPost_ret (v:=.tuple #[.string (bs []),ze 20 0]) ?_ rfl ⟨⟨_,20,0,rfl,.inr (.inr ⟨by rw [RA.o]; exact F0.o,by rw [RA.o]; exact HV.o,rfl,rfl,rfl⟩)⟩,Py FG.o _ (Nat.le_refl _) [(0,.int .i64 20),(1,.int .i64 0),(2,.string ⟨#[]⟩)]⟩;clear F x0 x1 x2 v0 v1 v2;simp only [sets,lu,lW] at h0 h1 h2 ⊢;generalize World.setCell _ _ _=WF at *;simp [results,Tryz.results27,go_sem,ze,h0,h1,h2]
    ·have F0:=hid (show st.fe≠0 by simpa [As.failed] using hf);clear hf;have FG:=hid (Tp AG.o D.o.2.1);have c6:=yL D.o.1 6;have c7:=yL D.o.1 7;have c8:=yL D.o.1 8;simp only [yE,bI,bN,bK] at c6 c7 c8;have v0:=FB.o.free 0;have v1:=FB.o.free 1;have v2:=FB.o.free 2;have x0:=FB.o.cell 0;have x1:=FB.o.cell 1;have x2:=FB.o.cell 2;simp only [wu,bI,bN,bK] at x0 x1 x2;clear D;go_wp2
     go_region
     go_wp2;have F:=D8 [(0,.int .i64 st.fe),(1,.int .i64 st.fa),(2,.string ⟨#[]⟩)] FB.o;have h0:=F.drew.cell 0;have h1:=F.drew.cell 1;have h2:=F.drew.cell 2;simp only [wu,uy,lu,lW,gu,fZ,gq,bI,bN,bK] at h0 h1 h2;refine bodyPost_ret (v:=.tuple #[.string (bs []),ze st.fe st.fa]) ?_ rfl ⟨⟨_,st.fe,st.fa,rfl,.inl ⟨by rw [RA.o]; exact F0.o,rfl,by rw [RA.o],by rw [RA.o]⟩⟩,yh (Py FG.o _ (Nat.le_refl _) [(0,.int .i64 st.fe),(1,.int .i64 st.fa),(2,.string ⟨#[]⟩)])⟩;clear F x0 x1 x2 v0 v1 v2 c6 c7 c8;simp only [sets,lu,lW] at h0 h1 h2 ⊢;generalize World.drew _=WF at *;simp [results,Tryz.results27,go_sem,ze,bs,h0,h1,h2]
section
instance (c:Int):Decidable (qM c):=by unfold qM; infer_instance
instance (s:ByteArray):Decidable (Ej s):=by unfold Ej; infer_instance
instance (xs:List Int):Decidable (qL xs):=by unfold qL; infer_instance
instance (xs:List Int):Decidable (AJ xs):=by unfold AJ; infer_instance
instance (o:Lk.Obj):Decidable (J9 o):=by unfold J9; infer_instance
instance (o:Lk.Obj):Decidable (Ic o):=by unfold Ic; infer_instance
instance (o:Lk.Obj) (y:Lk.Sym):Decidable (El o y):=by unfold El; infer_instance
instance (o:Lk.Obj):Decidable (NQ o):=by unfold NQ; infer_instance
instance (r:Lk.Rel):Decidable (Eh r):=by unfold Eh; infer_instance
instance (r:Lk.Rel):Decidable (rU r):=by unfold rU; infer_instance
instance (o:Lk.Obj) (r:Lk.Rel):Decidable (Ka o r):=by unfold Ka; infer_instance
instance (o:Lk.Obj) (r:Lk.Rel):Decidable (KY o r):=by unfold KY; infer_instance
instance (o:Lk.Obj) (r:Lk.Rel):Decidable (Ee o r):=by unfold Ee; infer_instance
instance (o:Lk.Obj) (r:Lk.Rel):Decidable (KT o r):=by unfold KT; infer_instance
instance (k:Int) (xs:List Int):Decidable (pq k xs):=by unfold pq yR iP La yY yW nV Ba; infer_instance
instance (o:Lk.Obj) (r:Lk.Rel):Decidable (Gv o r):=by unfold Gv; infer_instance
instance (a r:Lk.Rel):Decidable (Gr a r):=by unfold Gr; infer_instance
instance (o:Lk.Obj):Decidable (NP o):=by unfold NP; infer_instance
instance Ky (o:Lk.Obj):Decidable (yv o):=by unfold yv; infer_instance
end
theorem ygE (s:ByteArray) (w:World) (ht:dQ w) (hN:nI w) (hB:3<=w.heap.size) :
  Calls Tryz.prog 22 #[.string s] w fun e w'=>(∃ t fe fa,e = .returned (.tuple #[.string (bs t),ze fe fa])/\Told (sl s) t fe fa)/\w.grownBy w' none:=by
 have cA:=hid (yjq s (w.alloc (.cells (wu 0 0) 45)) (ht.grown (aJ _ _ none)) (hN.below (Pn (aJ _ _ none) (Nat.le_refl _) (by simp)) hB) (by rw [Eb]; omega));have b0:=hid (yc.new w (wu 0 0) 45);go_enter Tryz.func22,Tryz.ntmps22;go_wp2_with fail;refine cA.o.mono ?_;rintro e V1 ⟨⟨t,fe,fa,rfl,ht⟩,hg⟩;have HT:=hid ht;have FB:=hid (b0.o.grown hg (by simp));have FG:=hid (ya (aJ w (.cells (wu 0 0) 45) none) hg);clear ht hg cA b0;unfold ze;have v0:=FB.o.free 0;have v1:=FB.o.free 1;have v2:=FB.o.free 2;have x0:=FB.o.cell 0;have x1:=FB.o.cell 1;have x2:=FB.o.cell 2;simp only [wu,bI,bN,bK] at x0 x1 x2;go_wp2
 have F:=D8 [(0,.int .i64 fe),(1,.int .i64 fa),(2,.string ⟨#[]⟩)] FB.o;have h0:=F.cell 0;have h1:=F.cell 1;have h2:=F.cell 2;simp only [wu,uy,lu,lW,gu,fZ,gq,bI,bN,bK] at h0 h1 h2;refine bodyPost_ret (v:=.tuple #[.string (bs t),ze fe fa]) ?_ rfl ⟨⟨t,fe,fa,rfl,HT.o⟩,Py FG.o _ (Nat.le_refl _) [(0,.int .i64 fe),(1,.int .i64 fa),(2,.string ⟨#[]⟩)]⟩;clear F x0 x1 x2 v0 v1 v2;simp only [sets,lu,lW] at h0 h1 h2 ⊢;generalize World.setCell _ _ _=WF at *;simp [results,Tryz.results22,go_sem,ze,h0,h1,h2]
def iy (t:List UInt8):List UInt8:=Lk.lN (As.assemble t).2
def J7 (t:List UInt8):Prop:=(As.assemble t).1.1=0/\yv (As.assemble t).2
theorem ymo {s t:List UInt8} {fe fa:Nat} (h:J7 s) (k:Told s t fe fa):fe=0/\t=iy s:=by
 rcases k with ⟨h1,-⟩ | ⟨h1,h2,h3,h4,-⟩ | ⟨h1,h2,-⟩
 ·exact absurd h.1 h1
 ·exact ⟨h4,h3⟩
 ·exact absurd h.2 h2
theorem ylI {w:World} {B:Nat} {ao:Option Addr} {cap:Nat} {fs:List (List UInt8)} (h:w.ownsRow B 9 1 (.slice ao fs.length cap) fs.length (fs.map fun l=>.string (bs l))):AQ w ao fs:=by
 intro hp;obtain ⟨sg,hs,-,-,-,hc⟩:=JV h hp;refine ⟨sg,0,hs,fun i hi=>?_⟩;rw [Nat.zero_add,hc i hi,List.getElem?_map,j3 hi];rfl
theorem yps (ts:List (List UInt8)) (am:Option Addr) (cm:Nat) (w:World) (hin:AQ w am ts) (hl:ts.length<=64) (hok:∀ t∈ts,J7 t) (ht:dQ w) (hN:nI w) (hB:3<=w.heap.size) :
  Calls Tryz.prog 15 #[.slice am ts.length cm] w fun e w'=>(∃ ao cap,e = .returned (.tuple #[.slice ao ts.length cap,.bool true])/\AQ w' ao (ts.map iy))/\w.grownBy w' none:=by
 obtain ⟨i0,hi,hz0,hz1,hz2⟩:=info_parts Tryz.xQ;have HI:=hid hin;have HT:=hid ht;have HN:=hid hN;have HK:=hid hok;clear hin ht hN hok;go_enter Tryz.func15,Tryz.ntmps15;go_wp2
 go_loopw [4,5] (fun v i wr=>∃ (k:Nat),k<=ts.length/\i = .int .i64 k/\wr.ownsRow w.heap.size 9 1 v k (((ts.take k).map iy).map fun l=>.string (bs l))/\w.grownBy wr none) (fun _ i _=>ts.length - (intOf i).toNat)
 case atStart=>exact ⟨0,Nat.zero_le _,rfl,World.ownsRow_nil _ _ _ _,World.grownBy.refl _ _⟩
 case round =>
  obtain ⟨k,hk,rfl,hown,hgr⟩:=hrel;obtain ⟨av,cv,rfl⟩:=yi hown;have HO:=hid hown;have G:=hid hgr;clear hown hgr;by_cases hlt:k < ts.length
  ·obtain ⟨g0,off,rfl,hc⟩:=HI.o.kept G.o (by omega);have cc:=hc k hlt;have hz:=G.o.size;have g1:(k:Int) < (ts.length:Int):=by omega
   have Vv:=HK.o _ (iq hlt);have TK:=hid (show (((ts.take (k+1)).map iy).map fun l=>Value.string (bs l))=(((ts.take k).map iy).map fun l=>.string (bs l)) ++ [.string (bs (iy ts[k]))] by
    rw [List.take_succ_eq_append_getElem hlt,List.map_append,List.map_append];rfl)
   generalize ts[k]=tx at *;clear hc;go_wp2_with fail;refine (ygE (bs tx) wr (HT.o.grown G.o) (HN.o.below (Pn G.o (Nat.le_refl _) (by simp)) hB) (by omega)).mono ?_;rintro e V ⟨⟨t,fe,fa,rfl,htold⟩,hg⟩;rw [Gx] at htold;obtain ⟨rfl,rfl⟩:=ymo Vv htold;have G2:=hid (ya (ya G.o hg) (aJ V (.cells #[.int .i64 0,.int .i64 fa,.string ⟨#[]⟩] 45) none));have DV:=hid ((HO.o.kept hg (Decidable.em _)).alloc (.cells #[.int .i64 0,.int .i64 fa,.string ⟨#[]⟩] 45));have hzz:=hg.size;have CN:=cell_one_new (V.alloc (.cells #[.int .i64 0,.int .i64 fa,.string ⟨#[]⟩] 45)) (.string (bs (iy tx))) 9;rw [Eb] at CN;have CNH:=hid CN
   clear htold hg cc HO G CN Vv;generalize iy tx=t at *;unfold ze;go_wp2_with (at_builtin; refine wpList_append_own _ rfl _ _ 29 rfl w.heap.size 9 i0 (.string ⟨#[]⟩) 1 16 Tryz.underlying29 hi hz0 hz1 hz2 rfl (by decide) _ _ _ rfl (DV.o.alloc _) ⟨V.heap.size+1,0,none⟩ 1 1 [.string (bs t)] rfl rfl CNH.o (by intro u hu; simp at hu; subst hu; rfl) (by unfold maxLen; omega) (by omega) (by simp; omega) ?_; intro v' w3 hown' hgrow _; obtain ⟨oh,cv',rfl⟩:=yi hown'; have K:=hid hown'; have GK:=hid (KP (ya G2.o (aJ _ _ _)) hgrow (fun b hb=>(DV.o.lt b hb).1)); clear hgrow hown')
   go_wp2
   go_roundw
   case rel=>exact ⟨k+1,by omega,by go_num,by rw [TK.o]; exact K.o,GK.o⟩
   case measure=>simp [intOf]; omega
  ·obtain rfl:k=ts.length:=by omega
   have g3:decide ((ts.length:Int) < (ts.length:Int))=false:=by simp
   rw [List.take_length] at HO;go_wp2;go_ret2;refine ⟨⟨av,cv,rfl,ylI (B:=w.heap.size) (cap:=cv) ?_⟩,G.o⟩;rw [rW];exact HO.o
theorem yjT {bt bf bd:Int} {fs:List (List UInt8)} {e:Ending} (h:J2 bt bf bd fs e):∃ (b:List UInt8) (f:Ln.qN),e = .returned (.tuple #[.string (bs b),fQ f]):=by
 rcases h with ⟨f,-,he,-⟩ | ⟨-,-,-,xs,hx,-,he⟩
 ·exact ⟨_,_,he⟩
 ·exact ⟨_,_,he⟩
theorem ynW (bt bf bd:Int) (af:Option Addr) (cf:Nat) (fs:List (List UInt8)) (w:World) (hin:AQ w af fs) (hsz:∀ f∈fs,f.length<=1048576) (ht:dQ w) (hn:fs.length<=1048576) :
  Calls Tryz.prog 23 #[.slice af fs.length cf,.agg #[.int .i64 bt,.int .i64 bf,.int .i64 bd]] w fun e w'=>J2 bt bf bd fs e/\w.grownBy w' none:=by
 have HI:=hid hin;have HT:=hid ht;have cL:=hid (fun W (hg:w.grownBy W none)=>ypn bt bf bd af cf fs W (HI.o.kept hg) hsz (HT.o.grown hg) hn);have hs1:(w.alloc (.cells #[.int .i64 bt,.int .i64 bf,.int .i64 bd] 33)).heap.size=w.heap.size+1:=Array.size_push _;have A1:=aJ (w.alloc (.cells #[.int .i64 bt,.int .i64 bf,.int .i64 bd] 33)) (.cells #[.int .i64 0,.int .i64 0,.string ⟨#[]⟩] 45) none;have G1:=hid (ya (aJ w (.cells #[.int .i64 bt,.int .i64 bf,.int .i64 bd] 33) none) A1);have BR:=hid (yc.new (w.alloc (.cells #[.int .i64 bt,.int .i64 bf,.int .i64 bd] 33)) #[.int .i64 0,.int .i64 0,.string ⟨#[]⟩] 45)
 rw [hs1] at BR;clear hin ht A1 hs1;go_enter Tryz.func23,Tryz.ntmps23;go_wp2_with fail;generalize (w.alloc (.cells #[.int .i64 bt,.int .i64 bf,.int .i64 bd] 33)).alloc (.cells #[.int .i64 0,.int .i64 0,.string ⟨#[]⟩] 45)=W1 at *;have GY:w.heap.size<=w.heap.size+1:=by omega
 generalize w.heap.size+1=R at *;refine (cL.o _ G1.o).mono ?_;rintro e V1 ⟨hret,hg⟩;obtain ⟨b,f,rfl⟩:=yjT hret;have Ey:=hid hret;have FB:=hid (BR.o.grown hg (by simp));have FG:=hid (ya G1.o hg);clear hret hg cL BR;obtain ⟨fe,fa,fn⟩:=f;unfold fQ;dsimp only;have v0:=FB.o.free 0;have v1:=FB.o.free 1;have v2:=FB.o.free 2;have x0:=FB.o.cell 0;have x1:=FB.o.cell 1;have x2:=FB.o.cell 2;simp only [bI,bN,bK] at x0 x1 x2;go_wp2;have F:=((FB.o.set 0 (.int .i64 fe)).set 1 (.int .i64 fa)).set 2 (.string (bs fn));have h0:=F.cell 0;have h1:=F.cell 1;have h2:=F.cell 2;simp only [gu,fZ,gq,bI,bN,bK] at h0 h1 h2
 refine bodyPost_ret (v:=.tuple #[.string (bs b),fQ ⟨fe,fa,fn⟩]) ?_ rfl ⟨Ey.o,yz FG.o _ GY _ _ _⟩;clear F x0 x1 x2 v0 v1 v2;generalize World.setCell _ _ _=WF at *;simp [results,Tryz.results23,go_sem,fQ,h0,h1,h2]
def Qk (xs:List Int):Bool:=xs.all fun x=>decide (0<=x) && decide (x<=4294967295)
theorem TP {xs:List Int} (h:Qk xs=true):qL xs:=by
 intro i hi
 have:=List.all_eq_true.1 h _ (iq hi)
 simp at this;exact this
def Ur (o:Lk.Obj):Bool:=decide (J9 o) && (decide (AJ o.align) && (Qk o.text && (Qk o.far && (Qk o.data && (decide (NQ o) && decide (NP o))))))
theorem Yl {o:Lk.Obj} (h:Ur o=true):yv o:=by
 unfold Ur at h;simp only [Bool.and_eq_true,decide_eq_true_eq] at h;obtain ⟨h1,h2,h3,h4,h5,h6,h7⟩:=h;exact ⟨h1,h2,⟨TP h3,TP h4,TP h5⟩,h6,h7⟩
def Qn (f:Ln.qN) (e at_:Int) (n:List UInt8):Prop:=f.e=e/\f.at_=at_/\f.name=n
instance (f:Ln.qN) (e at_:Int) (n:List UInt8):Decidable (Qn f e at_ n):=by unfold Qn; infer_instance
def Um (os:List Lk.Obj) (bt bf bd:Int) (e at_:Int) (n:List UInt8):Prop:=(Ln.gJ os bt bf bd).1=[]/\Qn (Ln.gJ os bt bf bd).2 e at_ n
instance (os:List Lk.Obj) (bt bf bd:Int) (e at_:Int) (n:List UInt8):Decidable (Um os bt bf bd e at_ n):=by unfold Um; infer_instance
theorem ykX {l:List UInt8} {a b:Bool} {os ps:List Lk.Obj} (h:uG l a os) (k:uG l b ps):a=b/\os=ps:=by
 rcases h with ⟨rfl,h1,rfl⟩ | ⟨rfl,h1,ms,h2,rfl⟩
 ·rcases k with ⟨rfl,-,rfl⟩ | ⟨-,k1,-⟩
  ·exact ⟨rfl,rfl⟩
  ·exact absurd h1 k1
 ·rcases k with ⟨-,k1,-⟩ | ⟨rfl,-,ns,k2,rfl⟩
  ·exact absurd k1 h1
  ·exact ⟨rfl,by rw [<- YQ h2,<- YQ k2]⟩
theorem ymx {o:Lk.Obj} (hv:yv o):uG (Lk.lN o) false [o]:=by
 have hg:=KS hv;have q:=OU ((Lk.jX (Lk.lN o) o).2 ⟨hg,rfl⟩) hv;exact .inl ⟨rfl,q.1,by rw [q.2]⟩
theorem ymw {t:List UInt8} (h:J7 t):uG (iy t) false [(As.assemble t).2]:=ymx h.2
theorem ynb {l:List UInt8} {a:Bool} {os:List Lk.Obj} (h:uG l a os) (k:NJ l):False:=by
 rcases h with ⟨-,h1,-⟩ | ⟨-,-,ms,h2,-⟩
 ·exact k.1 h1
 ·exact k.2 ms h2
def K9:List (List UInt8)->List (Bool×List Lk.Obj)->Prop
 | [],[]=>True
 | l :: ls,x :: xs=>uG l x.1 x.2/\K9 ls xs
 | _,_=>False
theorem Yt:∀ {fs:List (List UInt8)} {xs:List (Bool×List Lk.Obj)},K9 fs xs->xs.length=fs.length:=by
 intro fs
 induction fs with
 | nil =>
  intro xs h
  cases xs with
  | nil=>rfl
  | cons x xs=>exact h.elim
 | cons l ls ih =>
  intro xs h
  cases xs with
  | nil=>exact h.elim
  | cons x xs=>rw [jm,jm,ih h.2]
theorem YH:∀ {fs:List (List UInt8)} {xs:List (Bool×List Lk.Obj)},K9 fs xs->∀ i (h:i < fs.length) (h':i < xs.length),uG fs[i] xs[i].1 xs[i].2:=by
 intro fs
 induction fs with
 | nil=>intro xs _ i h; simp at h
 | cons l ls ih =>
  intro xs h i hi hx
  cases xs with
  | nil=>exact h.elim
  | cons x xs =>
   cases i with
   | zero=>exact h.1
   | succ i=>exact ih h.2 i (by simpa using hi) (by simpa using hx)
theorem ymy {fs:List (List UInt8)} {xs ys:List (Bool×List Lk.Obj)} (h:K9 fs xs) (hy:ys.length=fs.length) (k:∀ i (h:i < fs.length),uG fs[i] (ys[i]'(by omega)).1 (ys[i]'(by omega)).2):ys=xs:=by
 have hl:=Yt h;apply List.ext_getElem
 ·omega
 ·intro i h1 h2;have a:=YH h i (by omega) h2;have b:=k i (by omega);have u:=ykX b a;exact Prod.ext u.1 u.2
theorem ymQ {bt bf bd:Int} {fs:List (List UInt8)} {xs:List (Bool×List Lk.Obj)} {e:Ending} (h:J2 bt bf bd fs e) (hb:Im.Base bt/\Im.Base bf/\Im.Base bd) (h1:1<=fs.length) (h8:fs.length<=8) (hf:K9 fs xs):e = .returned (.tuple #[.string (bs (Ln.gJ (Ln.bQ xs) bt bf bd).1),fQ (Ln.gJ (Ln.bQ xs) bt bf bd).2]):=by
 have hok:pO bt bf bd=Ln.ok:=by
  unfold pO;rw [if_neg (not_not_intro hb.1),if_neg (not_not_intro hb.2.1),if_neg (not_not_intro hb.2.2)]
 rcases h with ⟨f,hfe,-,c⟩ | ⟨-,-,-,ys,hy,k,rfl⟩
 ·rcases c with rfl | ⟨-,c,-⟩ | ⟨-,-,-,i,hi,-,hn,-⟩
  ·exact absurd (by rw [hok]; rfl) hfe
  ·omega
  ·exact (ynb (YH hf i hi (by rw [Yt hf]; exact hi)) hn).elim
 ·rw [ymy hf hy k]
theorem ypz (w:World):Calls Tryz.prog 17 #[] w fun e w'=>e = .returned (.agg #[.int .i64 4096,.int .i64 65536,.int .i64 131072])/\w.grownBy w' none:=by
 have A0:=hid (aJ w (.cells #[.int .i64 4096,.int .i64 65536,.int .i64 131072] 33) none);go_enter Tryz.func17,Tryz.ntmps17;go_wp2;refine bodyPost_ret (v:=.agg #[.int .i64 4096,.int .i64 65536,.int .i64 131072]) ?_ rfl ⟨rfl,A0.o⟩;simp [results,Tryz.results17,go_sem]
theorem yoN (w:World):Calls Tryz.prog 20 #[] w fun e w'=>e = .returned (.agg #[.int .i64 16777216,.int .i64 67108864,.int .i64 1048576])/\w.grownBy w' none:=by
 have A0:=hid (aJ w (.cells #[.int .i64 16777216,.int .i64 67108864,.int .i64 1048576] 33) none);go_enter Tryz.func20,Tryz.ntmps20;go_wp2;refine bodyPost_ret (v:=.agg #[.int .i64 16777216,.int .i64 67108864,.int .i64 1048576]) ?_ rfl ⟨rfl,A0.o⟩;simp [results,Tryz.results20,go_sem]
theorem Y9 {W:World} {X:Nat} {t:TypeId} (fs:List (List UInt8)) (h:yc W X (fs.map fun l=>Value.string (bs l)).toArray t):AQ W (some ⟨X,0,none⟩) fs:=fun _=>⟨X,0,rfl,fun i hi=>by
 rw [Nat.zero_add,h.cell i,bI,List.getElem?_map,j3 hi];rfl⟩
def yrN (s:List UInt8) (o:Lk.Obj):Prop:=uG s false [o]/\s.length<=1048576
theorem Uo {t:List UInt8} (h:J7 t):yrN (iy t) (As.assemble t).2:=⟨ymw h,by have:=X6 h.2; unfold iy; omega⟩
theorem ynD:Im.Base 4096/\Im.Base 65536/\Im.Base 131072:=by unfold Im.Base; omega
theorem ynC:Im.Base 16777216/\Im.Base 67108864/\Im.Base 1048576:=by unfold Im.Base; omega
theorem ynV (m:Im.dZ):Im.lG m↔(Im.Base m.text/\Im.Base m.far/\Im.Base m.data)/\Im.Fits m/\(Im.code m m.start).isSome=true:=by
 rw [Im.Bu];unfold Im.lG Im.Fits Im.oq Im.oo Im.om;constructor
 ·rintro ⟨a,b,c,d⟩; exact ⟨a,⟨b,c⟩,d⟩
 ·rintro ⟨a,⟨b,c⟩,d⟩; exact ⟨a,b,c,d⟩
theorem yjK (g:Nat) (m:Im.dZ) (w:World) (h:mQ w g m) (ht:Im.jF m) :
  Calls Tryz.prog 46 #[.pointer (some ⟨g,0,none⟩)] w fun e w'=>yg e (Im.lG m)/\w.grownBy w' none:=by
 have H:=hid h;have HT:=hid ht;obtain ⟨at_,ct,af,cf,ad,cd,hb,-,-,-⟩:=h.open;have k0:=hb.cell 0;have k1:=hb.cell 1;have k2:=hb.cell 2;have k3:=hb.cell 3;simp only [bI,bN,bK] at k0 k1 k2 k3;have c1:=hid (fun W=>O8 m.text W ht.text.1 ht.text.2);have c2:=hid (fun W=>O8 m.far W ht.far.1 ht.far.2);have c3:=hid (fun W=>O8 m.data W ht.data.1 ht.data.2);have Q0:=hid (ynV m);generalize Im.lG m=Q at *;clear h ht hb;go_enter Tryz.func46,Tryz.ntmps46;go_wp2_with fail;refine (c1.o w).mono ?_;rintro e V ⟨t,rfl⟩;rcases t.split with ⟨rfl,p1⟩ | ⟨rfl,p1⟩ <;> clear t c1
 ·go_wp2;go_ret;exact ⟨yg.no fun q=>p1.o (Q0.o.1 q).1.1,World.grownBy.refl _ _⟩
 go_wp2_with fail;refine (c2.o _).mono ?_;rintro e V ⟨t,rfl⟩;rcases t.split with ⟨rfl,p2⟩ | ⟨rfl,p2⟩ <;> clear t c2
 ·go_wp2;go_ret;exact ⟨yg.no fun q=>p2.o (Q0.o.1 q).1.2.1,World.grownBy.refl _ _⟩
 go_wp2_with fail;refine (c3.o _).mono ?_;rintro e V ⟨t,rfl⟩;rcases t.split with ⟨rfl,p3⟩ | ⟨rfl,p3⟩ <;> clear t c3
 ·go_wp2;go_ret;exact ⟨yg.no fun q=>p3.o (Q0.o.1 q).1.2.2,World.grownBy.refl _ _⟩
 go_wp2_with fail;refine (WY g m V H.o HT.o).mono ?_;rintro e V1 ⟨t,hg⟩;have G1:=hid hg;rcases t.split with ⟨rfl,p4⟩ | ⟨rfl,p4⟩ <;> clear t
 ·go_wp2;go_ret;exact ⟨yg.no fun q=>p4.o (Q0.o.1 q).2.1,G1.o⟩
 replace k0:=yd k0 hg;clear hg k1 k2 k3;go_wp2_with fail;refine (Px g m m.start V1 (H.o.kept G1.o) HT.o HT.o.start.1 HT.o.start.2).mono ?_;rintro e V2 ⟨rfl,n,rfl⟩;have GF:=hid (yf G1.o n)
 cases hc:(Im.code m m.start).isSome
 ·have N:=hid (show ¬ Q from fun q=>by have:=(Q0.o.1 q).2.2; rw [hc] at this; cases this);go_wp2;go_ret;exact ⟨yg.no N.o,GF.o⟩
 ·have N:=hid (show Q from Q0.o.2 ⟨⟨p1.o,p2.o,p3.o⟩,p4.o,hc⟩);go_wp2;go_ret;exact ⟨yg.yes N.o,GF.o⟩
section
variable {P:Program} (w:World)
end
namespace Im
instance (a b c d:Int):Decidable (kJ a b c d):=by unfold kJ; infer_instance
end Im
theorem XG {w a c:World} {row:Option Nat} (h:w.grownBy a none) (k:a.grownBy c row) (hb:∀ b,row=some b->w.heap.size<=b):w.grownBy c none :=
 ⟨k.os.trans h.os,k.tape.trans h.tape,k.output.trans h.output,Nat.le_trans h.size k.size,fun i hi _ =>
  (k.block i (Nat.lt_of_lt_of_le hi h.size) (fun e=>by have:=hb i e.symm; omega)).trans (h.block i hi (by simp))⟩
section
variable {w wr w3:World} {l:List UInt8} {g nt nf k:Nat} {a0 a1 a2 a3:Int} {vT vF vD v':Value} {B1 B2:Nat} {ob:Obj}
end
theorem O7 (l:List UInt8) (p:Nat):0<=dR l p 4/\dR l p 4 < 4294967296:=by have:=TQ l p 4; simpa using this
theorem ymC (l:List UInt8):Im.jF (Im.fA l):=by
 have h:=Im.Ju l;have h2:=Im.jM l 24;refine ⟨O7 l 2,O7 l 6,O7 l 10,O7 l 14,⟨?_,?_,?_⟩,?_⟩
 ·simp only [Im.fA,Im.gX]; omega
 ·simp only [Im.fA,Im.gX]; omega
 ·simp only [Im.fA,Im.gX]; omega
 ·simp only [Im.fA]; omega
theorem yls (l:List UInt8) (a b:UInt8) (h:(Lk.aH l 2 (0,false)).1=[a,b]):(Lk.aH l 2 (0,false)).2=(2,false)/\2<=l.length/\l.take 2=[a,b]:=by
 unfold Lk.aH at h ⊢;simp only [Nat.sub_zero,List.drop_zero,Nat.zero_add] at h ⊢;split at h
 ·rename_i hl;rw [if_pos hl];exact ⟨rfl,hl,h⟩
 ·cases h
theorem yll (l:List UInt8) (a b:UInt8) (h:l.take 2=[a,b]):(Lk.aH l 2 (0,false)).1=[a,b]:=by
 unfold Lk.aH;simp only [Nat.sub_zero,List.drop_zero]
 have:2<=l.length:=by have:=congrArg List.length h; simp at this; omega
 rw [if_pos this];exact h
def yqg (s:ByteArray) (e:Ending) (w':World):Prop :=
 (Im.lH (sl s)/\∃ g,e = .returned (.tuple #[.pointer (some ⟨g,0,none⟩),.int .i64 0])/\mQ w' g (Im.fA (sl s))) \/
 (¬ Im.lH (sl s)/\e = .returned (.tuple #[.pointer none,.int .i64 23]))
theorem yle (s:ByteArray) (w:World) (hs:s.size<=1048576) :
  Calls Tryz.prog 29 #[.string s] w fun e w'=>yqg s e w'/\w.grownBy w' none:=by
 have hsz:=yq s;have TM:=hid (ymC (sl s));go_enter Tryz.func29,Tryz.ntmps29;go_wp2_with fail;refine (Sw s w).mono ?_;rintro e W1 ⟨rfl,g1⟩;have R:bF (W1.alloc (.cells #[.string s,.int .i64 0,.bool false] 83)) W1.heap.size s 0 false:=heap_alloc_new W1 _;have HR:=hid R;have G1:=hid g1;have GA:=hid (aJ W1 (.cells #[.string s,.int .i64 0,.bool false] 83) none);have hz:=hid g1.size;clear R g1;by_cases hm:(Lk.aH (sl s) 2 (0,false)).1=[73,77]
 ·have cR:=hid (yiP W1.heap.size s 0 false _ HR.o hs (Nat.zero_le _) hm);obtain ⟨m1,m2,m3⟩:=yls _ _ _ hm;rw [m1] at cR;have FU:=hid (fun h:Im.Full (sl s)=>Im.xw (sl s) h);have ON:=hid (Im.xA (sl s) m2);have IS:=hid (show Im.lH (sl s)↔Im.Full (sl s)/\Im.lG (Im.fA (sl s)) from ⟨fun q=>q.2,fun q=>⟨m3,q⟩⟩);generalize Im.nM (sl s) (2,false)=X at *;obtain ⟨m,p',s'⟩:=X;simp only at cR ON FU;clear hm m1 m2 m3;go_wp2_with fail;refine cR.o.mono ?_;rintro e W2 ⟨g,rfl,hg,MC,hrd,hgr⟩;have Vh:=hid MC;have Er:=hid hrd;have GR:=hid hgr;clear MC hrd hgr hg cR;have cD:=hid (TS W1.heap.size s p' s' W2 Er.o);go_wp2_with fail
  refine cD.o.mono ?_;rintro e W3 ⟨rfl,kd,rfl⟩;have GF:=hid (yf (XG (ya G1.o GA.o) GR.o (by intro b e; simp at e; have:=hz.o; omega)) kd);clear cD;by_cases hd:s'=false/\p'=s.size
  ·obtain ⟨rfl,rfl⟩:=hd;have hfu:=ON.o (by rw [hsz]);have HF:=hid hfu;have hmm:m=Im.fA (sl s):=congrArg Prod.fst (FU.o hfu);subst hmm;have cV:=hid (yjK g (Im.fA (sl s)) (W2.drewN kd) (Vh.o.kept (yf (World.grownBy.refl _ _) kd)) TM.o);have dd:(!false && decide (s.size=s.size))=true:=by simp
   clear hfu hsz;go_wp2_with fail;refine cV.o.mono ?_;rintro e W4 ⟨t,q⟩;have GQ:=hid (ya GF.o q);have Qy:=hid (Vh.o.kept (ya (yf (World.grownBy.refl _ _) kd) q));rcases t.split with ⟨rfl,pv⟩ | ⟨rfl,pv⟩ <;> clear t q cV
   ·go_wp2;go_ret2;exact ⟨.inr ⟨fun q=>pv.o (IS.o.1 q).2,rfl⟩,GQ.o⟩
   ·go_wp2;go_ret2;exact ⟨.inl ⟨IS.o.2 ⟨HF.o,pv.o⟩,g,rfl,Qy.o⟩,GQ.o⟩
  ·have N:=hid (show ¬ Im.lH (sl s) from fun q=>by
    have:=congrArg Prod.snd (FU.o (IS.o.1 q).1)
    simp only [Prod.mk.injEq] at this;exact hd ⟨this.2,by rw [<- hsz]; exact this.1⟩)
   have dd:(!s' && decide (p'=s.size))=false:=by
    cases s'
    ·simp at hd ⊢; exact hd
    ·rfl
   clear hsz hd;go_wp2;go_ret2;exact ⟨.inr ⟨N.o,rfl⟩,GF.o⟩
 ·have cR:=hid (ykm W1.heap.size s 0 false _ HR.o hs (Nat.zero_le _) hm);have N:=hid (show ¬ Im.lH (sl s) from fun q=>hm (yll _ _ _ q.1));clear hm;go_wp2_with fail;refine cR.o.mono ?_;rintro e W2 ⟨rfl,hgr⟩;have GR:=hid hgr;clear hgr cR;go_wp2;go_ret2;exact ⟨.inr ⟨N.o,rfl⟩,XG (ya G1.o GA.o) GR.o (by intro b e; simp at e; have:=hz.o; omega)⟩
def yqX (W:World) (x:Nat) (m:Im.dZ):Prop:=∃ g,yc W x #[.pointer (some ⟨g,0,none⟩)] 59/\mQ W g m
def ZL (s:ByteArray) (e:Ending) (w':World):Prop :=
 (Im.lH (sl s)/\∃ x,e = .returned (.tuple #[.pointer (some ⟨x,0,none⟩),.int .i64 0])/\yqX w' x (Im.fA (sl s))) \/
 (¬ Im.lH (sl s)/\e = .returned (.tuple #[.pointer none,.int .i64 23]))
theorem ynT (s:ByteArray) (w:World) (hs:s.size<=1048576) :
  Calls Tryz.prog 24 #[.string s] w fun e w'=>ZL s e w'/\w.grownBy w' none:=by
 have cR:=hid (yle s w hs);go_enter Tryz.func24,Tryz.ntmps24;go_wp2_with fail;refine cR.o.mono ?_;rintro e W1 ⟨hr,hg⟩;have G:=hid hg;clear hg cR;rcases hr with ⟨q,g,rfl,hi⟩ | ⟨q,rfl⟩
 ·have Q:=hid q;have HI:=hid hi;clear q hi;go_wp2;go_ret2;have GA:=aJ W1 (.cells #[.pointer (some ⟨g,0,none⟩)] 59) none;exact ⟨.inl ⟨Q.o,W1.heap.size,rfl,g,yc.new _ _ _,HI.o.kept GA⟩,ya G.o GA⟩
 ·have Q:=hid q;clear q;go_wp2;go_ret2;exact ⟨.inr ⟨Q.o,rfl⟩,G.o⟩
theorem yiI (g:Nat) (m:Im.dZ) (w:World) (hI:mQ w g m) (hT:Im.jF m) :
  Calls Tryz.prog 47 #[.pointer (some ⟨g,0,none⟩)] w fun e w'=>∃ v,e = .returned v/\w'.ownsRow w.heap.size 3 1 v (m.D.length+m.noughts.toNat) ((m.D ++ List.replicate m.noughts.toNat 0).map (Value.int .i64))/\w.grownBy w' none:=by
 obtain ⟨i0,hi,hz0,hz1,hz2⟩:=info_parts Tryz.kN;obtain ⟨a1,t1,a2,t2,ad,cd,hb,-,-,q3⟩:=hI.open;have HB:=hid hb;have DI:=hid (yy.aO q3);have hcap:=qU q3;have hl:=hT.lens.2.2;have hn:=hT.noughts;have k6:=hb.cell 6;simp only [bI,bN,bK] at k6;clear hI hT hb q3;obtain ⟨nb,hnb⟩:=Int.eq_ofNat_of_zero_le hn.1;have Vm:=hid hnb;rw [hnb];simp only [Int.toNat_natCast];go_enter Tryz.func47,Tryz.ntmps47;go_wp2;clear k6
 go_loopw [3,12] (fun v i wr=>∃ k:Nat,k<=m.D.length/\i = .int .i64 k/\wr.ownsRow w.heap.size 3 1 v k ((m.D.take k).map (Value.int .i64))/\w.grownBy wr none) (fun _ i _=>m.D.length - (intOf i).toNat)
 case atStart=>exact ⟨0,Nat.zero_le _,rfl,World.ownsRow_nil _ _ _ _,World.grownBy.refl _ _⟩
 case round =>
  obtain ⟨k,hk,rfl,hown,hgr⟩:=hrel;obtain ⟨av,cv,rfl⟩:=yi hown;have HG:=hid hgr;have hsz:=hgr.size;by_cases hlt:k < m.D.length
  ·obtain ⟨sg,off,rfl,hcells⟩:=DI.o.kept (fun a v e=>yd e hgr) (by omega);have ck:=hcells k hlt;clear hcells hgr;have E:=hid (show (m.D.take (k+1)).map (Value.int .i64)=(m.D.take k).map (Value.int .i64) ++ [.int .i64 m.D[k]] by rw [List.take_succ_eq_append_getElem hlt,List.map_append]; rfl);have g1:(k:Int) < (m.D.length:Int):=by omega
   generalize m.D[k]=x at *;go_wp2_with (at_builtin; refine wpList_append_own _ rfl _ _ 35 rfl w.heap.size 3 i0 (.int .i64 0) 1 8 Tryz.underlying35 hi hz0 hz1 hz2 rfl (by decide) _ _ _ rfl (hown.alloc _) ⟨wr.heap.size,0,none⟩ 1 1 [.int .i64 x] rfl rfl (cell_one_new _ _ _) (by intro u hu; simp at hu; subst hu; rfl) (by unfold maxLen; omega) (by omega) (by simp; omega) ?_; intro v' w3 hown' hgrow _; obtain ⟨oh,cv',rfl⟩:=yi hown'; have K:=hid hown'; have GK:=hid (yO (ya HG.o (aJ _ _ _)) hgrow (fun b hb=>(hown.lt b hb).1)); clear hgrow hown')
   go_wp2
   go_roundw
   case rel=>exact ⟨k+1,by omega,by go_num,by rw [E.o]; exact K.o,GK.o⟩
   case measure=>simp [intOf]; omega
  ·obtain rfl:k=m.D.length:=by omega
   have g0:decide ((m.D.length:Int) < (m.D.length:Int))=false:=by simp
   rw [List.take_length] at hown;have HO:=hid hown;clear hown hgr;obtain ⟨U,hU⟩:∃ U:World,U=wr:=⟨_,rfl⟩
   subst hU;go_wp2
   go_loopw [3,6] (fun v i wr=>∃ k:Nat,k<=nb/\i = .int .i64 k/\wr.ownsRow w.heap.size 3 1 v (m.D.length+k) ((m.D ++ List.replicate k 0).map (Value.int .i64))/\w.grownBy wr none) (fun _ i _=>nb - (intOf i).toNat)
   case atStart=>exact ⟨0,Nat.zero_le _,rfl,by simpa using HO.o,HG.o⟩
   case round =>
    obtain ⟨k,hk2,rfl,hown,hgr⟩:=hrel;obtain ⟨QJ,QO,rfl⟩:=yi hown;have HG2:=hid hgr;have hsz2:=hgr.size;have k7:=(HB.o.grown hgr (by simp)).cell 7;simp only [bI,bN,bK] at k7;rw [Vm.o] at k7;clear hgr;have aai:nb<=65535:=by have:=Vm.o; omega
    by_cases hlt2:k < nb
    ·have g1:(k:Int) < (nb:Int):=by omega
     have E:=hid (show (m.D ++ List.replicate (k+1) 0).map (Value.int .i64)=(m.D ++ List.replicate k 0).map (Value.int .i64) ++ [.int .i64 0] by simp [List.replicate_succ']);go_wp2_with (at_builtin; refine wpList_append_own _ rfl _ _ 35 rfl w.heap.size 3 i0 (.int .i64 0) 1 8 Tryz.underlying35 hi hz0 hz1 hz2 rfl (by decide) _ _ _ rfl (hown.alloc _) ⟨wr.heap.size,0,none⟩ 1 1 [.int .i64 0] rfl rfl (cell_one_new _ _ _) (by intro u hu; simp at hu; subst hu; rfl) (by unfold maxLen; omega) (by omega) (by simp; omega) ?_; intro v' w3 hown' hgrow _; obtain ⟨oh,cv',rfl⟩:=yi hown'; have K:=hid hown'; have GK:=hid (yO (ya HG2.o (aJ _ _ _)) hgrow (fun b hb=>(hown.lt b hb).1)); clear hgrow hown')
     go_wp2
     go_roundw
     case rel=>exact ⟨k+1,by omega,by go_num,by rw [E.o]; exact K.o,GK.o⟩
     case measure=>simp [intOf]; omega
    ·obtain rfl:k=nb:=by omega
     have DV:=hid hown;clear hown;have g2:decide ((k:Int) < (k:Int))=false:=by simp
     go_wp2;go_ret;exact ⟨_,rfl,DV.o,HG2.o⟩
section
variable {P:Program} (w:World)
theorem ylz (t:TypeId) (b:Nat) (e:TypeId) (cur:Array Value) (V:Value) (i:TypeInfo) (hi:P.info? t=some i) (hsz:V.cells.size=i.size) (hb:w.heap[b]?=some (.cells cur e (0,0))) (hcur:cur.size=V.cells.size) (h1:∀ u∈V.cells.toList,u.oneCell'=true) :
  (Instr.storeAt t (.pointer (some ⟨b,0,none⟩)) V).run P w = .ok () (w.setRow b V.cells):=by
 have hst:=run_storeCells_at P b 0 e V.cells.toList 0 cur w hb (by simp; omega) h1;have e1:(cur.toList.take (0+0) ++ V.cells.toList ++ cur.toList.drop (0+0+V.cells.toList.length)).toArray=V.cells:=by
  have:cur.toList.drop V.cells.size=[]:=List.drop_eq_nil_of_le (by simp; omega)
  simp [this]
 rw [e1] at hst;simp [Instr.storeAt,storeVar,Instr.sureAddr,sizeOf,typeInfo,hi,hsz,hst]
theorem Xb {o:Oper} {a:Act} {K:Act->World->Prop} {Q:Exit->Act->World->Prop} (t:TypeId) (p x:Operand) (ho:o.op = .store t p x) (b:Nat) (e:TypeId) (cur:Array Value) (hp:a.eval p = .pointer (some ⟨b,0,none⟩)) (V:Value) (hv:a.eval x=V)
  (i:TypeInfo) (hi:P.info? t=some i) (hsz:V.cells.size=i.size) (hb:w.heap[b]?=some (.cells cur e (0,0))) (hcur:cur.size=V.cells.size) (h1:∀ u∈V.cells.toList,u.oneCell'=true) (h:K (a.put o.dst undef) (w.setRow b V.cells)):o.wp P a w K Q:=by
 have hr:=ylz (P:=P) w t b e cur V i hi hsz hb hcur h1;unfold Oper.wp execOp;simp only [ho,hp,hv,Sem.run_bind,Sem.run_pure,Result.andThen_ok,hr];unfold Oper.upon;exact h
end
namespace Mc
def start (m:Im.dZ):St:=⟨List.replicate 32 0,m.D ++ List.replicate m.noughts.toNat 0,m.start,0,0,0,[],0,0⟩
def run (m:Im.dZ) (ins:List Int) (fuel:Nat):St :=
 let s:=steps m ins fuel fuel (start m)
 if s.fM=0 then { s with fM:=7 } else s
end Mc
theorem mQ.start {W:World} {g:Nat} {m:Im.dZ} (h:mQ W g m):W.cell? ⟨g,0,none⟩=some (.int .i64 m.start):=by
 obtain ⟨vt,vf,vd,hb,-⟩:=h;exact hb.cell 0
def AO:Array Value:=#[.pointer none,.slice none 0 0,.int .i64 0,.int .i64 0,.int .i64 0,.int .i64 0,.int .i64 0,.int .i64 0,.int .i64 0,.int .i64 0,.int .i64 0,.int .i64 0,.int .i64 0,.int .i64 0,.int .i64 0,.int .i64 0,.int .i64 0,.int .i64 0,.int .i64 0,.int .i64 0,.int .i64 0,.int .i64 0,.int .i64 0,.int .i64 0,.int .i64 0,.int .i64 0,.int .i64 0,.int .i64 0,.int .i64 0,.int .i64 0,.int .i64 0,.int .i64 0,.int .i64 0,.int .i64 0,.slice none 0 0,.int .i64 0,.int .i64 0,.int .i64 0,.int .i64 0,.slice none 0 0,.int .i64 0,.int .i64 0]
theorem Tryz.Fw:(Tryz.prog.info? 93).map (fun i=>i.size)=some 42:=by kernel_rfl
theorem Hr (g:Nat) (ai:Option Addr) (n ci:Nat) (m:Im.dZ) (av:Option Addr) (k cv:Nat):(Value.agg (jR g (.slice ai n ci) (Mc.start m) (.slice av k cv) (.slice none 0 0)).toArray).cells=(jR g (.slice ai n ci) (Mc.start m) (.slice av k cv) (.slice none 0 0)).toArray:=rfl
theorem yop (m:Im.dZ) (hT:Im.jF m) (hD:∀ i,0<=m.D.getD i 0/\m.D.getD i 0 < 4294967296):Mc.Ok (Mc.start m):=by
 have hl:=hT.lens;have hn:=hT.noughts;refine ⟨by simp [Mc.start],fun i=>?_,by simp [Mc.start],by simp [Mc.start]; omega,fun i=>?_,hT.start,by simp [Mc.start],by simp [Mc.start],by simp [Mc.start],by simp [Mc.start]⟩
 ·have:(Mc.start m).regs.getD i 0=0:=by
   show (List.replicate 32 (0:Int)).getD i 0=0;rw [lC,List.getElem?_replicate];split <;> rfl
  rw [this]; decide
 ·show 0<=(m.D ++ List.replicate m.noughts.toNat 0).getD i 0/\(m.D ++ List.replicate m.noughts.toNat 0).getD i 0 < 4294967296;rw [lC];by_cases h:i < m.D.length
  ·rw [List.getElem?_append_left h,<- lC]; exact hD i
  ·rw [List.getElem?_append_right (by omega),List.getElem?_replicate];split <;> decide
theorem Y8 (g:Nat) (ai:Option Addr) (n ci:Nat) (m:Im.dZ) (av:Option Addr) (k cv:Nat):∀ u∈(jR g (.slice ai n ci) (Mc.start m) (.slice av k cv) (.slice none 0 0)).toArray.toList,u.oneCell'=true:=by
 intro u hu;simp only [jR,Mc.start,List.mem_append,List.mem_cons,List.map_replicate,List.mem_replicate,List.not_mem_nil,or_false] at hu;rcases hu with (rfl | rfl) | (⟨_,rfl⟩ | rfl | rfl | rfl | rfl | rfl | rfl | rfl | rfl) <;> rfl
theorem mQ.lt {W:World} {g:Nat} {m:Im.dZ} (h:mQ W g m):g < W.heap.size:=by
 obtain ⟨vt,vf,vd,hb,-⟩:=h;exact hb.lt
theorem yw.begin {W0 U:World} {b g:Nat} {ai:Option Addr} {n ci:Nat} {m:Im.dZ} {av:Option Addr} {k cv:Nat} {cur:Array Value} (hb:yc U b cur 93) (hlo:W0.heap.size<=b) (hg:W0.grownBy U none)
  (hd:U.ownsRow W0.heap.size 3 1 (.slice av k cv) k ((m.D ++ List.replicate m.noughts.toNat 0).map (Value.int .i64))) (hk:k=m.D.length+m.noughts.toNat) (hne:∀ j,Value.ownBlock (.slice av k cv)=some j->j≠b) (hok:Mc.Ok (Mc.start m)) :
  yw W0 b g (.slice ai n ci) (Mc.start m) (.slice av k cv) (.slice none 0 0) (U.setRow b (jR g (.slice ai n ci) (Mc.start m) (.slice av k cv) (.slice none 0 0)).toArray):=by
 have gr:U.grownBy (U.setRow b (jR g (.slice ai n ci) (Mc.start m) (.slice av k cv) (.slice none 0 0)).toArray) (some b) :=
  ⟨rfl,rfl,rfl,by simp,fun j _ hj=>setRow_other U b j _ (fun e=>hj (by simp [e]))⟩
 have hl:(Mc.start m).data.length=k:=by rw [hk]; simp [Mc.start]
 refine ⟨setRow_heap U b cur _ 93 _ hb,?_,World.ownsRow_nil _ _ _ _,⟨hne,by simp [Value.ownBlock],by simp [Value.ownBlock]⟩,hlo,yO hg gr (by intro j e; simp at e; omega),hok⟩;rw [hl];exact hd.kept gr (by
  cases hv:Value.ownBlock (.slice av k cv) with
  | none=>exact .inl rfl
  | some j=>right; intro e; exact hne j hv (by simpa using e))
def mE (b:Nat) (W:World):Nat:=match W.cell? ⟨b,40,none⟩ with
 | some (.int _ i)=>i.toNat
 | _=>0
theorem yw.mE {W0 W:World} {b g:Nat} {eH vd vo:Value} {st:Mc.St} (h:yw W0 b g eH st vd vo W):mE b W=st.steps:=by
 unfold Proofs.YtpgklkhgfcjceaaGreatDoor.mE;rw [h.c.2.2.2.2.2.2.2.2.1];simp
theorem Gq (n v:Int) (st:Mc.St):(Mc.set n v st).steps=st.steps:=by unfold Mc.set; split <;> rfl
theorem yms (ins:List Int) (st:Mc.St):(Mc.call ins st).steps=st.steps:=by
 unfold Mc.call;split
 ·rfl
 split
 ·split <;> rfl
 split
 ·split
  ·rfl
  ·exact Gq _ _ _
 ·rfl
theorem ymS (m:Im.dZ) (rd a:Int) (st:Mc.St):(Mc.load m rd a st).steps=st.steps:=by
 unfold Mc.load;split
 ·exact Gq _ _ _
 split
 ·exact Gq _ _ _
 ·rfl
theorem ymu (m:Im.dZ) (ins:List Int) (op rd au aF n:Int) (st:Mc.St):(Mc.doIt m ins op rd au aF n st).steps=st.steps:=by
 unfold Mc.doIt;split
 ·rfl
 split
 ·exact Gq _ _ _
 split
 ·exact Gq _ _ _
 split
 ·exact Gq _ _ _
 split
 ·exact Gq _ _ _
 split
 ·unfold Mc.branch; split <;> rfl
 split
 ·exact ymS _ _ _ _
 split
 ·unfold Mc.store; split <;> rfl
 split
 ·exact Gq _ _ _
 split
 ·exact yms _ _
 ·exact Gq _ _ _
theorem ynh (m:Im.dZ) (ins:List Int) (st:Mc.St):(Mc.step m ins st).steps=st.steps+1:=by
 unfold Mc.step;split
 ·rfl
 ·exact ymu _ _ _ _ _ _ _ _
theorem yni (m:Im.dZ) (ins:List Int) (fuel k:Nat) (st:Mc.St) (h:st.fM=0/\st.steps < fuel):Mc.steps m ins fuel (k+1) st=Mc.steps m ins fuel k (Mc.step m ins st):=by
 simp only [Mc.steps];rw [if_pos h]
theorem YE (m:Im.dZ) (ins:List Int) (fuel k:Nat) (st:Mc.St) (h:¬ (st.fM=0/\st.steps < fuel)):Mc.steps m ins fuel k st=st:=by
 cases k with
 | zero=>rfl
 | succ k=>simp only [Mc.steps]; rw [if_neg h]
def ZM (W0:World) (s:Mc.St) (e:Ending) (w':World):Prop :=
 ∃ vo,e = .returned (.tuple #[.agg #[.int .i64 s.fM,.int .i64 s.code,vo,.int .i64 s.steps,.int .i64 s.read],.int .i64 0])/\w'.ownsRow W0.heap.size 3 1 vo s.o.length (s.o.map (Value.int .i64))
def mO:Array Value:=#[.int .i64 0,.int .i64 0,.slice none 0 0,.int .i64 0,.int .i64 0]
theorem Nw {w V:World} {r B:Nat} {c0 c1 c2 c3 c4:Value} {vo:Value} {n:Nat} {xs:List Value} (a0 a1 a2 a3 a4:Value) (hb:yc V r #[c0,c1,c2,c3,c4] 37) (hr:w.heap.size<=r) (hg:w.grownBy V none) (ho:V.ownsRow B 3 1 vo n xs) (hne:∀ k,vo.ownBlock=some k->k≠r) :
  yc (((((V.setCell ⟨r,0,none⟩ a0).setCell ⟨r,1,none⟩ a1).setCell ⟨r,2,none⟩ a2).setCell ⟨r,3,none⟩ a3).setCell ⟨r,4,none⟩ a4) r #[a0,a1,a2,a3,a4] 37 /\
  w.grownBy (((((V.setCell ⟨r,0,none⟩ a0).setCell ⟨r,1,none⟩ a1).setCell ⟨r,2,none⟩ a2).setCell ⟨r,3,none⟩ a3).setCell ⟨r,4,none⟩ a4) none /\
  (((((V.setCell ⟨r,0,none⟩ a0).setCell ⟨r,1,none⟩ a1).setCell ⟨r,2,none⟩ a2).setCell ⟨r,3,none⟩ a3).setCell ⟨r,4,none⟩ a4).ownsRow B 3 1 vo n xs:=by
 have g:∀ {U:World} (o:Nat) (v:Value),w.grownBy U none->w.grownBy (U.setCell ⟨r,o,none⟩ v) none:=fun {U} o v h=>yO h (ye U r o v) (by intro k e; simp at e; omega)
 exact ⟨((((hb.set 0 a0).set 1 a1).set 2 a2).set 3 a3).set 4 a4,g _ _ (g _ _ (g _ _ (g _ _ (g _ _ hg)))),Ec (Ec (Ec (Ec (Ec ho hne) hne) hne) hne) hne⟩
theorem ypr (g:Nat) (m:Im.dZ) (ai:Option Addr) (ci:Nat) (ins:List Int) (fuel:Nat) (w:World) (hI:mQ w g m) (hT:Im.jF m) (hD:∀ i,0<=m.D.getD i 0/\m.D.getD i 0 < 4294967296) (hl:ins.length<=16) (hf:fuel<=65536) (hW:Im.uP m) (hin:yy w ai ins) (ht:dQ w)
  (cD:∀ (W0:World) (b:Nat) (st:Mc.St) (vd vo:Value) (op rd au aF n:Int) (W:World),nW W0 b g ai ci ins st vd vo m rd au aF n W->0<=op/\op<=25 ->
   Calls Tryz.prog 83 #[.pointer (some ⟨b,0,none⟩),bC op rd au aF n] W fun e W'=>e = .returned (.tuple #[])/\lU W0 b g (.slice ai ins.length ci) (Mc.doIt m ins op rd au aF n st) W') :
  Calls Tryz.prog 30 #[.pointer (some ⟨g,0,none⟩),.slice ai ins.length ci,.int .i64 fuel] w fun e w'=>ZM w (Mc.run m ins fuel) e w'/\w.grownBy w' none:=by
 have d1:decide ((16:Int) < (ins.length:Int))=false:=by simp; omega
 have d2:decide ((fuel:Int) < 0)=false:=by simp
 have d3:decide ((65536:Int) < (fuel:Int))=false:=by simp; omega
 have I0:=hid (hI.kept (aJ w (.cells mO 37) none));have R0:=hid (yc.new w mO 37);have HW0:=hid (show w.heap.size < (w.alloc (.cells mO 37)).heap.size by rw [show (w.alloc (.cells mO 37)).heap.size=w.heap.size+1 from Array.size_push _]; omega);have G0:=hid (aJ w (.cells mO 37) none);have N0:=hid (hin.kept (fun a v e=>yd e (aJ w (.cells mO 37) none)));have T0:=hid (ht.grown (aJ w (.cells mO 37) none));have CD:=hid cD;have HT:=hid hT;have HW:=hid hW;have cF:=hid (fun V hV=>yiI g m V hV hT);have OK:=hid (yop m hT hD);obtain ⟨iR,WL,hsR⟩:∃ i,Tryz.prog.info? 93=some i/\i.size=42:=by
  have h:=Tryz.Fw
  cases hh:Tryz.prog.info? 93 with
  | none=>rw [hh] at h; cases h
  | some i=>rw [hh] at h; simp at h; exact ⟨i,rfl,h⟩
 clear hI hin ht cD;go_enter Tryz.func30,Tryz.ntmps30
 go_upto_region 5 with fail
 unfold mO at I0 R0 G0 N0 T0 HW0;generalize w.alloc (.cells #[.int .i64 0,.int .i64 0,.slice none 0 0,.int .i64 0,.int .i64 0] 37)=W0 at *;have s0:=I0.o.start;have I1:=hid (I0.o.kept (yf (World.grownBy.refl W0 none) 1))
 go_cut [8] from 20 to 28 (fun v wx=>∃ b vd,v = .pointer (some ⟨b,0,none⟩)/\yw W0 b g (.slice ai ins.length ci) (Mc.start m) vd (.slice none 0 0) wx)
 case first =>
  refine wp_region_held_drew (S:=(fun w'=>w'.cell? ⟨g,0,none⟩=some (.int .i64 m.start))) (by kernel_rfl) s0 ?_;intro hS;refine aU (i:=0) (v:=?_) rfl ?_ hS ?_
  rotate_left
  ·intro w' hw'; go_simp; with_reducible rfl
  refine aU (i:=1) (v:=?_) rfl ?_ hS ?_
  rotate_left
  ·intro w' hw'; go_simp; with_reducible rfl
  refine aU (i:=2) (v:=?_) rfl ?_ hS ?_
  rotate_left
  ·intro w' hw'; go_simp; with_reducible rfl
  refine aU (i:=4) (v:=?_) rfl ?_ hS ?_
  rotate_left
  ·intro w' hw'; go_simp; with_reducible rfl
  refine aU (i:=5) (v:=?_) rfl ?_ hS ?_
  rotate_left
  ·intro w' hw'; go_simp; with_reducible rfl
  refine aU (i:=6) (v:=?_) rfl ?_ hS ?_
  rotate_left
  ·intro w' hw'; go_simp; with_reducible rfl
  refine aU (i:=7) (v:=?_) rfl ?_ hS ?_
  rotate_left
  ·intro w' hw'; go_simp; with_reducible rfl
  refine wpAnyH_ready (rs:=[3,9]) (by kernel_rfl) (by simp) ?_;refine AllReadyH.cons rfl (fun K hK=>?_) (AllReadyH.cons rfl (fun K hK=>?_) AllReadyH.nil)
  ·go_simp;refine (cF.o _ I1.o).mono ?_;rintro e w1 ⟨v,rfl,hv,hg⟩;obtain ⟨av,cv,rfl⟩:=yi hv;have z0:=(I1.o.kept hg).start;refine hK.out _ _ z0 (fun hS2=>?_);clear hK K;refine aU (i:=8) (v:=?_) rfl ?_ hS2 ?_
   rotate_left
   ·intro w' hw'; go_simp; with_reducible rfl
   refine wpAnyH_ready (rs:=[9]) (by kernel_rfl) (by simp) ?_;refine AllReadyH.cons rfl (fun K hK=>?_) AllReadyH.nil;go_simp;refine hK.out _ _ (yd z0 (aJ _ _ none)) (fun je=>?_);clear hK K;refine wpAnyH_ready (rs:=[10]) (by kernel_rfl) (by simp) ?_;refine AllReadyH.cons rfl (fun K hK=>?_) AllReadyH.nil;rw [if_pos (by kernel_rfl)];have BU:=hid (yc.new w1 AO 93);have hvl:=hv.lt;have gU:=hid (ya (ya (yf (World.grownBy.refl W0 none) 1) hg) (aJ w1 (.cells AO 93) none));have hsz1:=hg.size;have hd1:=hid (yX (hv.alloc (.cells AO 93)) (show W0.heap.size<=(W0.drewN 1).heap.size from Nat.le_refl _));have RB:=hid (yw.begin (g:=g) (ai:=ai) (n:=ins.length) (ci:=ci) BU.o (by simpa using hsz1) gU.o hd1.o rfl (fun j e=>by have:=(hvl j e).2; omega) OK.o)
   refine Xb _ 93 (.tmp 8) (.tmp 28) rfl w1.heap.size 93 AO (by kernel_rfl) (.agg (jR g (.slice ai ins.length ci) (Mc.start m) (.slice av (m.D.length+m.noughts.toNat) cv) (.slice none 0 0)).toArray) (by kernel_rfl) iR WL (by rw [Hr,hsR]; rfl) BU.o (by rw [Hr]; rfl) (by rw [Hr]; exact Y8 g ai ins.length ci m av _ cv) ?_;rw [Hr];refine hK.out _ _ ?_ (fun jh=>?_)
   ·exact (World.cell?_of_block (setRow_other _ _ g _ (by have:=I0.o.lt; simp at hsz1; omega))).trans (yd z0 (aJ w1 (.cells AO 93) none))
   clear hK K;refine wpAnyH_done (by kernel_rfl) ?_ _
   try simp only [Act.put,qc,pz,pU]
   go_wp2_with fail;go_meet;exact ⟨_,_,rfl,RB.o⟩
  ·go_simp;have hS1:=yd s0 (yf (aJ W0 (.cells AO 93) none) 1);refine hK.out _ _ hS1 (fun hS2=>?_);clear hK K;refine wpAnyH_ready (rs:=[3]) (by kernel_rfl) (by simp) ?_;refine AllReadyH.cons rfl (fun K hK=>?_) AllReadyH.nil;go_simp;have I2:=hid (I0.o.kept (yf (aJ W0 (.cells AO 93) none) 1));refine (cF.o _ I2.o).mono ?_;rintro e w1 ⟨v,rfl,hv,hg⟩;obtain ⟨av,cv,rfl⟩:=yi hv;have z0:=(I2.o.kept hg).start;refine hK.out _ _ z0 (fun je=>?_);clear hK K;refine aU (i:=8) (v:=?_) rfl ?_ je ?_
   rotate_left
   ·intro w' hw'; go_simp; with_reducible rfl
   refine wpAnyH_ready (rs:=[10]) (by kernel_rfl) (by simp) ?_;refine AllReadyH.cons rfl (fun K hK=>?_) AllReadyH.nil;rw [if_pos (by kernel_rfl)];have BU:=hid (((yc.new W0 AO 93).drewN 1).grown hg (by simp));have hvl:=hv.lt;have gU:=hid (ya (yf (aJ W0 (.cells AO 93) none) 1) hg);have hsz1:((W0.alloc (.cells AO 93)).drewN 1).heap.size=W0.heap.size+1:=Array.size_push _;have hd1:=hid (yX hv (show W0.heap.size<=((W0.alloc (.cells AO 93)).drewN 1).heap.size by omega));have RB:=hid (yw.begin (g:=g) (ai:=ai) (n:=ins.length) (ci:=ci) BU.o (Nat.le_refl _) gU.o hd1.o rfl (fun j e=>by have:=(hvl j e).1; omega) OK.o)
   refine Xb _ 93 (.tmp 8) (.tmp 28) rfl W0.heap.size 93 AO (by kernel_rfl) (.agg (jR g (.slice ai ins.length ci) (Mc.start m) (.slice av (m.D.length+m.noughts.toNat) cv) (.slice none 0 0)).toArray) (by kernel_rfl) iR WL (by rw [Hr,hsR]; rfl) BU.o (by rw [Hr]; rfl) (by rw [Hr]; exact Y8 g ai ins.length ci m av _ cv) ?_;rw [Hr];refine hK.out _ _ ?_ (fun jh=>?_)
   ·exact (World.cell?_of_block (setRow_other _ _ g _ (by have:=I0.o.lt; omega))).trans z0
   clear hK K;refine wpAnyH_done (by kernel_rfl) ?_ _
   try simp only [Act.put,qc,pz,pU]
   go_wp2_with fail;go_meet;exact ⟨_,_,rfl,RB.o⟩
 case rest =>
 obtain ⟨b,WT,rfl,hr⟩:=hcut;have H0:=hid hr;clear hr cF;go_wp2
 go_loopw [] (fun wr=>∃ (st:Mc.St) (vd vo:Value) (k:Nat),yw W0 b g (.slice ai ins.length ci) st vd vo wr/\Mc.steps m ins fuel fuel (Mc.start m)=Mc.steps m ins fuel k st/\fuel<=st.steps+k/\st.steps<=fuel) (fun wr=>fuel - mE b wr)
 case atStart=>exact ⟨Mc.start m,WT,_,fuel,H0.o,rfl,by omega,Nat.zero_le _⟩
 case round =>
  obtain ⟨st,vd,vo,k,hr,he,hk,hs⟩:=hrel;have H:=hid hr;have HE:=hid he;clear hr he H0;have c37:=H.o.c.2.2.2.2.2.1;have c40:=H.o.c.2.2.2.2.2.2.2.2.1;by_cases e0:st.fM=0
  ·have q0:(st.fM == 0)=true:=by simpa using e0
   by_cases hlt:st.steps < fuel
   ·have q1:decide ((st.steps:Int) < (fuel:Int))=true:=by simp; omega
    obtain ⟨k',rfl⟩:∃ k',k=k'+1:=⟨k - 1,by omega⟩
    have M:=hid (yni m ins fuel k' st ⟨e0,hlt⟩);have SS:=hid (ynh m ins st);have PO:=hid H.o.mE;go_wp2_with fail;refine (yok W0 b g ai ci ins st vd vo m wr H.o I0.o HT.o HW.o N0.o hl T0.o (by omega) (fun st op rd au aF n W=>CD.o W0 b st vd vo op rd au aF n W)).mono ?_;rintro e V ⟨rfl,Na,Nc,h2⟩;have H2:=hid h2;clear h2;go_wp2
    go_roundw
    case rel=>exact ⟨Mc.step m ins st,Na,Nc,k',H2.o,by rw [HE.o,M.o],by rw [SS.o]; omega,by rw [SS.o]; omega⟩
    case measure=>rw [PO.o,H2.o.mE,SS.o]; omega
   ·have q1:decide ((st.steps:Int) < (fuel:Int))=false:=by simp; omega
    have RU:=hid (show Mc.run m ins fuel={ st with fM:=7 } by unfold Mc.run; dsimp only; rw [HE.o,YE m ins fuel k st (fun c=>hlt c.2)]; rw [if_pos e0]);obtain ⟨ao,co,Je⟩:=yi H.o.o;subst Je;have qm:=hid (R0.o.grown H.o.gr (by simp));have hw0:w.heap.size < W0.heap.size:=HW0.o;have hbw:b≠w.heap.size:=by have:=H.o.lo; omega
    have hwb:w.heap.size≠b:=fun e=>hbw e.symm
    have x0:=qm.o.cell 0;have x1:=qm.o.cell 1;have x2:=qm.o.cell 2;have x3:=qm.o.cell 3;have x4:=qm.o.cell 4;simp only [bI,bN,bK] at x0 x1 x2 x3 x4;have y0:=qm.o.free 0;have y1:=qm.o.free 1;have y2:=qm.o.free 2;have y3:=qm.o.free 3;have y4:=qm.o.free 4;have Oq:=H.o.c.2.2.2.2.2.2.1;have Ot:=H.o.c.2.2.2.2.2.2.2.1;have DZ:=H.o.c.2.2.2.2.2.2.2.2.2;have f37:=H.o.free 37;go_wp2;have HF:=hid (H.o.kS 7);have RF:=Nw (w:=w) (.int .i64 7) (.int .i64 st.code) (.slice ao st.o.length co) (.int .i64 st.steps) (.int .i64 st.read) (qm.o.grown (ye wr b 37 (.int .i64 7)) (by simp; omega)) (Nat.le_refl _) (ya G0.o HF.o.gr) HF.o.o (fun j e=>by have:=(HF.o.o.lt j e).1; omega)
    have h0:=RF.1.cell 0;have h1:=RF.1.cell 1;have h2:=RF.1.cell 2;have h3:=RF.1.cell 3;have h4:=RF.1.cell 4;simp only [bI,bN,bK] at h0 h1 h2 h3 h4;refine bodyPost_ret (v:=.tuple #[.agg #[.int .i64 7,.int .i64 st.code,.slice ao st.o.length co,.int .i64 st.steps,.int .i64 st.read],.int .i64 0]) ?_ rfl ⟨⟨.slice ao st.o.length co,by rw [RU.o],by rw [RU.o]; exact yX RF.2.2 (Nat.le_of_lt hw0)⟩,RF.2.1⟩;clear RF HF x0 x1 x2 x3 x4 y0 y1 y2 y3 y4 c37 Oq Ot c40 DZ f37;generalize World.setCell _ _ _=WF at *;simp [results,Tryz.results30,go_sem,h0,h1,h2,h3,h4]
  ·have q0:(st.fM == 0)=false:=by simpa using e0
   have RU:=hid (show Mc.run m ins fuel=st by unfold Mc.run; dsimp only; rw [HE.o,YE m ins fuel k st (fun c=>e0 c.1)]; rw [if_neg e0]);obtain ⟨ao,co,Je⟩:=yi H.o.o;subst Je;have qm:=hid (R0.o.grown H.o.gr (by simp));have hw0:w.heap.size < W0.heap.size:=HW0.o;have hbw:b≠w.heap.size:=by have:=H.o.lo; omega
   have hwb:w.heap.size≠b:=fun e=>hbw e.symm
   have x0:=qm.o.cell 0;have x1:=qm.o.cell 1;have x2:=qm.o.cell 2;have x3:=qm.o.cell 3;have x4:=qm.o.cell 4;simp only [bI,bN,bK] at x0 x1 x2 x3 x4;have y0:=qm.o.free 0;have y1:=qm.o.free 1;have y2:=qm.o.free 2;have y3:=qm.o.free 3;have y4:=qm.o.free 4;have Oq:=H.o.c.2.2.2.2.2.2.1;have Ot:=H.o.c.2.2.2.2.2.2.2.1;have DZ:=H.o.c.2.2.2.2.2.2.2.2.2;have f37:=H.o.free 37;go_wp2;have HF:=hid H.o;have RF:=Nw (w:=w) (.int .i64 st.fM) (.int .i64 st.code) (.slice ao st.o.length co) (.int .i64 st.steps) (.int .i64 st.read) (qm.o) (Nat.le_refl _) (ya G0.o HF.o.gr) HF.o.o (fun j e=>by have:=(HF.o.o.lt j e).1; omega)
   have h0:=RF.1.cell 0;have h1:=RF.1.cell 1;have h2:=RF.1.cell 2;have h3:=RF.1.cell 3;have h4:=RF.1.cell 4;simp only [bI,bN,bK] at h0 h1 h2 h3 h4;refine bodyPost_ret (v:=.tuple #[.agg #[.int .i64 st.fM,.int .i64 st.code,.slice ao st.o.length co,.int .i64 st.steps,.int .i64 st.read],.int .i64 0]) ?_ rfl ⟨⟨.slice ao st.o.length co,by rw [RU.o],by rw [RU.o]; exact yX RF.2.2 (Nat.le_of_lt hw0)⟩,RF.2.1⟩;clear RF HF x0 x1 x2 x3 x4 y0 y1 y2 y3 y4 c37 Oq Ot c40 DZ f37;generalize World.setCell _ _ _=WF at *;simp [results,Tryz.results30,go_sem,h0,h1,h2,h3,h4]
end Go.Proofs.YtpgklkhgfcjceaaGreatDoor
