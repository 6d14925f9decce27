
import Derived.Test.YtpgklkhgfcjceaaGreatDoorU23
import Derived.Laws.AppendOwn
import Derived.Deep.RegionHeld3
import Derived.Laws.CopyRow
import Derived.Deep.CutRange
set_option maxHeartbeats 16000000
set_option maxRecDepth 100000
namespace Go.Proofs.YtpgklkhgfcjceaaGreatDoor
open Go.RowKit
def Told (s t:List UInt8) (fe fa:Nat):Prop :=
 ((As.assemble s).1.1≠0/\t=[]/\fe=(As.assemble s).1.1/\fa=(As.assemble s).1.2) \/
 ((As.assemble s).1.1=0/\yx (As.assemble s).2/\t=Lk.lY (As.assemble s).2/\fe=0/\fa=0) \/
 ((As.assemble s).1.1=0/\¬ yx (As.assemble s).2/\t=[]/\fe=20/\fa=0)
def Aa (fe fa:Nat):Value:=.agg #[.int .i64 fe,.int .i64 fa,.string ⟨#[]⟩]
def xq (fe fa:Nat):Array Value:=#[.int .i64 fe,.int .i64 fa,.string ⟨#[]⟩]
def F9 (s:ByteArray) (w:World):World :=
 (((w.alloc (.cells (xq 0 0) 45)).alloc (.cells (yH s (w.heap.size+1+1+1) As.start) 67)).alloc (.cells #[.int .i64 2,.int .i64 2,.int .i64 2,.int .i64 2] 3)).alloc
  (.cells #[.slice none 0 0,.slice none 0 0,.slice none 0 0,.int .i64 0,.slice (some ⟨w.heap.size+1+1,0,none⟩) 4 4,.slice none 0 0,.slice none 0 0] 71)
theorem YP (s:ByteArray) (w:World):w.grownBy (F9 s w) none :=
 ya (ya (ya (aH _ _ _) (aH _ _ _)) (aH _ _ _)) (aH _ _ _)
theorem ymA (s:ByteArray) (w:World):yc (F9 s w) w.heap.size (xq 0 0) 45 :=
 (yc.new w (xq 0 0) 45).grown (ya (ya (aH _ _ none) (aH _ _ none)) (aH _ _ none)) (by simp)
theorem IQ (w:World) (o:Obj):(w.alloc o).heap.size=w.heap.size+1:=Array.size_push _
theorem yqa (s:ByteArray) (hs:s.size<=1000):jG s As.start :=
 ⟨hs,Nat.zero_le _,Mt,by decide,by decide,Mt,by decide,by decide,by decide,by decide,by decide,by decide,by decide,by decide⟩
theorem yqB (s:ByteArray) (w:World) (ht:dV w) (hB:3<=w.heap.size) (hs:s.size<=1000) :
  ym w.heap.size s (w.heap.size+1) (w.heap.size+1+1+1) As.start (F9 s w):=by
 have b1:=yc.new (w.alloc (.cells (xq 0 0) 45)) (yH s (w.heap.size+1+1+1) As.start) 67;have b2:=yc.new ((w.alloc (.cells (xq 0 0) 45)).alloc (.cells (yH s (w.heap.size+1+1+1) As.start) 67)) #[.int .i64 2,.int .i64 2,.int .i64 2,.int .i64 2] 3;have b3:=yc.new (((w.alloc (.cells (xq 0 0) 45)).alloc (.cells (yH s (w.heap.size+1+1+1) As.start) 67)).alloc (.cells #[.int .i64 2,.int .i64 2,.int .i64 2,.int .i64 2] 3)) #[.slice none 0 0,.slice none 0 0,.slice none 0 0,.int .i64 0,.slice (some ⟨w.heap.size+1+1,0,none⟩) 4 4,.slice none 0 0,.slice none 0 0] 71;rw [IQ] at b1;rw [IQ,IQ] at b2;rw [IQ,IQ,IQ] at b3
 refine ⟨b1.grown (ya (aH _ _ none) (aH _ _ none)) (by simp),⟨.slice none 0 0,.slice none 0 0,.slice none 0 0,.slice (some ⟨w.heap.size+1+1,0,none⟩) 4 4,.slice none 0 0,.slice none 0 0,?_⟩,⟨hB,by omega,by omega,by omega⟩,yqa s hs,ht.grown (YP s w)⟩;refine ⟨b3,World.ownsRow_nil _ _ _ _,World.ownsRow_nil _ _ _ _,World.ownsRow_nil _ _ _ _,⟨rfl,.inr ⟨w.heap.size+1+1,4,#[.int .i64 2,.int .i64 2,.int .i64 2,.int .i64 2],rfl,by omega,b2.grown (aH _ _ none) (by simp),Nat.le_refl 4,by decide,rfl,rfl⟩⟩,World.ownsRow_nil _ _ _ _,World.ownsRow_nil _ _ _ _,?_⟩;unfold Fb jy Value.ownBlock;simp;omega
theorem Vf {w W V:World} (h:w.grownBy W none) (hb:Below w.heap.size W V):w.grownBy V none :=
 ⟨hb.os.trans h.os,hb.tape.trans h.tape,hb.output.trans h.output,Nat.le_trans h.size hb.size,fun i hi _=>(hb.block i hi).trans (h.block i hi (by simp))⟩
theorem Ri {w V:World} (h:w.grownBy V none) (r:Nat) (hr:w.heap.size<=r) (l:List (Nat×Value)):w.grownBy (sets V r l) none:=by
 have g:=FC V r l;exact ⟨g.os.trans h.os,g.tape.trans h.tape,g.output.trans h.output,Nat.le_trans h.size g.size,fun i hi _=>(g.block i (Nat.lt_of_lt_of_le hi h.size) (by simp; omega)).trans (h.block i hi (by simp))⟩
theorem you {rs:List Lk.Rel} {r:Lk.Rel} (h:r∈As.gW rs):r∈rs:=by
 unfold As.gW at h;simp only [List.mem_append,List.mem_filter] at h;rcases h with (h | h) | h <;> exact h.1
theorem ylm {s:ByteArray} {st:As.St} (hok:jG s st) (h:As.Tm st.obj):jH (As.finish st.obj):=by
 have h1:=hok.syms;have h2:=hok.aj;have h3:=hok.align;have h4:=ykp st.obj.aj;refine ⟨⟨?_,?_,?_,?_,?_,?_⟩,fun y hy=>?_,fun r hr=>?_⟩
 ·have:=h.text; show st.obj.text.length<=_; omega
 ·have:=h.far; show st.obj.far.length<=_; omega
 ·have:=h.data; show st.obj.data.length<=_; omega
 ·show st.obj.align.length<=_; omega
 ·show (As.kM st.obj.syms).length<=_; simp [As.kM]; omega
 ·show (As.gW st.obj.aj).length<=_; omega
 ·obtain ⟨x,hx,rfl⟩:=List.mem_map.1 hy
  have:=h.names x hx
  split <;> simp <;> omega
 ·have:=h.uH r (you hr); omega
def yrp (s:ByteArray) (w:World) (m:Value) (wr:World):Prop :=
 ∃ st:As.St,Does w.heap.size s (w.heap.size+1) (w.heap.size+1+1+1) (F9 s w) st wr /\
  ((m = .bool true/\∃ n,As.lines (sl s) (s.size+1) As.start=As.lines (sl s) n st/\s.size - st.p+1<=n)\/(m = .bool false/\As.lines (sl s) (s.size+1) As.start=st))
def Wp (s:ByteArray) (w:World) (m:Value) (wr:World):Nat:=match m with
 | .bool true=>s.size - Fp (w.heap.size+1) wr+1
 | _=>0
theorem ym.pos {B:Nat} {s:ByteArray} {b g:Nat} {st:As.St} {W:World} (h:ym B s b g st W):Fp b W=st.p:=by
 have:=yO h 1
 simp only [yH,bJ,bN,bL] at this;unfold Fp;rw [this];simp
theorem yjC (s:ByteArray) (w:World) (ht:dV w) (hN:nY w) (hB:3<=w.heap.size) :
  Calls Tryz.prog 27 #[.string s] w fun e w'=>(∃ t fe fa,e = .returned (.tuple #[.string (bs t),Aa fe fa])/\Told (sl s) t fe fa)/\w.grownBy w' none:=by
 have HT:=hid ht;have HN:=hid hN;clear ht hN;by_cases hl:1000 < s.size
 ·have d:decide (1000 < (s.size:Int))=true:=by simp; omega
  have RA:=hid (show As.assemble (sl s)=((1,0),As.start.obj) by unfold As.assemble; rw [yu,if_pos hl]);go_enter Tryz.func27,Tryz.ntmps27;go_wp2;refine bodyPost_ret (v:=.tuple #[.string (bs []),Aa 1 0]) ?_ rfl ⟨⟨[],1,0,rfl,.inl ⟨by rw [RA.o]; decide,rfl,by rw [RA.o],by rw [RA.o]⟩⟩,aH _ _ _⟩;simp [results,Tryz.results27,go_sem,Aa,bs]
 ·have d:decide (1000 < (s.size:Int))=false:=by simp; omega
  have RA:=hid (show As.assemble (sl s)=(((As.lines (sl s) (s.size+1) As.start).fe,(As.lines (sl s) (s.size+1) As.start).fa),As.finish (As.lines (sl s) (s.size+1) As.start).obj) by unfold As.assemble; rw [yu,if_neg hl]);have AT:=hid (yqB s w HT.o hB (by omega));have AG:=hid (YP s w);have AF:=hid (ymA s w);have TM:=hid (As.Dv (sl s) (s.size+1) As.start As.Ep);go_enter Tryz.func27,Tryz.ntmps27;go_wp2
  go_loopw [5] (fun m wr=>yrp s w m wr) (fun m wr=>Wp s w m wr)
  case atStart=>exact ⟨As.start,AT.o.does,.inl ⟨rfl,s.size+1,rfl,by omega⟩⟩
  case round =>
   obtain ⟨st,hd,⟨rfl,n,hn,hle⟩ | ⟨rfl,hn⟩⟩:=hrel
   ·have D:=hid hd;have EN:=hid hn;have HL:=hid hle;have N2:=hid (HN.o.below (Q9 (Vf AG.o D.o.2.1) (Nat.le_refl _) (by simp)) hB);clear hd hn hle;go_wp2_with fail;refine (ypx _ s _ _ st wr D.o.1 N2.o).mono ?_;rintro e V1 ⟨rfl,h1⟩;have D1:=hid (D.o.after h1);clear h1;go_wp2_with fail;refine (yiM _ s _ _ _ V1 D1.o.1).mono ?_;rintro e V2 ⟨rfl,h2⟩;have D2:=hid (D1.o.aP h2);clear h2
    cases hr:(As.bG (sl s) (As.line (sl s) st)).1
    ·have R:=hid hr;clear hr;go_wp2
     go_roundw
     case rel =>
      refine ⟨_,D2.o,.inr ⟨rfl,?_⟩⟩;rw [EN.o];obtain ⟨k,rfl⟩:∃ k,n=k+1:=⟨n - 1,by have:=HL.o; omega⟩
      simp only [As.lines];rw [R.o];simp
     case measure=>simp [Wp]
    ·have R:=hid hr;clear hr;go_wp2
     go_roundw
     case rel =>
      have u1:=As.zK (sl s) st;have u2:=As.pW (sl s) (As.line (sl s) st) R.o;rw [yu] at u2;have hl2:=HL.o;obtain ⟨k,rfl⟩:∃ k,n=k+1:=⟨n - 1,by omega⟩
      refine ⟨_,D2.o,.inl ⟨rfl,k,?_,by omega⟩⟩;rw [EN.o];simp only [As.lines];rw [R.o];simp
     case measure =>
      have u1:=As.zK (sl s) st;have u2:=As.pW (sl s) (As.line (sl s) st) R.o;rw [yu] at u2;have p1:=D.o.1.pos;have p2:=D2.o.1.pos;simp only [Wp,p1,p2];omega
   ·have D:=hid hd;rw [hn] at TM RA;clear hd hn HN AT;have FB:=hid (D.o.2.2 _ _ _ (by decide) (by decide) (by decide) (by decide) (by decide) AF.o);go_wp2_with fail;refine (Fz _ s _ _ st wr D.o.1).mono ?_;rintro e w1 ⟨rfl,rfl⟩
    cases hf:As.failed st
    ·have F0:=hid (show st.fe=0 by simpa [As.failed] using hf);clear hf;go_wp2_with fail;refine (yjD _ s _ _ st _ D.o.1).mono ?_;rintro e V1 ⟨rfl,h1⟩;have D1:=hid (D.o.after h1);clear h1;go_wp2_with fail;refine (yhp _ s _ _ _ V1 D1.o.1).mono ?_;rintro e V2 ⟨rfl,h2⟩;have D2:=hid (D1.o.after h2);clear h2 D1;have WG:=hid (D2.o.2.2 _ _ _ (by decide) (by decide) (by decide) (by decide) (by decide) AF.o);have c14:=uW D2.o.1;go_wp2_with fail;refine (ynA _ (As.finish st.obj) V2 D2.o.1.tabs D2.o.1.Jr (ylm D.o.1.ok TM.o)).mono ?_;rintro e V3 ⟨hw,hg⟩;have FG:=hid (Vf AG.o (D2.o.grown hg).2.1);have Jb:=hid (WG.o.grown hg (by simp))
     have v0:=Jb.o.free 0;have v1:=Jb.o.free 1;have v2:=Jb.o.free 2;have x0:=Jb.o.cell 0;have x1:=Jb.o.cell 1;have x2:=Jb.o.cell 2;simp only [xq,bJ,bN,bL] at x0 x1 x2;clear hg c14 D2 D FB WG;rcases hw with ⟨rfl,hv⟩ | ⟨rfl,hv⟩
     ·have HV:=hid hv;clear hv;go_wp2;have F:=Fy [(0,.int .i64 0),(1,.int .i64 0),(2,.string ⟨#[]⟩)] Jb.o;have h0:=F.cell 0;have h1:=F.cell 1;have h2:=F.cell 2;simp only [xq,uY,lQ,mF,gH,gF,gG,bJ,bN,bL] at h0 h1 h2;refine bodyPost_ret (v:=.tuple #[.string (bs (Lk.lY (As.finish st.obj))),Aa 0 0]) ?_ rfl ⟨⟨_,0,0,rfl,.inr (.inl ⟨by rw [RA.o]; exact F0.o,by rw [RA.o]; exact HV.o,by rw [RA.o],rfl,rfl⟩)⟩,Ri FG.o _ (Nat.le_refl _) [(0,.int .i64 0),(1,.int .i64 0),(2,.string ⟨#[]⟩)]⟩;clear F x0 x1 x2 v0 v1 v2;simp only [sets,lQ,mF] at h0 h1 h2 ⊢;generalize World.setCell _ _ _=WF at *;simp [results,Tryz.results27,go_sem,Aa,h0,h1,h2]
     ·have HV:=hid hv;clear hv;go_wp2;have F:=Fy [(0,.int .i64 20),(1,.int .i64 0),(2,.string ⟨#[]⟩)] Jb.o;have h0:=F.cell 0;have h1:=F.cell 1;have h2:=F.cell 2;simp only [xq,uY,lQ,mF,gH,gF,gG,bJ,bN,bL] at h0 h1 h2;refine bodyPost_ret (v:=.tuple #[.string (bs []),Aa 20 0]) ?_ rfl ⟨⟨_,20,0,rfl,.inr (.inr ⟨by rw [RA.o]; exact F0.o,by rw [RA.o]; exact HV.o,rfl,rfl,rfl⟩)⟩,Ri FG.o _ (Nat.le_refl _) [(0,.int .i64 20),(1,.int .i64 0),(2,.string ⟨#[]⟩)]⟩;clear F x0 x1 x2 v0 v1 v2;simp only [sets,lQ,mF] at h0 h1 h2 ⊢;generalize World.setCell _ _ _=WF at *;simp [results,Tryz.results27,go_sem,Aa,h0,h1,h2]
    ·have F0:=hid (show st.fe≠0 by simpa [As.failed] using hf);clear hf;have FG:=hid (Vf AG.o D.o.2.1);have c6:=yO D.o.1 6;have c7:=yO D.o.1 7;have c8:=yO D.o.1 8;simp only [yH,bJ,bN,bL] at c6 c7 c8;have v0:=FB.o.free 0;have v1:=FB.o.free 1;have v2:=FB.o.free 2;have x0:=FB.o.cell 0;have x1:=FB.o.cell 1;have x2:=FB.o.cell 2;simp only [xq,bJ,bN,bL] at x0 x1 x2;clear D;go_wp2
     go_region
     go_wp2;have F:=Fy [(0,.int .i64 st.fe),(1,.int .i64 st.fa),(2,.string ⟨#[]⟩)] FB.o;have h0:=F.drew.cell 0;have h1:=F.drew.cell 1;have h2:=F.drew.cell 2;simp only [xq,uY,lQ,mF,gH,gF,gG,bJ,bN,bL] at h0 h1 h2;refine bodyPost_ret (v:=.tuple #[.string (bs []),Aa st.fe st.fa]) ?_ rfl ⟨⟨_,st.fe,st.fa,rfl,.inl ⟨by rw [RA.o]; exact F0.o,rfl,by rw [RA.o],by rw [RA.o]⟩⟩,yi (Ri FG.o _ (Nat.le_refl _) [(0,.int .i64 st.fe),(1,.int .i64 st.fa),(2,.string ⟨#[]⟩)])⟩;clear F x0 x1 x2 v0 v1 v2 c6 c7 c8;simp only [sets,lQ,mF] at h0 h1 h2 ⊢;generalize World.drew _=WF at *;simp [results,Tryz.results27,go_sem,Aa,bs,h0,h1,h2]
section
instance (c:Int):Decidable (rH c):=by unfold rH; infer_instance
instance (s:ByteArray):Decidable (FJ s):=by unfold FJ; infer_instance
instance (xs:List Int):Decidable (sS xs):=by unfold sS; infer_instance
instance (xs:List Int):Decidable (Co xs):=by unfold Co; infer_instance
instance (o:Lk.Obj):Decidable (JF o):=by unfold JF; infer_instance
instance (o:Lk.Obj):Decidable (JD o):=by unfold JD; infer_instance
instance (o:Lk.Obj) (y:Lk.Sym):Decidable (Fg o y):=by unfold Fg; infer_instance
instance (o:Lk.Obj):Decidable (Pq o):=by unfold Pq; infer_instance
instance (r:Lk.Rel):Decidable (FP r):=by unfold FP; infer_instance
instance (r:Lk.Rel):Decidable (sP r):=by unfold sP; infer_instance
instance (o:Lk.Obj) (r:Lk.Rel):Decidable (Lx o r):=by unfold Lx; infer_instance
instance (o:Lk.Obj) (r:Lk.Rel):Decidable (MK o r):=by unfold MK; infer_instance
instance (o:Lk.Obj) (r:Lk.Rel):Decidable (ET o r):=by unfold ET; infer_instance
instance (o:Lk.Obj) (r:Lk.Rel):Decidable (ME o r):=by unfold ME; infer_instance
instance (k:Int) (xs:List Int):Decidable (pI k xs):=by unfold pI yU iP MR nS yY oL Cy; infer_instance
instance (o:Lk.Obj) (r:Lk.Rel):Decidable (IY o r):=by unfold IY; infer_instance
instance (a r:Lk.Rel):Decidable (IK a r):=by unfold IK; infer_instance
instance (o:Lk.Obj):Decidable (Pp o):=by unfold Pp; infer_instance
instance Mf (o:Lk.Obj):Decidable (yx o):=by unfold yx; infer_instance
end
theorem ygJ (s:ByteArray) (w:World) (ht:dV w) (hN:nY w) (hB:3<=w.heap.size) :
  Calls Tryz.prog 22 #[.string s] w fun e w'=>(∃ t fe fa,e = .returned (.tuple #[.string (bs t),Aa fe fa])/\Told (sl s) t fe fa)/\w.grownBy w' none:=by
 have cA:=hid (yjC s (w.alloc (.cells (xq 0 0) 45)) (ht.grown (aH _ _ none)) (hN.below (Q9 (aH _ _ none) (Nat.le_refl _) (by simp)) hB) (by rw [IQ]; omega));have b0:=hid (yc.new w (xq 0 0) 45);go_enter Tryz.func22,Tryz.ntmps22;go_wp2_with fail;refine cA.o.mono ?_;rintro e V1 ⟨⟨t,fe,fa,rfl,ht⟩,hg⟩;have HT:=hid ht;have FB:=hid (b0.o.grown hg (by simp));have FG:=hid (ya (aH w (.cells (xq 0 0) 45) none) hg);clear ht hg cA b0;unfold Aa;have v0:=FB.o.free 0;have v1:=FB.o.free 1;have v2:=FB.o.free 2;have x0:=FB.o.cell 0;have x1:=FB.o.cell 1;have x2:=FB.o.cell 2;simp only [xq,bJ,bN,bL] at x0 x1 x2;go_wp2
 have F:=Fy [(0,.int .i64 fe),(1,.int .i64 fa),(2,.string ⟨#[]⟩)] FB.o;have h0:=F.cell 0;have h1:=F.cell 1;have h2:=F.cell 2;simp only [xq,uY,lQ,mF,gH,gF,gG,bJ,bN,bL] at h0 h1 h2;refine bodyPost_ret (v:=.tuple #[.string (bs t),Aa fe fa]) ?_ rfl ⟨⟨t,fe,fa,rfl,HT.o⟩,Ri FG.o _ (Nat.le_refl _) [(0,.int .i64 fe),(1,.int .i64 fa),(2,.string ⟨#[]⟩)]⟩;clear F x0 x1 x2 v0 v1 v2;simp only [sets,lQ,mF] at h0 h1 h2 ⊢;generalize World.setCell _ _ _=WF at *;simp [results,Tryz.results22,go_sem,Aa,h0,h1,h2]
def nZ (t:List UInt8):List UInt8:=Lk.lY (As.assemble t).2
def Pt (t:List UInt8):Prop:=(As.assemble t).1.1=0/\yx (As.assemble t).2
theorem ymz {s t:List UInt8} {fe fa:Nat} (h:Pt s) (k:Told s t fe fa):fe=0/\t=nZ s:=by
 rcases k with ⟨h1,-⟩ | ⟨h1,h2,h3,h4,-⟩ | ⟨h1,h2,-⟩
 ·exact absurd h.1 h1
 ·exact ⟨h4,h3⟩
 ·exact absurd h.2 h2
theorem ylS {w:World} {B:Nat} {ao:Option Addr} {cap:Nat} {fs:List (List UInt8)} (h:w.ownsRow B 9 1 (.slice ao fs.length cap) fs.length (fs.map fun l=>.string (bs l))):Fe w ao fs:=by
 intro hp;obtain ⟨sg,hs,-,-,-,hc⟩:=Ld h hp;refine ⟨sg,0,hs,fun i hi=>?_⟩;rw [Nat.zero_add,hc i hi,List.getElem?_map,jW hi];rfl
theorem ypD (ts:List (List UInt8)) (am:Option Addr) (cm:Nat) (w:World) (hin:Fe w am ts) (hl:ts.length<=64) (hok:∀ t∈ts,Pt t) (ht:dV w) (hN:nY w) (hB:3<=w.heap.size) :
  Calls Tryz.prog 15 #[.slice am ts.length cm] w fun e w'=>(∃ ao cap,e = .returned (.tuple #[.slice ao ts.length cap,.bool true])/\Fe w' ao (ts.map nZ))/\w.grownBy w' none:=by
 obtain ⟨i0,hi,hz0,hz1,hz2⟩:=info_parts Tryz.zH;have HI:=hid hin;have HT:=hid ht;have HN:=hid hN;have HK:=hid hok;clear hin ht hN hok;go_enter Tryz.func15,Tryz.ntmps15;go_wp2
 go_loopw [4,5] (fun v i wr=>∃ (k:Nat),k<=ts.length/\i = .int .i64 k/\wr.ownsRow w.heap.size 9 1 v k (((ts.take k).map nZ).map fun l=>.string (bs l))/\w.grownBy wr none) (fun _ i _=>ts.length - (intOf i).toNat)
 case atStart=>exact ⟨0,Nat.zero_le _,rfl,World.ownsRow_nil _ _ _ _,World.grownBy.refl _ _⟩
 case round =>
  obtain ⟨k,hk,rfl,hown,hgr⟩:=hrel;obtain ⟨av,cv,rfl⟩:=yh hown;have HO:=hid hown;have G:=hid hgr;clear hown hgr;by_cases hlt:k < ts.length
  ·obtain ⟨g0,off,rfl,hc⟩:=HI.o.kept G.o (by omega);have cc:=hc k hlt;have hz:=G.o.size;have g1:(k:Int) < (ts.length:Int):=by omega
   have Xe:=HK.o _ (iC hlt);have TK:=hid (show (((ts.take (k+1)).map nZ).map fun l=>Value.string (bs l))=(((ts.take k).map nZ).map fun l=>.string (bs l)) ++ [.string (bs (nZ ts[k]))] by
    rw [List.take_succ_eq_append_getElem hlt,List.map_append,List.map_append];rfl)
   generalize ts[k]=tx at *;clear hc;go_wp2_with fail;refine (ygJ (bs tx) wr (HT.o.grown G.o) (HN.o.below (Q9 G.o (Nat.le_refl _) (by simp)) hB) (by omega)).mono ?_;rintro e V ⟨⟨t,fe,fa,rfl,htold⟩,hg⟩;rw [I4] at htold;obtain ⟨rfl,rfl⟩:=ymz Xe htold;have G2:=hid (ya (ya G.o hg) (aH V (.cells #[.int .i64 0,.int .i64 fa,.string ⟨#[]⟩] 45) none));have Fv:=hid ((HO.o.kept hg (Decidable.em _)).alloc (.cells #[.int .i64 0,.int .i64 fa,.string ⟨#[]⟩] 45));have hzz:=hg.size;have CN:=cell_one_new (V.alloc (.cells #[.int .i64 0,.int .i64 fa,.string ⟨#[]⟩] 45)) (.string (bs (nZ tx))) 9;rw [IQ] at CN;have CNH:=hid CN
   clear htold hg cc HO G CN Xe;generalize nZ tx=t at *;unfold Aa;go_wp2_with (at_builtin; refine wpList_append_own _ rfl _ _ 29 rfl w.heap.size 9 i0 (.string ⟨#[]⟩) 1 16 Tryz.underlying29 hi hz0 hz1 hz2 rfl (by decide) _ _ _ rfl (Fv.o.alloc _) ⟨V.heap.size+1,0,none⟩ 1 1 [.string (bs t)] rfl rfl CNH.o (by intro u hu; simp at hu; subst hu; rfl) (by unfold maxLen; omega) (by omega) (by simp; omega) ?_; intro v' w3 hown' hgrow _; obtain ⟨oP,cv',rfl⟩:=yh hown'; have K:=hid hown'; have GK:=hid (Mw (ya G2.o (aH _ _ _)) hgrow (fun b hb=>(Fv.o.lt b hb).1)); clear hgrow hown')
   go_wp2
   go_roundw
   case rel=>exact ⟨k+1,by omega,by go_num,by rw [TK.o]; exact K.o,GK.o⟩
   case measure=>simp [intOf]; omega
  ·obtain rfl:k=ts.length:=by omega
   have g3:decide ((ts.length:Int) < (ts.length:Int))=false:=by simp
   rw [List.take_length] at HO;go_wp2;go_ret2;refine ⟨⟨av,cv,rfl,ylS (B:=w.heap.size) (cap:=cv) ?_⟩,G.o⟩;rw [sU];exact HO.o
theorem yke {bt bf bd:Int} {fs:List (List UInt8)} {e:Ending} (h:Lj bt bf bd fs e):∃ (b:List UInt8) (f:Ln.rJ),e = .returned (.tuple #[.string (bs b),gq f]):=by
 rcases h with ⟨f,-,he,-⟩ | ⟨-,-,-,xs,hx,-,he⟩
 ·exact ⟨_,_,he⟩
 ·exact ⟨_,_,he⟩
theorem yod (bt bf bd:Int) (af:Option Addr) (cf:Nat) (fs:List (List UInt8)) (w:World) (hin:Fe w af fs) (hsz:∀ f∈fs,f.length<=1048576) (ht:dV w) (hn:fs.length<=1048576) :
  Calls Tryz.prog 23 #[.slice af fs.length cf,.agg #[.int .i64 bt,.int .i64 bf,.int .i64 bd]] w fun e w'=>Lj bt bf bd fs e/\w.grownBy w' none:=by
 have HI:=hid hin;have HT:=hid ht;have cL:=hid (fun W (hg:w.grownBy W none)=>ypy bt bf bd af cf fs W (HI.o.kept hg) hsz (HT.o.grown hg) hn);have hs1:(w.alloc (.cells #[.int .i64 bt,.int .i64 bf,.int .i64 bd] 33)).heap.size=w.heap.size+1:=Array.size_push _;have A1:=aH (w.alloc (.cells #[.int .i64 bt,.int .i64 bf,.int .i64 bd] 33)) (.cells #[.int .i64 0,.int .i64 0,.string ⟨#[]⟩] 45) none;have G1:=hid (ya (aH w (.cells #[.int .i64 bt,.int .i64 bf,.int .i64 bd] 33) none) A1);have BR:=hid (yc.new (w.alloc (.cells #[.int .i64 bt,.int .i64 bf,.int .i64 bd] 33)) #[.int .i64 0,.int .i64 0,.string ⟨#[]⟩] 45)
 rw [hs1] at BR;clear hin ht A1 hs1;go_enter Tryz.func23,Tryz.ntmps23;go_wp2_with fail;generalize (w.alloc (.cells #[.int .i64 bt,.int .i64 bf,.int .i64 bd] 33)).alloc (.cells #[.int .i64 0,.int .i64 0,.string ⟨#[]⟩] 45)=W1 at *;have Jl:w.heap.size<=w.heap.size+1:=by omega
 generalize w.heap.size+1=R at *;refine (cL.o _ G1.o).mono ?_;rintro e V1 ⟨hret,hg⟩;obtain ⟨b,f,rfl⟩:=yke hret;have F7:=hid hret;have FB:=hid (BR.o.grown hg (by simp));have FG:=hid (ya G1.o hg);clear hret hg cL BR;obtain ⟨fe,fa,fn⟩:=f;unfold gq;dsimp only;have v0:=FB.o.free 0;have v1:=FB.o.free 1;have v2:=FB.o.free 2;have x0:=FB.o.cell 0;have x1:=FB.o.cell 1;have x2:=FB.o.cell 2;simp only [bJ,bN,bL] at x0 x1 x2;go_wp2;have F:=((FB.o.set 0 (.int .i64 fe)).set 1 (.int .i64 fa)).set 2 (.string (bs fn));have h0:=F.cell 0;have h1:=F.cell 1;have h2:=F.cell 2;simp only [gH,gF,gG,bJ,bN,bL] at h0 h1 h2
 refine bodyPost_ret (v:=.tuple #[.string (bs b),gq ⟨fe,fa,fn⟩]) ?_ rfl ⟨F7.o,yA FG.o _ Jl _ _ _⟩;clear F x0 x1 x2 v0 v1 v2;generalize World.setCell _ _ _=WF at *;simp [results,Tryz.results23,go_sem,gq,h0,h1,h2]
def Sb (xs:List Int):Bool:=xs.all fun x=>decide (0<=x) && decide (x<=4294967295)
theorem Vv {xs:List Int} (h:Sb xs=true):sS xs:=by
 intro i hi
 have:=List.all_eq_true.1 h _ (iC hi)
 simp at this;exact this
def R9 (o:Lk.Obj):Bool:=decide (JF o) && (decide (Co o.align) && (Sb o.text && (Sb o.far && (Sb o.data && (decide (Pq o) && decide (Pp o))))))
theorem ynx {o:Lk.Obj} (h:R9 o=true):yx o:=by
 unfold R9 at h;simp only [Bool.and_eq_true,decide_eq_true_eq] at h;obtain ⟨h1,h2,h3,h4,h5,h6,h7⟩:=h;exact ⟨h1,h2,⟨Vv h3,Vv h4,Vv h5⟩,h6,h7⟩
def Sg (f:Ln.rJ) (e at_:Int) (n:List UInt8):Prop:=f.e=e/\f.at_=at_/\f.name=n
instance (f:Ln.rJ) (e at_:Int) (n:List UInt8):Decidable (Sg f e at_ n):=by unfold Sg; infer_instance
def VX (os:List Lk.Obj) (bt bf bd:Int) (e at_:Int) (n:List UInt8):Prop:=(Ln.gy os bt bf bd).1=[]/\Sg (Ln.gy os bt bf bd).2 e at_ n
instance (os:List Lk.Obj) (bt bf bd:Int) (e at_:Int) (n:List UInt8):Decidable (VX os bt bf bd e at_ n):=by unfold VX; infer_instance
theorem yli {l:List UInt8} {a b:Bool} {os ps:List Lk.Obj} (h:vk l a os) (k:vk l b ps):a=b/\os=ps:=by
 rcases h with ⟨rfl,h1,rfl⟩ | ⟨rfl,h1,ms,h2,rfl⟩
 ·rcases k with ⟨rfl,-,rfl⟩ | ⟨-,k1,-⟩
  ·exact ⟨rfl,rfl⟩
  ·exact absurd h1 k1
 ·rcases k with ⟨-,k1,-⟩ | ⟨rfl,-,ns,k2,rfl⟩
  ·exact absurd k1 h1
  ·exact ⟨rfl,by rw [<- ZL h2,<- ZL k2]⟩
theorem ymI {o:Lk.Obj} (hv:yx o):vk (Lk.lY o) false [o]:=by
 have hg:=MC hv;have q:=QC ((Lk.kr (Lk.lY o) o).2 ⟨hg,rfl⟩) hv;exact .inl ⟨rfl,q.1,by rw [q.2]⟩
theorem ymH {t:List UInt8} (h:Pt t):vk (nZ t) false [(As.assemble t).2]:=ymI h.2
theorem yni {l:List UInt8} {a:Bool} {os:List Lk.Obj} (h:vk l a os) (k:Po l):False:=by
 rcases h with ⟨-,h1,-⟩ | ⟨-,-,ms,h2,-⟩
 ·exact k.1 h1
 ·exact k.2 ms h2
def MQ:List (List UInt8)->List (Bool×List Lk.Obj)->Prop
 | [],[]=>True
 | l :: ls,x :: xs=>vk l x.1 x.2/\MQ ls xs
 | _,_=>False
theorem ZJ:∀ {fs:List (List UInt8)} {xs:List (Bool×List Lk.Obj)},MQ fs xs->xs.length=fs.length:=by
 intro fs
 induction fs with
 | nil =>
  intro xs h
  cases xs with
  | nil=>rfl
  | cons x xs=>exact h.elim
 | cons l ls ih =>
  intro xs h
  cases xs with
  | nil=>exact h.elim
  | cons x xs=>rw [iV,iV,ih h.2]
theorem ZQ:∀ {fs:List (List UInt8)} {xs:List (Bool×List Lk.Obj)},MQ fs xs->∀ i (h:i < fs.length) (h':i < xs.length),vk fs[i] xs[i].1 xs[i].2:=by
 intro fs
 induction fs with
 | nil=>intro xs _ i h; simp at h
 | cons l ls ih =>
  intro xs h i hi hx
  cases xs with
  | nil=>exact h.elim
  | cons x xs =>
   cases i with
   | zero=>exact h.1
   | succ i=>exact ih h.2 i (by simpa using hi) (by simpa using hx)
theorem ymJ {fs:List (List UInt8)} {xs ys:List (Bool×List Lk.Obj)} (h:MQ fs xs) (hy:ys.length=fs.length) (k:∀ i (h:i < fs.length),vk fs[i] (ys[i]'(by omega)).1 (ys[i]'(by omega)).2):ys=xs:=by
 have hl:=ZJ h;apply List.ext_getElem
 ·omega
 ·intro i h1 h2;have a:=ZQ h i (by omega) h2;have b:=k i (by omega);have u:=yli b a;exact Prod.ext u.1 u.2
theorem ymX {bt bf bd:Int} {fs:List (List UInt8)} {xs:List (Bool×List Lk.Obj)} {e:Ending} (h:Lj bt bf bd fs e) (hb:Im.Base bt/\Im.Base bf/\Im.Base bd) (h1:1<=fs.length) (h8:fs.length<=8) (hf:MQ fs xs):e = .returned (.tuple #[.string (bs (Ln.gy (Ln.bQ xs) bt bf bd).1),gq (Ln.gy (Ln.bQ xs) bt bf bd).2]):=by
 have hok:qp bt bf bd=Ln.ok:=by
  unfold qp;rw [if_neg (not_not_intro hb.1),if_neg (not_not_intro hb.2.1),if_neg (not_not_intro hb.2.2)]
 rcases h with ⟨f,hfe,-,c⟩ | ⟨-,-,-,ys,hy,k,rfl⟩
 ·rcases c with rfl | ⟨-,c,-⟩ | ⟨-,-,-,i,hi,-,hn,-⟩
  ·exact absurd (by rw [hok]; rfl) hfe
  ·omega
  ·exact (yni (ZQ hf i hi (by rw [ZJ hf]; exact hi)) hn).elim
 ·rw [ymJ hf hy k]
theorem ypK (w:World):Calls Tryz.prog 17 #[] w fun e w'=>e = .returned (.agg #[.int .i64 4096,.int .i64 65536,.int .i64 131072])/\w.grownBy w' none:=by
 have A0:=hid (aH w (.cells #[.int .i64 4096,.int .i64 65536,.int .i64 131072] 33) none);go_enter Tryz.func17,Tryz.ntmps17;go_wp2;refine bodyPost_ret (v:=.agg #[.int .i64 4096,.int .i64 65536,.int .i64 131072]) ?_ rfl ⟨rfl,A0.o⟩;simp [results,Tryz.results17,go_sem]
theorem yqc {W:World} {X:Nat} {t:TypeId} (fs:List (List UInt8)) (h:yc W X (fs.map fun l=>Value.string (bs l)).toArray t):Fe W (some ⟨X,0,none⟩) fs:=fun _=>⟨X,0,rfl,fun i hi=>by
 rw [Nat.zero_add,h.cell i,bJ,List.getElem?_map,jW hi];rfl⟩
def yqo (s:List UInt8) (o:Lk.Obj):Prop:=vk s false [o]/\s.length<=1048576
theorem yry {t:List UInt8} (h:Pt t):yqo (nZ t) (As.assemble t).2:=⟨ymH h,by have:=Y9 h.2; unfold nZ; omega⟩
theorem ynK:Im.Base 4096/\Im.Base 65536/\Im.Base 131072:=by unfold Im.Base; omega
theorem yob (m:Im.eU):Im.nC m↔(Im.Base m.text/\Im.Base m.far/\Im.Base m.data)/\Im.Fits m/\(Im.code m m.start).isSome=true:=by
 rw [Im.CW];unfold Im.nC Im.Fits Im.oq Im.oo Im.om;constructor
 ·rintro ⟨a,b,c,d⟩; exact ⟨a,⟨b,c⟩,d⟩
 ·rintro ⟨a,⟨b,c⟩,d⟩; exact ⟨a,b,c,d⟩
theorem yjW (g:Nat) (m:Im.eU) (w:World) (h:nA w g m) (ht:Im.jH m) :
  Calls Tryz.prog 46 #[.pointer (some ⟨g,0,none⟩)] w fun e w'=>yg e (Im.nC m)/\w.grownBy w' none:=by
 have H:=hid h;have HT:=hid ht;obtain ⟨at_,ct,af,cf,ad,cd,hb,-,-,-⟩:=h.open;have k0:=hb.cell 0;have k1:=hb.cell 1;have k2:=hb.cell 2;have k3:=hb.cell 3;simp only [bJ,bN,bL] at k0 k1 k2 k3;have c1:=hid (fun W=>QT m.text W ht.text.1 ht.text.2);have c2:=hid (fun W=>QT m.far W ht.far.1 ht.far.2);have c3:=hid (fun W=>QT m.data W ht.data.1 ht.data.2);have Q0:=hid (yob m);generalize Im.nC m=Q at *;clear h ht hb;go_enter Tryz.func46,Tryz.ntmps46;go_wp2_with fail;refine (c1.o w).mono ?_;rintro e V ⟨t,rfl⟩;rcases t.split with ⟨rfl,p1⟩ | ⟨rfl,p1⟩ <;> clear t c1
 ·go_wp2;go_ret;exact ⟨yg.no fun q=>p1.o (Q0.o.1 q).1.1,World.grownBy.refl _ _⟩
 go_wp2_with fail;refine (c2.o _).mono ?_;rintro e V ⟨t,rfl⟩;rcases t.split with ⟨rfl,p2⟩ | ⟨rfl,p2⟩ <;> clear t c2
 ·go_wp2;go_ret;exact ⟨yg.no fun q=>p2.o (Q0.o.1 q).1.2.1,World.grownBy.refl _ _⟩
 go_wp2_with fail;refine (c3.o _).mono ?_;rintro e V ⟨t,rfl⟩;rcases t.split with ⟨rfl,p3⟩ | ⟨rfl,p3⟩ <;> clear t c3
 ·go_wp2;go_ret;exact ⟨yg.no fun q=>p3.o (Q0.o.1 q).1.2.2,World.grownBy.refl _ _⟩
 go_wp2_with fail;refine (Yg g m V H.o HT.o).mono ?_;rintro e V1 ⟨t,hg⟩;have G1:=hid hg;rcases t.split with ⟨rfl,p4⟩ | ⟨rfl,p4⟩ <;> clear t
 ·go_wp2;go_ret;exact ⟨yg.no fun q=>p4.o (Q0.o.1 q).2.1,G1.o⟩
 replace k0:=yd k0 hg;clear hg k1 k2 k3;go_wp2_with fail;refine (Rh g m m.start V1 (H.o.kept G1.o) HT.o HT.o.start.1 HT.o.start.2).mono ?_;rintro e V2 ⟨rfl,n,rfl⟩;have GF:=hid (ye G1.o n)
 cases hc:(Im.code m m.start).isSome
 ·have N:=hid (show ¬ Q from fun q=>by have:=(Q0.o.1 q).2.2; rw [hc] at this; cases this);go_wp2;go_ret;exact ⟨yg.no N.o,GF.o⟩
 ·have N:=hid (show Q from Q0.o.2 ⟨⟨p1.o,p2.o,p3.o⟩,p4.o,hc⟩);go_wp2;go_ret;exact ⟨yg.yes N.o,GF.o⟩
section
variable {P:Program} (w:World)
end
namespace Im
instance (a b c d:Int):Decidable (kD a b c d):=by unfold kD; infer_instance
end Im
theorem Ze {w a c:World} {row:Option Nat} (h:w.grownBy a none) (k:a.grownBy c row) (hb:∀ b,row=some b->w.heap.size<=b):w.grownBy c none :=
 ⟨k.os.trans h.os,k.tape.trans h.tape,k.output.trans h.output,Nat.le_trans h.size k.size,fun i hi _ =>
  (k.block i (Nat.lt_of_lt_of_le hi h.size) (fun e=>by have:=hb i e.symm; omega)).trans (h.block i hi (by simp))⟩
section
variable {w wr w3:World} {l:List UInt8} {g nt nf k:Nat} {a0 a1 a2 a3:Int} {vT vF vD v':Value} {B1 B2:Nat} {ob:Obj}
end
theorem QS (l:List UInt8) (p:Nat):0<=dW l p 4/\dW l p 4 < 4294967296:=by have:=Ve l p 4; simpa using this
theorem ymN (l:List UInt8):Im.jH (Im.fq l):=by
 have h:=Im.KM l;have h2:=Im.jO l 24;refine ⟨QS l 2,QS l 6,QS l 10,QS l 14,⟨?_,?_,?_⟩,?_⟩
 ·simp only [Im.fq,Im.ig]; omega
 ·simp only [Im.fq,Im.ig]; omega
 ·simp only [Im.fq,Im.ig]; omega
 ·simp only [Im.fq]; omega
theorem ylD (l:List UInt8) (a b:UInt8) (h:(Lk.aF l 2 (0,false)).1=[a,b]):(Lk.aF l 2 (0,false)).2=(2,false)/\2<=l.length/\l.take 2=[a,b]:=by
 unfold Lk.aF at h ⊢;simp only [Nat.sub_zero,List.drop_zero,Nat.zero_add] at h ⊢;split at h
 ·rename_i hl;rw [if_pos hl];exact ⟨rfl,hl,h⟩
 ·cases h
theorem ylw (l:List UInt8) (a b:UInt8) (h:l.take 2=[a,b]):(Lk.aF l 2 (0,false)).1=[a,b]:=by
 unfold Lk.aF;simp only [Nat.sub_zero,List.drop_zero]
 have:2<=l.length:=by have:=congrArg List.length h; simp at this; omega
 rw [if_pos this];exact h
def yqx (s:ByteArray) (e:Ending) (w':World):Prop :=
 (Im.kK (sl s)/\∃ g,e = .returned (.tuple #[.pointer (some ⟨g,0,none⟩),.int .i64 0])/\nA w' g (Im.fq (sl s))) \/
 (¬ Im.kK (sl s)/\e = .returned (.tuple #[.pointer none,.int .i64 23]))
theorem ylp (s:ByteArray) (w:World) (hs:s.size<=1048576) :
  Calls Tryz.prog 29 #[.string s] w fun e w'=>yqx s e w'/\w.grownBy w' none:=by
 have hsz:=yu s;have TM:=hid (ymN (sl s));go_enter Tryz.func29,Tryz.ntmps29;go_wp2_with fail;refine (UD s w).mono ?_;rintro e W1 ⟨rfl,g1⟩;have R:bF (W1.alloc (.cells #[.string s,.int .i64 0,.bool false] 83)) W1.heap.size s 0 false:=heap_alloc_new W1 _;have HR:=hid R;have G1:=hid g1;have GA:=hid (aH W1 (.cells #[.string s,.int .i64 0,.bool false] 83) none);have hz:=hid g1.size;clear R g1;by_cases hm:(Lk.aF (sl s) 2 (0,false)).1=[73,77]
 ·have cR:=hid (yja W1.heap.size s 0 false _ HR.o hs (Nat.zero_le _) hm);obtain ⟨m1,m2,m3⟩:=ylD _ _ _ hm;rw [m1] at cR;have FU:=hid (fun h:Im.Full (sl s)=>Im.ze (sl s) h);have ON:=hid (Im.zf (sl s) m2);have IS:=hid (show Im.kK (sl s)↔Im.Full (sl s)/\Im.nC (Im.fq (sl s)) from ⟨fun q=>q.2,fun q=>⟨m3,q⟩⟩);generalize Im.oz (sl s) (2,false)=X at *;obtain ⟨m,p',s'⟩:=X;simp only at cR ON FU;clear hm m1 m2 m3;go_wp2_with fail;refine cR.o.mono ?_;rintro e W2 ⟨g,rfl,hg,Og,hrd,hgr⟩;have WO:=hid Og;have FY:=hid hrd;have GR:=hid hgr;clear Og hrd hgr hg cR;have cD:=hid (Vy W1.heap.size s p' s' W2 FY.o);go_wp2_with fail
  refine cD.o.mono ?_;rintro e W3 ⟨rfl,kd,rfl⟩;have GF:=hid (ye (Ze (ya G1.o GA.o) GR.o (by intro b e; simp at e; have:=hz.o; omega)) kd);clear cD;by_cases hd:s'=false/\p'=s.size
  ·obtain ⟨rfl,rfl⟩:=hd;have hfu:=ON.o (by rw [hsz]);have HF:=hid hfu;have hmm:m=Im.fq (sl s):=congrArg Prod.fst (FU.o hfu);subst hmm;have cV:=hid (yjW g (Im.fq (sl s)) (W2.drewN kd) (WO.o.kept (ye (World.grownBy.refl _ _) kd)) TM.o);have dd:(!false && decide (s.size=s.size))=true:=by simp
   clear hfu hsz;go_wp2_with fail;refine cV.o.mono ?_;rintro e W4 ⟨t,q⟩;have GQ:=hid (ya GF.o q);have SF:=hid (WO.o.kept (ya (ye (World.grownBy.refl _ _) kd) q));rcases t.split with ⟨rfl,pv⟩ | ⟨rfl,pv⟩ <;> clear t q cV
   ·go_wp2;go_ret2;exact ⟨.inr ⟨fun q=>pv.o (IS.o.1 q).2,rfl⟩,GQ.o⟩
   ·go_wp2;go_ret2;exact ⟨.inl ⟨IS.o.2 ⟨HF.o,pv.o⟩,g,rfl,SF.o⟩,GQ.o⟩
  ·have N:=hid (show ¬ Im.kK (sl s) from fun q=>by
    have:=congrArg Prod.snd (FU.o (IS.o.1 q).1)
    simp only [Prod.mk.injEq] at this;exact hd ⟨this.2,by rw [<- hsz]; exact this.1⟩)
   have dd:(!s' && decide (p'=s.size))=false:=by
    cases s'
    ·simp at hd ⊢; exact hd
    ·rfl
   clear hsz hd;go_wp2;go_ret2;exact ⟨.inr ⟨N.o,rfl⟩,GF.o⟩
 ·have cR:=hid (yky W1.heap.size s 0 false _ HR.o hs (Nat.zero_le _) hm);have N:=hid (show ¬ Im.kK (sl s) from fun q=>hm (ylw _ _ _ q.1));clear hm;go_wp2_with fail;refine cR.o.mono ?_;rintro e W2 ⟨rfl,hgr⟩;have GR:=hid hgr;clear hgr cR;go_wp2;go_ret2;exact ⟨.inr ⟨N.o,rfl⟩,Ze (ya G1.o GA.o) GR.o (by intro b e; simp at e; have:=hz.o; omega)⟩
def yrq (W:World) (x:Nat) (m:Im.eU):Prop:=∃ g,yc W x #[.pointer (some ⟨g,0,none⟩)] 59/\nA W g m
def ynF (s:ByteArray) (e:Ending) (w':World):Prop :=
 (Im.kK (sl s)/\∃ x,e = .returned (.tuple #[.pointer (some ⟨x,0,none⟩),.int .i64 0])/\yrq w' x (Im.fq (sl s))) \/
 (¬ Im.kK (sl s)/\e = .returned (.tuple #[.pointer none,.int .i64 23]))
theorem ynZ (s:ByteArray) (w:World) (hs:s.size<=1048576) :
  Calls Tryz.prog 24 #[.string s] w fun e w'=>ynF s e w'/\w.grownBy w' none:=by
 have cR:=hid (ylp s w hs);go_enter Tryz.func24,Tryz.ntmps24;go_wp2_with fail;refine cR.o.mono ?_;rintro e W1 ⟨hr,hg⟩;have G:=hid hg;clear hg cR;rcases hr with ⟨q,g,rfl,hi⟩ | ⟨q,rfl⟩
 ·have Q:=hid q;have HI:=hid hi;clear q hi;go_wp2;go_ret2;have GA:=aH W1 (.cells #[.pointer (some ⟨g,0,none⟩)] 59) none;exact ⟨.inl ⟨Q.o,W1.heap.size,rfl,g,yc.new _ _ _,HI.o.kept GA⟩,ya G.o GA⟩
 ·have Q:=hid q;clear q;go_wp2;go_ret2;exact ⟨.inr ⟨Q.o,rfl⟩,G.o⟩
theorem yiS (g:Nat) (m:Im.eU) (w:World) (hI:nA w g m) (hT:Im.jH m) :
  Calls Tryz.prog 47 #[.pointer (some ⟨g,0,none⟩)] w fun e w'=>∃ v,e = .returned v/\w'.ownsRow w.heap.size 3 1 v (m.D.length+m.noughts.toNat) ((m.D ++ List.replicate m.noughts.toNat 0).map (Value.int .i64))/\w.grownBy w' none:=by
 obtain ⟨i0,hi,hz0,hz1,hz2⟩:=info_parts Tryz.kW;obtain ⟨a1,t1,a2,t2,ad,cd,hb,-,-,q3⟩:=hI.open;have HB:=hid hb;have DI:=hid (yC.aU q3);have hcap:=rR q3;have hl:=hT.lens.2.2;have hn:=hT.noughts;have k6:=hb.cell 6;simp only [bJ,bN,bL] at k6;clear hI hT hb q3;obtain ⟨nb,hnb⟩:=Int.eq_ofNat_of_zero_le hn.1;have WV:=hid hnb;rw [hnb];simp only [Int.toNat_natCast];go_enter Tryz.func47,Tryz.ntmps47;go_wp2;clear k6
 go_loopw [3,12] (fun v i wr=>∃ k:Nat,k<=m.D.length/\i = .int .i64 k/\wr.ownsRow w.heap.size 3 1 v k ((m.D.take k).map (Value.int .i64))/\w.grownBy wr none) (fun _ i _=>m.D.length - (intOf i).toNat)
 case atStart=>exact ⟨0,Nat.zero_le _,rfl,World.ownsRow_nil _ _ _ _,World.grownBy.refl _ _⟩
 case round =>
  obtain ⟨k,hk,rfl,hown,hgr⟩:=hrel;obtain ⟨av,cv,rfl⟩:=yh hown;have HG:=hid hgr;have hsz:=hgr.size;by_cases hlt:k < m.D.length
  ·obtain ⟨sg,off,rfl,hcells⟩:=DI.o.kept (fun a v e=>yd e hgr) (by omega);have ck:=hcells k hlt;clear hcells hgr;have E:=hid (show (m.D.take (k+1)).map (Value.int .i64)=(m.D.take k).map (Value.int .i64) ++ [.int .i64 m.D[k]] by rw [List.take_succ_eq_append_getElem hlt,List.map_append]; rfl);have g1:(k:Int) < (m.D.length:Int):=by omega
   generalize m.D[k]=x at *;go_wp2_with (at_builtin; refine wpList_append_own _ rfl _ _ 35 rfl w.heap.size 3 i0 (.int .i64 0) 1 8 Tryz.underlying35 hi hz0 hz1 hz2 rfl (by decide) _ _ _ rfl (hown.alloc _) ⟨wr.heap.size,0,none⟩ 1 1 [.int .i64 x] rfl rfl (cell_one_new _ _ _) (by intro u hu; simp at hu; subst hu; rfl) (by unfold maxLen; omega) (by omega) (by simp; omega) ?_; intro v' w3 hown' hgrow _; obtain ⟨oP,cv',rfl⟩:=yh hown'; have K:=hid hown'; have GK:=hid (yQ (ya HG.o (aH _ _ _)) hgrow (fun b hb=>(hown.lt b hb).1)); clear hgrow hown')
   go_wp2
   go_roundw
   case rel=>exact ⟨k+1,by omega,by go_num,by rw [E.o]; exact K.o,GK.o⟩
   case measure=>simp [intOf]; omega
  ·obtain rfl:k=m.D.length:=by omega
   have g0:decide ((m.D.length:Int) < (m.D.length:Int))=false:=by simp
   rw [List.take_length] at hown;have HO:=hid hown;clear hown hgr;obtain ⟨U,hU⟩:∃ U:World,U=wr:=⟨_,rfl⟩
   subst hU;go_wp2
   go_loopw [3,6] (fun v i wr=>∃ k:Nat,k<=nb/\i = .int .i64 k/\wr.ownsRow w.heap.size 3 1 v (m.D.length+k) ((m.D ++ List.replicate k 0).map (Value.int .i64))/\w.grownBy wr none) (fun _ i _=>nb - (intOf i).toNat)
   case atStart=>exact ⟨0,Nat.zero_le _,rfl,by simpa using HO.o,HG.o⟩
   case round =>
    obtain ⟨k,hk2,rfl,hown,hgr⟩:=hrel;obtain ⟨Te,Ti,rfl⟩:=yh hown;have HG2:=hid hgr;have hsz2:=hgr.size;have k7:=(HB.o.grown hgr (by simp)).cell 7;simp only [bJ,bN,bL] at k7;rw [WV.o] at k7;clear hgr;have aai:nb<=65535:=by have:=WV.o; omega
    by_cases hlt2:k < nb
    ·have g1:(k:Int) < (nb:Int):=by omega
     have E:=hid (show (m.D ++ List.replicate (k+1) 0).map (Value.int .i64)=(m.D ++ List.replicate k 0).map (Value.int .i64) ++ [.int .i64 0] by simp [List.replicate_succ']);go_wp2_with (at_builtin; refine wpList_append_own _ rfl _ _ 35 rfl w.heap.size 3 i0 (.int .i64 0) 1 8 Tryz.underlying35 hi hz0 hz1 hz2 rfl (by decide) _ _ _ rfl (hown.alloc _) ⟨wr.heap.size,0,none⟩ 1 1 [.int .i64 0] rfl rfl (cell_one_new _ _ _) (by intro u hu; simp at hu; subst hu; rfl) (by unfold maxLen; omega) (by omega) (by simp; omega) ?_; intro v' w3 hown' hgrow _; obtain ⟨oP,cv',rfl⟩:=yh hown'; have K:=hid hown'; have GK:=hid (yQ (ya HG2.o (aH _ _ _)) hgrow (fun b hb=>(hown.lt b hb).1)); clear hgrow hown')
     go_wp2
     go_roundw
     case rel=>exact ⟨k+1,by omega,by go_num,by rw [E.o]; exact K.o,GK.o⟩
     case measure=>simp [intOf]; omega
    ·obtain rfl:k=nb:=by omega
     have Fv:=hid hown;clear hown;have g2:decide ((k:Int) < (k:Int))=false:=by simp
     go_wp2;go_ret;exact ⟨_,rfl,Fv.o,HG2.o⟩
section
variable {P:Program} (w:World)
theorem ylK (t:TypeId) (b:Nat) (e:TypeId) (cur:Array Value) (V:Value) (i:TypeInfo) (hi:P.info? t=some i) (hsz:V.cells.size=i.size) (hb:w.heap[b]?=some (.cells cur e (0,0))) (hcur:cur.size=V.cells.size) (h1:∀ u∈V.cells.toList,u.oneCell'=true) :
  (Instr.storeAt t (.pointer (some ⟨b,0,none⟩)) V).run P w = .ok () (w.setRow b V.cells):=by
 have hst:=run_storeCells_at P b 0 e V.cells.toList 0 cur w hb (by simp; omega) h1;have e1:(cur.toList.take (0+0) ++ V.cells.toList ++ cur.toList.drop (0+0+V.cells.toList.length)).toArray=V.cells:=by
  have:cur.toList.drop V.cells.size=[]:=List.drop_eq_nil_of_le (by simp; omega)
  simp [this]
 rw [e1] at hst;simp [Instr.storeAt,storeVar,Instr.sureAddr,sizeOf,typeInfo,hi,hsz,hst]
theorem Yj {o:Oper} {a:Act} {K:Act->World->Prop} {Q:Exit->Act->World->Prop} (t:TypeId) (p x:Operand) (ho:o.op = .store t p x) (b:Nat) (e:TypeId) (cur:Array Value) (hp:a.eval p = .pointer (some ⟨b,0,none⟩)) (V:Value) (hv:a.eval x=V)
  (i:TypeInfo) (hi:P.info? t=some i) (hsz:V.cells.size=i.size) (hb:w.heap[b]?=some (.cells cur e (0,0))) (hcur:cur.size=V.cells.size) (h1:∀ u∈V.cells.toList,u.oneCell'=true) (h:K (a.put o.dst undef) (w.setRow b V.cells)):o.wp P a w K Q:=by
 have hr:=ylK (P:=P) w t b e cur V i hi hsz hb hcur h1;unfold Oper.wp execOp;simp only [ho,hp,hv,Sem.run_bind,Sem.run_pure,Result.andThen_ok,hr];unfold Oper.upon;exact h
end
namespace Mc
def start (m:Im.eU):St:=⟨List.replicate 32 0,m.D ++ List.replicate m.noughts.toNat 0,m.start,0,0,0,[],0,0⟩
def run (m:Im.eU) (ins:List Int) (fuel:Nat):St :=
 let s:=steps m ins fuel fuel (start m)
 if s.fQ=0 then { s with fQ:=7 } else s
end Mc
theorem nA.start {W:World} {g:Nat} {m:Im.eU} (h:nA W g m):W.cell? ⟨g,0,none⟩=some (.int .i64 m.start):=by
 obtain ⟨vt,vf,vd,hb,-⟩:=h;exact hb.cell 0
def Cm:Array Value:=#[.pointer none,.slice none 0 0,.int .i64 0,.int .i64 0,.int .i64 0,.int .i64 0,.int .i64 0,.int .i64 0,.int .i64 0,.int .i64 0,.int .i64 0,.int .i64 0,.int .i64 0,.int .i64 0,.int .i64 0,.int .i64 0,.int .i64 0,.int .i64 0,.int .i64 0,.int .i64 0,.int .i64 0,.int .i64 0,.int .i64 0,.int .i64 0,.int .i64 0,.int .i64 0,.int .i64 0,.int .i64 0,.int .i64 0,.int .i64 0,.int .i64 0,.int .i64 0,.int .i64 0,.int .i64 0,.slice none 0 0,.int .i64 0,.int .i64 0,.int .i64 0,.int .i64 0,.slice none 0 0,.int .i64 0,.int .i64 0]
theorem Tryz.Gz:(Tryz.prog.info? 93).map (fun i=>i.size)=some 42:=by kernel_rfl
theorem Ju (g:Nat) (ai:Option Addr) (n ci:Nat) (m:Im.eU) (av:Option Addr) (k cv:Nat):(Value.agg (jU g (.slice ai n ci) (Mc.start m) (.slice av k cv) (.slice none 0 0)).toArray).cells=(jU g (.slice ai n ci) (Mc.start m) (.slice av k cv) (.slice none 0 0)).toArray:=rfl
theorem yox (m:Im.eU) (hT:Im.jH m) (hD:∀ i,0<=m.D.getD i 0/\m.D.getD i 0 < 4294967296):Mc.Ok (Mc.start m):=by
 have hl:=hT.lens;have hn:=hT.noughts;refine ⟨by simp [Mc.start],fun i=>?_,by simp [Mc.start],by simp [Mc.start]; omega,fun i=>?_,hT.start,by simp [Mc.start],by simp [Mc.start],by simp [Mc.start],by simp [Mc.start]⟩
 ·have:(Mc.start m).regs.getD i 0=0:=by
   show (List.replicate 32 (0:Int)).getD i 0=0;rw [lN,List.getElem?_replicate];split <;> rfl
  rw [this]; decide
 ·show 0<=(m.D ++ List.replicate m.noughts.toNat 0).getD i 0/\(m.D ++ List.replicate m.noughts.toNat 0).getD i 0 < 4294967296;rw [lN];by_cases h:i < m.D.length
  ·rw [List.getElem?_append_left h,<- lN]; exact hD i
  ·rw [List.getElem?_append_right (by omega),List.getElem?_replicate];split <;> decide
theorem Z0 (g:Nat) (ai:Option Addr) (n ci:Nat) (m:Im.eU) (av:Option Addr) (k cv:Nat):∀ u∈(jU g (.slice ai n ci) (Mc.start m) (.slice av k cv) (.slice none 0 0)).toArray.toList,u.oneCell'=true:=by
 intro u hu;simp only [jU,Mc.start,List.mem_append,List.mem_cons,List.map_replicate,List.mem_replicate,List.not_mem_nil,or_false] at hu;rcases hu with (rfl | rfl) | (⟨_,rfl⟩ | rfl | rfl | rfl | rfl | rfl | rfl | rfl | rfl) <;> rfl
theorem nA.lt {W:World} {g:Nat} {m:Im.eU} (h:nA W g m):g < W.heap.size:=by
 obtain ⟨vt,vf,vd,hb,-⟩:=h;exact hb.lt
theorem yz.begin {W0 U:World} {b g:Nat} {ai:Option Addr} {n ci:Nat} {m:Im.eU} {av:Option Addr} {k cv:Nat} {cur:Array Value} (hb:yc U b cur 93) (hlo:W0.heap.size<=b) (hg:W0.grownBy U none)
  (hd:U.ownsRow W0.heap.size 3 1 (.slice av k cv) k ((m.D ++ List.replicate m.noughts.toNat 0).map (Value.int .i64))) (hk:k=m.D.length+m.noughts.toNat) (hne:∀ j,Value.ownBlock (.slice av k cv)=some j->j≠b) (hok:Mc.Ok (Mc.start m)) :
  yz W0 b g (.slice ai n ci) (Mc.start m) (.slice av k cv) (.slice none 0 0) (U.setRow b (jU g (.slice ai n ci) (Mc.start m) (.slice av k cv) (.slice none 0 0)).toArray):=by
 have gr:U.grownBy (U.setRow b (jU g (.slice ai n ci) (Mc.start m) (.slice av k cv) (.slice none 0 0)).toArray) (some b) :=
  ⟨rfl,rfl,rfl,by simp,fun j _ hj=>setRow_other U b j _ (fun e=>hj (by simp [e]))⟩
 have hl:(Mc.start m).data.length=k:=by rw [hk]; simp [Mc.start]
 refine ⟨setRow_heap U b cur _ 93 _ hb,?_,World.ownsRow_nil _ _ _ _,⟨hne,by simp [Value.ownBlock],by simp [Value.ownBlock]⟩,hlo,yQ hg gr (by intro j e; simp at e; omega),hok⟩;rw [hl];exact hd.kept gr (by
  cases hv:Value.ownBlock (.slice av k cv) with
  | none=>exact .inl rfl
  | some j=>right; intro e; exact hne j hv (by simpa using e))
def mP (b:Nat) (W:World):Nat:=match W.cell? ⟨b,40,none⟩ with
 | some (.int _ i)=>i.toNat
 | _=>0
theorem yz.mP {W0 W:World} {b g:Nat} {eZ vd vo:Value} {st:Mc.St} (h:yz W0 b g eZ st vd vo W):mP b W=st.steps:=by
 unfold Proofs.YtpgklkhgfcjceaaGreatDoor.mP;rw [h.c.2.2.2.2.2.2.2.2.1];simp
theorem IJ (n v:Int) (st:Mc.St):(Mc.set n v st).steps=st.steps:=by unfold Mc.set; split <;> rfl
theorem ymD (ins:List Int) (st:Mc.St):(Mc.call ins st).steps=st.steps:=by
 unfold Mc.call;split
 ·rfl
 split
 ·split <;> rfl
 split
 ·split
  ·rfl
  ·exact IJ _ _ _
 ·rfl
theorem ymZ (m:Im.eU) (rd a:Int) (st:Mc.St):(Mc.load m rd a st).steps=st.steps:=by
 unfold Mc.load;split
 ·exact IJ _ _ _
 split
 ·exact IJ _ _ _
 ·rfl
theorem ymF (m:Im.eU) (ins:List Int) (op rd au aC n:Int) (st:Mc.St):(Mc.doIt m ins op rd au aC n st).steps=st.steps:=by
 unfold Mc.doIt;split
 ·rfl
 split
 ·exact IJ _ _ _
 split
 ·exact IJ _ _ _
 split
 ·exact IJ _ _ _
 split
 ·exact IJ _ _ _
 split
 ·unfold Mc.branch; split <;> rfl
 split
 ·exact ymZ _ _ _ _
 split
 ·unfold Mc.store; split <;> rfl
 split
 ·exact IJ _ _ _
 split
 ·exact ymD _ _
 ·exact IJ _ _ _
theorem ynp (m:Im.eU) (ins:List Int) (st:Mc.St):(Mc.step m ins st).steps=st.steps+1:=by
 unfold Mc.step;split
 ·rfl
 ·exact ymF _ _ _ _ _ _ _ _
theorem ynq (m:Im.eU) (ins:List Int) (fuel k:Nat) (st:Mc.St) (h:st.fQ=0/\st.steps < fuel):Mc.steps m ins fuel (k+1) st=Mc.steps m ins fuel k (Mc.step m ins st):=by
 simp only [Mc.steps];rw [if_pos h]
theorem ZC (m:Im.eU) (ins:List Int) (fuel k:Nat) (st:Mc.St) (h:¬ (st.fQ=0/\st.steps < fuel)):Mc.steps m ins fuel k st=st:=by
 cases k with
 | zero=>rfl
 | succ k=>simp only [Mc.steps]; rw [if_neg h]
def ynG (W0:World) (s:Mc.St) (e:Ending) (w':World):Prop :=
 ∃ vo,e = .returned (.tuple #[.agg #[.int .i64 s.fQ,.int .i64 s.code,vo,.int .i64 s.steps,.int .i64 s.read],.int .i64 0])/\w'.ownsRow W0.heap.size 3 1 vo s.o.length (s.o.map (Value.int .i64))
def nk:Array Value:=#[.int .i64 0,.int .i64 0,.slice none 0 0,.int .i64 0,.int .i64 0]
theorem Pb {w V:World} {r B:Nat} {c0 c1 c2 c3 c4:Value} {vo:Value} {n:Nat} {xs:List Value} (a0 a1 a2 a3 a4:Value) (hb:yc V r #[c0,c1,c2,c3,c4] 37) (hr:w.heap.size<=r) (hg:w.grownBy V none) (ho:V.ownsRow B 3 1 vo n xs) (hne:∀ k,vo.ownBlock=some k->k≠r) :
  yc (((((V.setCell ⟨r,0,none⟩ a0).setCell ⟨r,1,none⟩ a1).setCell ⟨r,2,none⟩ a2).setCell ⟨r,3,none⟩ a3).setCell ⟨r,4,none⟩ a4) r #[a0,a1,a2,a3,a4] 37 /\
  w.grownBy (((((V.setCell ⟨r,0,none⟩ a0).setCell ⟨r,1,none⟩ a1).setCell ⟨r,2,none⟩ a2).setCell ⟨r,3,none⟩ a3).setCell ⟨r,4,none⟩ a4) none /\
  (((((V.setCell ⟨r,0,none⟩ a0).setCell ⟨r,1,none⟩ a1).setCell ⟨r,2,none⟩ a2).setCell ⟨r,3,none⟩ a3).setCell ⟨r,4,none⟩ a4).ownsRow B 3 1 vo n xs:=by
 have g:∀ {U:World} (o:Nat) (v:Value),w.grownBy U none->w.grownBy (U.setCell ⟨r,o,none⟩ v) none:=fun {U} o v h=>yQ h (yf U r o v) (by intro k e; simp at e; omega)
 exact ⟨((((hb.set 0 a0).set 1 a1).set 2 a2).set 3 a3).set 4 a4,g _ _ (g _ _ (g _ _ (g _ _ (g _ _ hg)))),FE (FE (FE (FE (FE ho hne) hne) hne) hne) hne⟩
theorem ypC (g:Nat) (m:Im.eU) (ai:Option Addr) (ci:Nat) (ins:List Int) (fuel:Nat) (w:World) (hI:nA w g m) (hT:Im.jH m) (hD:∀ i,0<=m.D.getD i 0/\m.D.getD i 0 < 4294967296) (hl:ins.length<=16) (hf:fuel<=65536) (hW:Im.vN m) (hin:yC w ai ins) (ht:dV w)
  (cD:∀ (W0:World) (b:Nat) (st:Mc.St) (vd vo:Value) (op rd au aC n:Int) (W:World),oM W0 b g ai ci ins st vd vo m rd au aC n W->0<=op/\op<=25 ->
   Calls Tryz.prog 83 #[.pointer (some ⟨b,0,none⟩),bD op rd au aC n] W fun e W'=>e = .returned (.tuple #[])/\mD W0 b g (.slice ai ins.length ci) (Mc.doIt m ins op rd au aC n st) W') :
  Calls Tryz.prog 30 #[.pointer (some ⟨g,0,none⟩),.slice ai ins.length ci,.int .i64 fuel] w fun e w'=>ynG w (Mc.run m ins fuel) e w'/\w.grownBy w' none:=by
 have d1:decide ((16:Int) < (ins.length:Int))=false:=by simp; omega
 have d2:decide ((fuel:Int) < 0)=false:=by simp
 have d3:decide ((65536:Int) < (fuel:Int))=false:=by simp; omega
 have I0:=hid (hI.kept (aH w (.cells nk 37) none));have R0:=hid (yc.new w nk 37);have HW0:=hid (show w.heap.size < (w.alloc (.cells nk 37)).heap.size by rw [show (w.alloc (.cells nk 37)).heap.size=w.heap.size+1 from Array.size_push _]; omega);have G0:=hid (aH w (.cells nk 37) none);have N0:=hid (hin.kept (fun a v e=>yd e (aH w (.cells nk 37) none)));have T0:=hid (ht.grown (aH w (.cells nk 37) none));have CD:=hid cD;have HT:=hid hT;have HW:=hid hW;have cF:=hid (fun V hV=>yiS g m V hV hT);have OK:=hid (yox m hT hD);obtain ⟨iR,X4,hsR⟩:∃ i,Tryz.prog.info? 93=some i/\i.size=42:=by
  have h:=Tryz.Gz
  cases hh:Tryz.prog.info? 93 with
  | none=>rw [hh] at h; cases h
  | some i=>rw [hh] at h; simp at h; exact ⟨i,rfl,h⟩
 clear hI hin ht cD;go_enter Tryz.func30,Tryz.ntmps30
 go_upto_region 5 with fail
 unfold nk at I0 R0 G0 N0 T0 HW0;generalize w.alloc (.cells #[.int .i64 0,.int .i64 0,.slice none 0 0,.int .i64 0,.int .i64 0] 37)=W0 at *;have s0:=I0.o.start;have I1:=hid (I0.o.kept (ye (World.grownBy.refl W0 none) 1))
 go_cut [8] from 20 to 28 (fun v wx=>∃ b vd,v = .pointer (some ⟨b,0,none⟩)/\yz W0 b g (.slice ai ins.length ci) (Mc.start m) vd (.slice none 0 0) wx)
 case first =>
  refine wp_region_held_drew (S:=(fun w'=>w'.cell? ⟨g,0,none⟩=some (.int .i64 m.start))) (by kernel_rfl) s0 ?_;intro hS;refine aW (i:=0) (v:=?_) rfl ?_ hS ?_
  rotate_left
  ·intro w' hw'; go_simp; with_reducible rfl
  refine aW (i:=1) (v:=?_) rfl ?_ hS ?_
  rotate_left
  ·intro w' hw'; go_simp; with_reducible rfl
  refine aW (i:=2) (v:=?_) rfl ?_ hS ?_
  rotate_left
  ·intro w' hw'; go_simp; with_reducible rfl
  refine aW (i:=4) (v:=?_) rfl ?_ hS ?_
  rotate_left
  ·intro w' hw'; go_simp; with_reducible rfl
  refine aW (i:=5) (v:=?_) rfl ?_ hS ?_
  rotate_left
  ·intro w' hw'; go_simp; with_reducible rfl
  refine aW (i:=6) (v:=?_) rfl ?_ hS ?_
  rotate_left
  ·intro w' hw'; go_simp; with_reducible rfl
  refine aW (i:=7) (v:=?_) rfl ?_ hS ?_
  rotate_left
  ·intro w' hw'; go_simp; with_reducible rfl
  refine wpAnyH_ready (rs:=[3,9]) (by kernel_rfl) (by simp) ?_;refine AllReadyH.cons rfl (fun K hK=>?_) (AllReadyH.cons rfl (fun K hK=>?_) AllReadyH.nil)
  ·go_simp;refine (cF.o _ I1.o).mono ?_;rintro e w1 ⟨v,rfl,hv,hg⟩;obtain ⟨av,cv,rfl⟩:=yh hv;have z0:=(I1.o.kept hg).start;refine hK.out _ _ z0 (fun hS2=>?_);clear hK K;refine aW (i:=8) (v:=?_) rfl ?_ hS2 ?_
   rotate_left
   ·intro w' hw'; go_simp; with_reducible rfl
   refine wpAnyH_ready (rs:=[9]) (by kernel_rfl) (by simp) ?_;refine AllReadyH.cons rfl (fun K hK=>?_) AllReadyH.nil;go_simp;refine hK.out _ _ (yd z0 (aH _ _ none)) (fun je=>?_);clear hK K;refine wpAnyH_ready (rs:=[10]) (by kernel_rfl) (by simp) ?_;refine AllReadyH.cons rfl (fun K hK=>?_) AllReadyH.nil;rw [if_pos (by kernel_rfl)];have BU:=hid (yc.new w1 Cm 93);have hvl:=hv.lt;have gU:=hid (ya (ya (ye (World.grownBy.refl W0 none) 1) hg) (aH w1 (.cells Cm 93) none));have hsz1:=hg.size;have hd1:=hid (yZ (hv.alloc (.cells Cm 93)) (show W0.heap.size<=(W0.drewN 1).heap.size from Nat.le_refl _));have RB:=hid (yz.begin (g:=g) (ai:=ai) (n:=ins.length) (ci:=ci) BU.o (by simpa using hsz1) gU.o hd1.o rfl (fun j e=>by have:=(hvl j e).2; omega) OK.o)
   refine Yj _ 93 (.tmp 8) (.tmp 28) rfl w1.heap.size 93 Cm (by kernel_rfl) (.agg (jU g (.slice ai ins.length ci) (Mc.start m) (.slice av (m.D.length+m.noughts.toNat) cv) (.slice none 0 0)).toArray) (by kernel_rfl) iR X4 (by rw [Ju,hsR]; rfl) BU.o (by rw [Ju]; rfl) (by rw [Ju]; exact Z0 g ai ins.length ci m av _ cv) ?_;rw [Ju];refine hK.out _ _ ?_ (fun jh=>?_)
   ·exact (World.cell?_of_block (setRow_other _ _ g _ (by have:=I0.o.lt; simp at hsz1; omega))).trans (yd z0 (aH w1 (.cells Cm 93) none))
   clear hK K;refine wpAnyH_done (by kernel_rfl) ?_ _
   try simp only [Act.put,qE,qc,qx]
   go_wp2_with fail;go_meet;exact ⟨_,_,rfl,RB.o⟩
  ·go_simp;have hS1:=yd s0 (ye (aH W0 (.cells Cm 93) none) 1);refine hK.out _ _ hS1 (fun hS2=>?_);clear hK K;refine wpAnyH_ready (rs:=[3]) (by kernel_rfl) (by simp) ?_;refine AllReadyH.cons rfl (fun K hK=>?_) AllReadyH.nil;go_simp;have I2:=hid (I0.o.kept (ye (aH W0 (.cells Cm 93) none) 1));refine (cF.o _ I2.o).mono ?_;rintro e w1 ⟨v,rfl,hv,hg⟩;obtain ⟨av,cv,rfl⟩:=yh hv;have z0:=(I2.o.kept hg).start;refine hK.out _ _ z0 (fun je=>?_);clear hK K;refine aW (i:=8) (v:=?_) rfl ?_ je ?_
   rotate_left
   ·intro w' hw'; go_simp; with_reducible rfl
   refine wpAnyH_ready (rs:=[10]) (by kernel_rfl) (by simp) ?_;refine AllReadyH.cons rfl (fun K hK=>?_) AllReadyH.nil;rw [if_pos (by kernel_rfl)];have BU:=hid (((yc.new W0 Cm 93).drewN 1).grown hg (by simp));have hvl:=hv.lt;have gU:=hid (ya (ye (aH W0 (.cells Cm 93) none) 1) hg);have hsz1:((W0.alloc (.cells Cm 93)).drewN 1).heap.size=W0.heap.size+1:=Array.size_push _;have hd1:=hid (yZ hv (show W0.heap.size<=((W0.alloc (.cells Cm 93)).drewN 1).heap.size by omega));have RB:=hid (yz.begin (g:=g) (ai:=ai) (n:=ins.length) (ci:=ci) BU.o (Nat.le_refl _) gU.o hd1.o rfl (fun j e=>by have:=(hvl j e).1; omega) OK.o)
   refine Yj _ 93 (.tmp 8) (.tmp 28) rfl W0.heap.size 93 Cm (by kernel_rfl) (.agg (jU g (.slice ai ins.length ci) (Mc.start m) (.slice av (m.D.length+m.noughts.toNat) cv) (.slice none 0 0)).toArray) (by kernel_rfl) iR X4 (by rw [Ju,hsR]; rfl) BU.o (by rw [Ju]; rfl) (by rw [Ju]; exact Z0 g ai ins.length ci m av _ cv) ?_;rw [Ju];refine hK.out _ _ ?_ (fun jh=>?_)
   ·exact (World.cell?_of_block (setRow_other _ _ g _ (by have:=I0.o.lt; omega))).trans z0
   clear hK K;refine wpAnyH_done (by kernel_rfl) ?_ _
   try simp only [Act.put,qE,qc,qx]
   go_wp2_with fail;go_meet;exact ⟨_,_,rfl,RB.o⟩
 case rest =>
 obtain ⟨b,Yc,rfl,hr⟩:=hcut;have H0:=hid hr;clear hr cF;go_wp2
 go_loopw [] (fun wr=>∃ (st:Mc.St) (vd vo:Value) (k:Nat),yz W0 b g (.slice ai ins.length ci) st vd vo wr/\Mc.steps m ins fuel fuel (Mc.start m)=Mc.steps m ins fuel k st/\fuel<=st.steps+k/\st.steps<=fuel) (fun wr=>fuel - mP b wr)
 case atStart=>exact ⟨Mc.start m,Yc,_,fuel,H0.o,rfl,by omega,Nat.zero_le _⟩
 case round =>
  obtain ⟨st,vd,vo,k,hr,he,hk,hs⟩:=hrel;have H:=hid hr;have HE:=hid he;clear hr he H0;have c37:=H.o.c.2.2.2.2.2.1;have c40:=H.o.c.2.2.2.2.2.2.2.2.1;by_cases e0:st.fQ=0
  ·have q0:(st.fQ == 0)=true:=by simpa using e0
   by_cases hlt:st.steps < fuel
   ·have q1:decide ((st.steps:Int) < (fuel:Int))=true:=by simp; omega
    obtain ⟨k',rfl⟩:∃ k',k=k'+1:=⟨k - 1,by omega⟩
    have M:=hid (ynq m ins fuel k' st ⟨e0,hlt⟩);have SS:=hid (ynp m ins st);have PO:=hid H.o.mP;go_wp2_with fail;refine (yos W0 b g ai ci ins st vd vo m wr H.o I0.o HT.o HW.o N0.o hl T0.o (by omega) (fun st op rd au aC n W=>CD.o W0 b st vd vo op rd au aC n W)).mono ?_;rintro e V ⟨rfl,OE,OH,h2⟩;have H2:=hid h2;clear h2;go_wp2
    go_roundw
    case rel=>exact ⟨Mc.step m ins st,OE,OH,k',H2.o,by rw [HE.o,M.o],by rw [SS.o]; omega,by rw [SS.o]; omega⟩
    case measure=>rw [PO.o,H2.o.mP,SS.o]; omega
   ·have q1:decide ((st.steps:Int) < (fuel:Int))=false:=by simp; omega
    have RU:=hid (show Mc.run m ins fuel={ st with fQ:=7 } by unfold Mc.run; dsimp only; rw [HE.o,ZC m ins fuel k st (fun c=>hlt c.2)]; rw [if_pos e0]);obtain ⟨ao,co,Kr⟩:=yh H.o.o;subst Kr;have qK:=hid (R0.o.grown H.o.gr (by simp));have hw0:w.heap.size < W0.heap.size:=HW0.o;have hbw:b≠w.heap.size:=by have:=H.o.lo; omega
    have hwb:w.heap.size≠b:=fun e=>hbw e.symm
    have x0:=qK.o.cell 0;have x1:=qK.o.cell 1;have x2:=qK.o.cell 2;have x3:=qK.o.cell 3;have x4:=qK.o.cell 4;simp only [bJ,bN,bL] at x0 x1 x2 x3 x4;have y0:=qK.o.free 0;have y1:=qK.o.free 1;have y2:=qK.o.free 2;have y3:=qK.o.free 3;have y4:=qK.o.free 4;have Qm:=H.o.c.2.2.2.2.2.2.1;have Qn:=H.o.c.2.2.2.2.2.2.2.1;have Fx:=H.o.c.2.2.2.2.2.2.2.2.2;have f37:=H.o.free 37;go_wp2;have HF:=hid (H.o.lq 7);have RF:=Pb (w:=w) (.int .i64 7) (.int .i64 st.code) (.slice ao st.o.length co) (.int .i64 st.steps) (.int .i64 st.read) (qK.o.grown (yf wr b 37 (.int .i64 7)) (by simp; omega)) (Nat.le_refl _) (ya G0.o HF.o.gr) HF.o.o (fun j e=>by have:=(HF.o.o.lt j e).1; omega)
    have h0:=RF.1.cell 0;have h1:=RF.1.cell 1;have h2:=RF.1.cell 2;have h3:=RF.1.cell 3;have h4:=RF.1.cell 4;simp only [bJ,bN,bL] at h0 h1 h2 h3 h4;refine bodyPost_ret (v:=.tuple #[.agg #[.int .i64 7,.int .i64 st.code,.slice ao st.o.length co,.int .i64 st.steps,.int .i64 st.read],.int .i64 0]) ?_ rfl ⟨⟨.slice ao st.o.length co,by rw [RU.o],by rw [RU.o]; exact yZ RF.2.2 (Nat.le_of_lt hw0)⟩,RF.2.1⟩;clear RF HF x0 x1 x2 x3 x4 y0 y1 y2 y3 y4 c37 Qm Qn c40 Fx f37;generalize World.setCell _ _ _=WF at *;simp [results,Tryz.results30,go_sem,h0,h1,h2,h3,h4]
  ·have q0:(st.fQ == 0)=false:=by simpa using e0
   have RU:=hid (show Mc.run m ins fuel=st by unfold Mc.run; dsimp only; rw [HE.o,ZC m ins fuel k st (fun c=>e0 c.1)]; rw [if_neg e0]);obtain ⟨ao,co,Kr⟩:=yh H.o.o;subst Kr;have qK:=hid (R0.o.grown H.o.gr (by simp));have hw0:w.heap.size < W0.heap.size:=HW0.o;have hbw:b≠w.heap.size:=by have:=H.o.lo; omega
   have hwb:w.heap.size≠b:=fun e=>hbw e.symm
   have x0:=qK.o.cell 0;have x1:=qK.o.cell 1;have x2:=qK.o.cell 2;have x3:=qK.o.cell 3;have x4:=qK.o.cell 4;simp only [bJ,bN,bL] at x0 x1 x2 x3 x4;have y0:=qK.o.free 0;have y1:=qK.o.free 1;have y2:=qK.o.free 2;have y3:=qK.o.free 3;have y4:=qK.o.free 4;have Qm:=H.o.c.2.2.2.2.2.2.1;have Qn:=H.o.c.2.2.2.2.2.2.2.1;have Fx:=H.o.c.2.2.2.2.2.2.2.2.2;have f37:=H.o.free 37;go_wp2;have HF:=hid H.o;have RF:=Pb (w:=w) (.int .i64 st.fQ) (.int .i64 st.code) (.slice ao st.o.length co) (.int .i64 st.steps) (.int .i64 st.read) (qK.o) (Nat.le_refl _) (ya G0.o HF.o.gr) HF.o.o (fun j e=>by have:=(HF.o.o.lt j e).1; omega)
   have h0:=RF.1.cell 0;have h1:=RF.1.cell 1;have h2:=RF.1.cell 2;have h3:=RF.1.cell 3;have h4:=RF.1.cell 4;simp only [bJ,bN,bL] at h0 h1 h2 h3 h4;refine bodyPost_ret (v:=.tuple #[.agg #[.int .i64 st.fQ,.int .i64 st.code,.slice ao st.o.length co,.int .i64 st.steps,.int .i64 st.read],.int .i64 0]) ?_ rfl ⟨⟨.slice ao st.o.length co,by rw [RU.o],by rw [RU.o]; exact yZ RF.2.2 (Nat.le_of_lt hw0)⟩,RF.2.1⟩;clear RF HF x0 x1 x2 x3 x4 y0 y1 y2 y3 y4 c37 Qm Qn c40 Fx f37;generalize World.setCell _ _ _=WF at *;simp [results,Tryz.results30,go_sem,h0,h1,h2,h3,h4]
end Go.Proofs.YtpgklkhgfcjceaaGreatDoor
