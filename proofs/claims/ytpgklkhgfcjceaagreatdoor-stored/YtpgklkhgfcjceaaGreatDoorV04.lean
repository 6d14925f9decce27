
import Derived.Test.YtpgklkhgfcjceaaGreatDoorV03
import Derived.Deep.RegionHeld3
import Derived.Laws.BitsAllLaws
import Derived.WalkKit
set_option maxHeartbeats 16000000
set_option maxRecDepth 100000
namespace Go.Proofs.YtpgklkhgfcjceaaGreatDoor
open Go.RowKit
def NQ (o:Lk.Obj):Prop:=∀ i (h:i < o.syms.length),El o o.syms[i]/\¬ ∃ j,∃ hj:j < o.syms.length,j < i/\o.syms[j].name=o.syms[i].name
theorem yhw (g:Nat) (o:Lk.Obj) (y:Lk.Sym) (w:World) (h:yu w g o) (hn:vS o) (hz:0<=o.bss/\o.bss<=64) (hl:y.name.length<=255) (hy:El o y) :
  Calls Tryz.prog 159 #[.pointer (some ⟨g,0,none⟩),.agg #[.string (bs y.name),.int .i64 y.bind,.int .i64 y.ah,.int .i64 y.off]] w fun e w'=>e = .returned (.bool true)/\w.grownBy w' none :=
 (Xg g o y w h hn hz hl).mono fun e w' ⟨t,k⟩=>by
  rcases t.split with ⟨_,p⟩ | ⟨rfl,_⟩
  ·exact absurd hy p.o
  ·exact ⟨rfl,k⟩
theorem yij (g:Nat) (o:Lk.Obj) (y:Lk.Sym) (w:World) (h:yu w g o) (hn:vS o) (hz:0<=o.bss/\o.bss<=64) (hl:y.name.length<=255) (hy:¬ El o y) :
  Calls Tryz.prog 159 #[.pointer (some ⟨g,0,none⟩),.agg #[.string (bs y.name),.int .i64 y.bind,.int .i64 y.ah,.int .i64 y.off]] w fun e w'=>e = .returned (.bool false)/\w.grownBy w' none :=
 (Xg g o y w h hn hz hl).mono fun e w' ⟨t,k⟩=>by
  rcases t.split with ⟨rfl,_⟩ | ⟨_,p⟩
  ·exact ⟨rfl,k⟩
  ·exact absurd p.o hy
theorem ynm (ys:List Lk.Sym) (k:Nat) (hk:k < ys.length) (nm:List UInt8):(∃ i,∃ h:i < (ys.take k).length,(ys.take k)[i].name=nm)↔∃ j,∃ hj:j < ys.length,j < k/\ys[j].name=nm:=by
 constructor
 ·rintro ⟨i,h,e⟩;simp only [List.length_take] at h;refine ⟨i,by omega,by omega,?_⟩;rw [List.getElem_take] at e;exact e
 ·rintro ⟨j,hj,hk',e⟩;refine ⟨j,by simp; omega,?_⟩;rw [List.getElem_take];exact e
theorem nZ.take {w:World} {ao:Option Addr} {ys:List Lk.Sym} (h:nZ w ao ys) (k:Nat):nZ w ao (ys.take k):=by
 intro h0;simp only [List.length_take] at h0;obtain ⟨g,h1,h2,h3⟩:=h (by omega);refine ⟨g,h1,h2,fun i hi=>?_⟩;have hi':i < ys.length:=by simp at hi; omega
 have:=h3 i hi'
 simpa [List.getElem_take] using this
theorem Yg (ao:Option Addr) (cap k:Nat) (ys:List Lk.Sym) (nm:List UInt8) (w:World) (h:nZ w ao ys) (hn:ys.length<=65535) (hk:k < ys.length) :
  Calls Tryz.prog 160 #[.slice ao k cap,.string (bs nm)] w fun e w'=>yg e (∃ j,∃ hj:j < ys.length,j < k/\ys[j].name=nm)/\w.grownBy w' none:=by
 have hl:(ys.take k).length=k:=by simp; omega
 have c:=(yoq ao cap (ys.take k) nm w (h.take k) (by omega)).mono fun e w' (hh:_/\_)=>(⟨hh.1.iff (ynm ys k hk nm),hh.2⟩:yg e (∃ j,∃ hj:j < ys.length,j < k/\ys[j].name=nm)/\w.grownBy w' none)
 rw [hl] at c;exact c
theorem yor (ao:Option Addr) (cap k:Nat) (ys:List Lk.Sym) (nm:List UInt8) (w:World) (h:nZ w ao ys) (hn:ys.length<=65535) (hk:k < ys.length) (hy:∃ j,∃ hj:j < ys.length,j < k/\ys[j].name=nm) :
  Calls Tryz.prog 160 #[.slice ao k cap,.string (bs nm)] w fun e w'=>e = .returned (.bool true)/\w.grownBy w' none :=
 (Yg ao cap k ys nm w h hn hk).mono fun e w' ⟨t,q⟩=>by
  rcases t.split with ⟨_,p⟩ | ⟨rfl,_⟩
  ·exact absurd hy p.o
  ·exact ⟨rfl,q⟩
theorem ypy (ao:Option Addr) (cap k:Nat) (ys:List Lk.Sym) (nm:List UInt8) (w:World) (h:nZ w ao ys) (hn:ys.length<=65535) (hk:k < ys.length) (hy:¬ ∃ j,∃ hj:j < ys.length,j < k/\ys[j].name=nm) :
  Calls Tryz.prog 160 #[.slice ao k cap,.string (bs nm)] w fun e w'=>e = .returned (.bool false)/\w.grownBy w' none :=
 (Yg ao cap k ys nm w h hn hk).mono fun e w' ⟨t,q⟩=>by
  rcases t.split with ⟨rfl,_⟩ | ⟨_,p⟩
  ·exact ⟨rfl,q⟩
  ·exact absurd p.o hy
theorem yu.drew {W:World} {g:Nat} {o:Lk.Obj} (h:yu W g o):yu W.drew g o:=h.kept ⟨rfl,rfl,rfl,Nat.le_refl _,fun _ _ _=>rfl⟩
theorem sN (t:Array Value) (ds:List Deferred) (i:Tmp) (v:Value):Act.put ⟨t,ds⟩ (some i) v=⟨t.setIfInBounds i v,ds⟩:=rfl
theorem yh {a b:World} {row:Option Nat} (h:a.grownBy b row):a.grownBy b.drew row:=⟨h.os,h.tape,h.output,h.size,h.block⟩
theorem yd {w w':World} {a:Addr} {v:Value} (h:w.cell? a=some v) (hg:w.grownBy w' none):w'.cell? a=some v:=hg.cell h (by simp)
theorem ygK (g:Nat) (o:Lk.Obj) (w:World) (h:yu w g o) (hn:vS o) (hz:0<=o.bss/\o.bss<=64) (hl:∀ y∈o.syms,y.name.length<=255) :
  Calls Tryz.prog 96 #[.pointer (some ⟨g,0,none⟩)] w fun e w'=>yg e (NQ o)/\w.grownBy w' none:=by
 obtain ⟨at_,ct,af,cf,ad,cd,aa,ca,gy,cs,ar,cr,hb,h1,h2,h3,h4,h5,h6⟩:=h.open;have k5:=hb.cell 5;have S:=hid (nZ.aO h5);have hcap:=qU h5;have hns:=hn.2.2.2.2.1;have HZ:=hid hz;have HL:=hid hl;have HO:=hid h;have HN:=hid hn;have HB:=hid hb;have hgw:=hb.lt;clear h hn hl hb h1 h2 h3 h4 h5 h6 hz;have hcap1:=hcap.1;have hcap2:=hcap.2;unfold maxLen at hcap2;clear hcap;go_enter Tryz.func96,Tryz.ntmps96;go_wp2
 go_loopw [10] (fun i wr=>∃ k:Nat,k<=o.syms.length/\i = .int .i64 k/\(∀ i (h:i < o.syms.length),i < k->El o o.syms[i]/\¬ ∃ j,∃ hj:j < o.syms.length,j < i/\o.syms[j].name=o.syms[i].name)/\w.grownBy wr none) (fun i _=>o.syms.length - (intOf i).toNat)
 case atStart=>exact ⟨0,Nat.zero_le _,rfl,fun j _ hj=>absurd hj (Nat.not_lt_zero j),World.grownBy.refl _ _⟩
 case round =>
  obtain ⟨k,hk,rfl,hall,hgr⟩:=hrel;have HA:=hid hall;have HG:=hid hgr;clear hall hgr;by_cases hlt:k < o.syms.length
  ·obtain ⟨sg,hao,hgs,hc⟩:=S.o.grown HG.o (by omega);have HAO:=hid hao;subst hao;obtain ⟨q0,q1,q2,q3⟩:=hc k hlt;clear hc;have hl:=HL.o o.syms[k] (iq hlt);have hgl:g < wr.heap.size:=(HB.o.grown HG.o (by simp)).lt;have hgc:=(HB.o.grown HG.o (by simp)).cell 5;have hne:=World.new_ne wr ⟨g,5,none⟩ (by simpa using hgc);have hgrow:=aJ wr (.cells #[.string (bs o.syms[k].name),.int .i64 o.syms[k].bind,.int .i64 o.syms[k].ah,.int .i64 o.syms[k].off] 100) none;have hblk:=yc.new wr #[.string (bs o.syms[k].name),.int .i64 o.syms[k].bind,.int .i64 o.syms[k].ah,.int .i64 o.syms[k].off] 100;have c0:Hd (((wr.alloc (.cells #[.string (bs o.syms[k].name),.int .i64 o.syms[k].bind,.int .i64 o.syms[k].ah,.int .i64 o.syms[k].off] 100)).drew).cell? ⟨wr.heap.size,0,none⟩=some (.string (bs o.syms[k].name))):=hblk.cell 0
   have c1:Hd (((wr.alloc (.cells #[.string (bs o.syms[k].name),.int .i64 o.syms[k].bind,.int .i64 o.syms[k].ah,.int .i64 o.syms[k].off] 100)).drew).cell? ⟨wr.heap.size,1,none⟩=some (.int .i64 o.syms[k].bind)):=hblk.cell 1;have c2:Hd (((wr.alloc (.cells #[.string (bs o.syms[k].name),.int .i64 o.syms[k].bind,.int .i64 o.syms[k].ah,.int .i64 o.syms[k].off] 100)).drew).cell? ⟨wr.heap.size,2,none⟩=some (.int .i64 o.syms[k].ah)):=hblk.cell 2;have c3:Hd (((wr.alloc (.cells #[.string (bs o.syms[k].name),.int .i64 o.syms[k].bind,.int .i64 o.syms[k].ah,.int .i64 o.syms[k].off] 100)).drew).cell? ⟨wr.heap.size,3,none⟩=some (.int .i64 o.syms[k].off)):=hblk.cell 3
   have c4:Hd (((wr.alloc (.cells #[.string (bs o.syms[k].name),.int .i64 o.syms[k].bind,.int .i64 o.syms[k].ah,.int .i64 o.syms[k].off] 100)).drew).cell? ⟨g,5,none⟩=some (.slice (some ⟨sg,0,none⟩) o.syms.length cs)):=yd (show wr.cell? ⟨g,5,none⟩=some (.slice (some ⟨sg,0,none⟩) o.syms.length cs) from by simpa using hgc) (yh hgrow);clear hgrow hblk;have hk1:(0:Int)<=(k:Int):=by omega
   have hk2:(k:Int)<=(cs:Int):=by omega
   by_cases hS:El o o.syms[k]
   ·have cV:=hid (fun W (hW:yu W g o)=>yhw g o o.syms[k] W hW HN.o HZ.o hl hS);have HS:=hid hS;clear hS;by_cases hN:∃ j,∃ hj:j < o.syms.length,j < k/\o.syms[j].name=o.syms[k].name
    ·have cN:=hid (fun W (hW:nZ W (some ⟨sg,0,none⟩) o.syms)=>yor (some ⟨sg,0,none⟩) cs k o.syms o.syms[k].name W hW hns hlt hN);have NN:=hid hN;clear hN;go_wp2
     go_region_held3 (fun w'=>w'.cell? ⟨wr.heap.size,0,none⟩=some (.string (bs o.syms[k].name))/\w'.cell? ⟨wr.heap.size,1,none⟩=some (.int .i64 o.syms[k].bind)/\w'.cell? ⟨wr.heap.size,2,none⟩=some (.int .i64 o.syms[k].ah)/\w'.cell? ⟨wr.heap.size,3,none⟩=some (.int .i64 o.syms[k].off)/\w'.cell? ⟨g,5,none⟩=some (.slice (some ⟨sg,0,none⟩) o.syms.length cs))
      (go_keep)
      (first | (go_at_call 159; refine (cV.o _ (yu.drew (yu.kept (HO.o.kept HG.o) (aJ _ _ _)))).mono ?_; rintro e w' ⟨rfl,hq⟩; have s0:=yd c0.o hq; have s1:=yd c1.o hq; have s2:=yd c2.o hq; have s3:=yd c3.o hq; have s4:=yd c4.o hq) | (go_at_call 160; refine (cN.o _ ?_).mono ?_; (exact ((S.o.grown HG.o).grown (yh (aJ _ _ _))).grown hq); rintro e w'' ⟨rfl,hq2⟩; have z0:=yd s0 hq2; have z1:=yd s1 hq2; have z2:=yd s2 hq2; have z3:=yd s3 hq2; have z4:=yd s4 hq2))
     go_wp2;go_ret;exact ⟨yg.no (fun hp=>(hp k hlt).2 NN.o),ya (ya HG.o (ya (yh (aJ _ _ _)) hq)) hq2⟩
    ·have cN:=hid (fun W (hW:nZ W (some ⟨sg,0,none⟩) o.syms)=>ypy (some ⟨sg,0,none⟩) cs k o.syms o.syms[k].name W hW hns hlt hN);have NN:=hid hN;clear hN;go_wp2
     go_region_held3 (fun w'=>w'.cell? ⟨wr.heap.size,0,none⟩=some (.string (bs o.syms[k].name))/\w'.cell? ⟨wr.heap.size,1,none⟩=some (.int .i64 o.syms[k].bind)/\w'.cell? ⟨wr.heap.size,2,none⟩=some (.int .i64 o.syms[k].ah)/\w'.cell? ⟨wr.heap.size,3,none⟩=some (.int .i64 o.syms[k].off)/\w'.cell? ⟨g,5,none⟩=some (.slice (some ⟨sg,0,none⟩) o.syms.length cs))
      (go_keep)
      (first | (go_at_call 159; refine (cV.o _ (yu.drew (yu.kept (HO.o.kept HG.o) (aJ _ _ _)))).mono ?_; rintro e w' ⟨rfl,hq⟩; have s0:=yd c0.o hq; have s1:=yd c1.o hq; have s2:=yd c2.o hq; have s3:=yd c3.o hq; have s4:=yd c4.o hq) | (go_at_call 160; refine (cN.o _ ?_).mono ?_; (exact ((S.o.grown HG.o).grown (yh (aJ _ _ _))).grown hq); rintro e w'' ⟨rfl,hq2⟩; have z0:=yd s0 hq2; have z1:=yd s1 hq2; have z2:=yd s2 hq2; have z3:=yd s3 hq2; have z4:=yd s4 hq2))
     go_wp2
     go_roundw
     case rel=>exact ⟨k+1,by omega,by go_num,fun j hj hjk=>(Nat.lt_succ_iff_lt_or_eq.1 hjk).elim (fun h=>HA.o j hj h) (fun h=>by subst h; exact ⟨HS.o,NN.o⟩),ya (ya HG.o (ya (yh (aJ _ _ _)) hq)) hq2⟩
     case measure=>simp [intOf]; omega
   ·have cV:=hid (fun W (hW:yu W g o)=>yij g o o.syms[k] W hW HN.o HZ.o hl hS);have HS:=hid hS;clear hS;go_wp2;refine wp_region_any (by kernel_rfl) ?_
    change wpAny _ Region.Mode.any _ _ _ _ _ (World.drew (wr.alloc _))
    refine wpAny_take (i:=0) (v:=?_) rfl (by kernel_rfl) (by kernel_rfl) (by kernel_rfl) (fun _ _ _ h=>h) (Or.inl ⟨by rfl,?_⟩) ?_
    rotate_left
    ·intro w; go_simp; with_reducible rfl
    refine wpAny_ready (rs:=[1]) (by kernel_rfl) (by simp) ?_;refine AllReady.cons rfl (fun K hK=>?_) AllReady.nil;go_simp;refine hK _ _ ?_;clear hK K;refine wpAny_ready (rs:=[2]) (by kernel_rfl) (by simp) ?_;refine AllReady.cons rfl (fun K hK=>?_) AllReady.nil;go_simp;go_wp2_with (go_at_call 159; refine (cV.o _ ?_).mono ?_; (exact (yu.drew (yu.kept (HO.o.kept HG.o) (aJ _ _ _)))); rintro e w' ⟨rfl,hq⟩)
    refine wpAny_take (i:=3) (v:=?_) rfl (by kernel_rfl) (by kernel_rfl) (by kernel_rfl) (fun _ _ _ h=>h) (Or.inl ⟨by rfl,?_⟩) ?_
    rotate_left
    ·intro w; go_simp; with_reducible rfl
    refine wpAny_take (i:=4) (v:=?_) rfl (by kernel_rfl) (by kernel_rfl) (by kernel_rfl) (fun _ _ _ h=>h) (Or.inl ⟨by rfl,?_⟩) ?_
    rotate_left
    ·intro w; go_simp; with_reducible rfl
    refine wpAny_take (i:=5) (v:=undef) rfl (by kernel_rfl) (by kernel_rfl) (by kernel_rfl) (fun _ _ _ h=>h) (Or.inr ⟨by kernel_rfl,rfl⟩) ?_;refine wpAny_take (i:=6) (v:=undef) rfl (by kernel_rfl) (by kernel_rfl) (by kernel_rfl) (fun _ _ _ h=>h) (Or.inr ⟨by kernel_rfl,rfl⟩) ?_;refine wpAny_take (i:=7) (v:=undef) rfl (by kernel_rfl) (by kernel_rfl) (by kernel_rfl) (fun _ _ _ h=>h) (Or.inr ⟨by kernel_rfl,rfl⟩) ?_;refine wpAny_take (i:=8) (v:=undef) rfl (by kernel_rfl) (by kernel_rfl) (by kernel_rfl) (fun _ _ _ h=>h) (Or.inr ⟨by kernel_rfl,rfl⟩) ?_;refine wpAny_take (i:=9) (v:=undef) rfl (by kernel_rfl) (by kernel_rfl) (by kernel_rfl) (fun _ _ _ h=>h) (Or.inr ⟨by kernel_rfl,rfl⟩) ?_
    refine wpAny_take (i:=10) (v:=undef) rfl (by kernel_rfl) (by kernel_rfl) (by kernel_rfl) (fun _ _ _ h=>h) (Or.inr ⟨by kernel_rfl,rfl⟩) ?_;refine wpAny_take (i:=11) (v:=undef) rfl (by kernel_rfl) (by kernel_rfl) (by kernel_rfl) (fun _ _ _ h=>h) (Or.inr ⟨by kernel_rfl,rfl⟩) ?_;refine wpAny_take (i:=12) (v:=undef) rfl (by kernel_rfl) (by kernel_rfl) (by kernel_rfl) (fun _ _ _ h=>h) (Or.inr ⟨by kernel_rfl,rfl⟩) ?_;refine wpAny_take (i:=13) (v:=undef) rfl (by kernel_rfl) (by kernel_rfl) (by kernel_rfl) (fun _ _ _ h=>h) (Or.inr ⟨by kernel_rfl,rfl⟩) ?_;refine wpAny_take (i:=14) (v:=.bool true) rfl (by kernel_rfl) (by kernel_rfl) (by kernel_rfl) (fun _ _ _ h=>h) (Or.inl ⟨by kernel_rfl,fun _=>by kernel_rfl⟩) ?_
    refine wpAny_done (by kernel_rfl) ?_ _;simp only [sN,qc,pz,pU,gu,fZ,gq];go_wp2;go_ret;exact ⟨yg.no (fun hp=>HS.o (hp k hlt).1),ya HG.o (ya (yh (aJ _ _ _)) hq)⟩
  ·go_wp2;go_ret;exact ⟨yg.yes fun i hi=>HA.o i hi (by omega),HG.o⟩
def Eh (r:Lk.Rel):Prop:=((r.ah=1\/r.ah=2)/\1<=r.kind/\r.kind<=6)\/(r.ah=3/\r.kind=1)
def rU (r:Lk.Rel):Prop:=if r.kind=1\/r.kind=5 then -2048<=r.addend/\r.addend<=2047 else if r.kind=6 then r.addend=4\/r.addend=12 else r.addend=0
def Ka (o:Lk.Obj) (r:Lk.Rel):Prop:=if r.kind=6 then r.sym=0 else 0<=r.sym/\r.sym < o.syms.length
def nX (r:Lk.Rel):Int:=if r.kind=4\/r.kind=5 then 2 else if r.kind=6 then r.addend / 4 else 1
def fK (r:Lk.Rel):Value:=.agg #[.int .i64 r.ah,.int .i64 r.off,.int .i64 r.kind,.int .i64 r.sym,.int .i64 r.addend]
theorem Dt {r:Lk.Rel} (h:rU r):1<=nX r/\nX r<=3:=by
 unfold rU at h;unfold nX;split
 ·omega
 ·split
  ·rename_i h1 h2;rw [if_neg (by omega),if_pos h2] at h;omega
  ·omega
theorem yjb (r:Lk.Rel) (w:World) :
  Calls Tryz.prog 203 #[fK r] w fun e w'=>yg e (Eh r)/\w.grownBy w' none:=by
 have G:=hid (fun o:Obj=>aJ w o none);have HQ:=hid (show Eh r↔((r.ah=1\/r.ah=2)/\1<=r.kind/\r.kind<=6)\/(r.ah=3/\r.kind=1) from Iff.rfl);unfold fK;generalize Eh r=Q at *;obtain ⟨ah,off,kind,sym,addend⟩:=r;simp only at *;by_cases e1:ah=1
 ·subst e1;by_cases c1:1<=kind
  ·have d1:decide (1<=kind)=true:=by simpa using c1
   go_enter Tryz.func203,Tryz.ntmps203;go_wp2;go_ret;exact ⟨yg.of (by rw [HQ.o,decide_eq_true_iff]; simp; omega),G.o _⟩
  ·have d1:decide (1<=kind)=false:=by simp; omega
   go_enter Tryz.func203,Tryz.ntmps203;go_wp2;go_ret;exact ⟨yg.no (by rw [HQ.o]; omega),G.o _⟩
 have d1:(ah == 1)=false:=beq_eq_false_iff_ne.2 e1;by_cases e2:ah=2
 ·subst e2;clear e1;by_cases c1:1<=kind
  ·have d1:decide (1<=kind)=true:=by simpa using c1
   go_enter Tryz.func203,Tryz.ntmps203;go_wp2;go_ret;exact ⟨yg.of (by rw [HQ.o,decide_eq_true_iff]; simp; omega),G.o _⟩
  ·have d1:decide (1<=kind)=false:=by simp; omega
   go_enter Tryz.func203,Tryz.ntmps203;go_wp2;go_ret;exact ⟨yg.no (by rw [HQ.o]; omega),G.o _⟩
 have d2:(ah == 2)=false:=beq_eq_false_iff_ne.2 e2;by_cases e3:ah=3
 ·subst e3;clear e1 e2;go_enter Tryz.func203,Tryz.ntmps203;go_wp2;go_ret;exact ⟨yg.of (by rw [HQ.o,beq_iff_eq]; simp),G.o _⟩
 have d3:(ah == 3)=false:=beq_eq_false_iff_ne.2 e3;have E:=hid (⟨e1,e2,e3⟩:ah≠1/\ah≠2/\ah≠3);clear e1 e2 e3;go_enter Tryz.func203,Tryz.ntmps203;go_wp2;go_ret;exact ⟨yg.no (by rw [HQ.o]; have:=E.o; omega),G.o _⟩
theorem yhu (r:Lk.Rel) (w:World) :
  Calls Tryz.prog 204 #[fK r] w fun e w'=>yg e (rU r)/\w.grownBy w' none:=by
 have G:=hid (fun o:Obj=>aJ w o none);have HQ:=hid (show rU r↔if r.kind=1\/r.kind=5 then -2048<=r.addend/\r.addend<=2047 else if r.kind=6 then r.addend=4\/r.addend=12 else r.addend=0 from Iff.rfl);unfold fK;generalize rU r=Q at *;obtain ⟨ah,off,kind,sym,addend⟩:=r;simp only at *;by_cases e1:kind=1\/kind=5
 ·have oO:=hid (show Q↔-2048<=addend/\addend<=2047 from by rw [HQ.o,if_pos e1]);clear HQ;by_cases c1:-2048<=addend
  ·have d1:decide (-2048<=addend)=true:=by simpa using c1
   rcases e1 with rfl | rfl
   all_goals
    go_enter Tryz.func204,Tryz.ntmps204;go_wp2;go_ret;exact ⟨yg.of (by rw [oO.o,decide_eq_true_iff]; omega),G.o _⟩
  ·have d1:decide (-2048<=addend)=false:=by simp; omega
   rcases e1 with rfl | rfl
   all_goals
    go_enter Tryz.func204,Tryz.ntmps204;go_wp2;go_ret;exact ⟨yg.no (by rw [oO.o]; omega),G.o _⟩
 by_cases e6:kind=6
 ·subst e6;have oO:=hid (show Q↔addend=4\/addend=12 from by rw [HQ.o,if_neg (by omega),if_pos rfl]);clear HQ e1;by_cases c1:addend=4
  ·subst c1;go_enter Tryz.func204,Tryz.ntmps204;go_wp2;go_ret;exact ⟨yg.yes (by rw [oO.o]; simp),G.o _⟩
  ·have d1:(addend == 4)=false:=beq_eq_false_iff_ne.2 c1;have C1:=hid c1;clear c1;go_enter Tryz.func204,Tryz.ntmps204;go_wp2;go_ret;exact ⟨yg.of (by rw [oO.o,beq_iff_eq]; have:=C1.o; omega),G.o _⟩
 ·have oO:=hid (show Q↔addend=0 from by rw [HQ.o,if_neg e1,if_neg e6]);have d1:(kind == 1)=false:=beq_eq_false_iff_ne.2 (by omega);have d5:(kind == 5)=false:=beq_eq_false_iff_ne.2 (by omega);have d6:(kind == 6)=false:=beq_eq_false_iff_ne.2 (by omega);clear HQ e1 e6;go_enter Tryz.func204,Tryz.ntmps204;go_wp2;go_ret;exact ⟨yg.of (by rw [oO.o,beq_iff_eq]),G.o _⟩
theorem NG (r:Lk.Rel) (w:World) (h:r.kind=6->r.addend=4\/r.addend=12) :
  Calls Tryz.prog 209 #[fK r] w fun e w'=>e = .returned (.int .i64 (nX r))/\w.grownBy w' none:=by
 have G:=hid (fun o:Obj=>aJ w o none);unfold fK nX;obtain ⟨ah,off,kind,sym,addend⟩:=r;simp only at *;by_cases e4:kind=4
 ·subst e4;go_enter Tryz.func209,Tryz.ntmps209;go_wp2;go_ret;exact ⟨by simp,G.o _⟩
 by_cases e5:kind=5
 ·subst e5;clear e4;go_enter Tryz.func209,Tryz.ntmps209;go_wp2;go_ret;exact ⟨by simp,G.o _⟩
 by_cases e6:kind=6
 ·subst e6;have ha:=h rfl;clear e4 e5 h;rcases ha with rfl | rfl
  all_goals
   go_enter Tryz.func209,Tryz.ntmps209;go_wp2;go_ret;exact ⟨by simp,G.o _⟩
 have d4:(kind == 4)=false:=beq_eq_false_iff_ne.2 e4;have d5:(kind == 5)=false:=beq_eq_false_iff_ne.2 e5;have d6:(kind == 6)=false:=beq_eq_false_iff_ne.2 e6;rw [if_neg (by omega),if_neg e6];clear e4 e5 e6 h;go_enter Tryz.func209,Tryz.ntmps209;go_wp2;go_ret;exact ⟨rfl,G.o _⟩
theorem rU.six {r:Lk.Rel} (h:rU r) (h6:r.kind=6):r.addend=4\/r.addend=12:=by
 unfold rU at h;rw [if_neg (by omega),if_pos h6] at h;exact h
theorem ykL (g:Nat) (o:Lk.Obj) (r:Lk.Rel) (w:World) (h:yu w g o) (hn:vS o) :
  Calls Tryz.prog 205 #[.pointer (some ⟨g,0,none⟩),fK r] w fun e w'=>yg e (Ka o r)/\w.grownBy w' none:=by
 have G:=hid (fun o:Obj=>aJ w o none);have HQ:=hid (show Ka o r↔if r.kind=6 then r.sym=0 else 0<=r.sym/\r.sym < o.syms.length from Iff.rfl);obtain ⟨at_,ct,af,cf,ad,cd,aa,ca,gy,cs,ar,cr,hb,-⟩:=h.open;have k5:=fun ob:Obj=>(hb.grown (aJ w ob none) (by simp)).cell 5
 have hns:=hn.2.2.2.2.1;clear h hb hn;unfold fK;generalize Ka o r=Q at *;generalize o.syms.length=n at *;obtain ⟨ah,off,kind,sym,addend⟩:=r;simp only at *;have k5':=k5 (.cells #[.int .i64 ah,.int .i64 off,.int .i64 kind,.int .i64 sym,.int .i64 addend] 102);clear k5;by_cases e6:kind=6
 ·subst e6;have oO:=hid (show Q↔sym=0 from by rw [HQ.o,if_pos rfl]);clear HQ;go_enter Tryz.func205,Tryz.ntmps205;go_wp2;go_ret;exact ⟨yg.of (by rw [oO.o,beq_iff_eq]),G.o _⟩
 have oO:=hid (show Q↔0<=sym/\sym < n from by rw [HQ.o,if_neg e6]);have d6:(kind == 6)=false:=beq_eq_false_iff_ne.2 e6;clear HQ e6;by_cases c1:0<=sym
 ·have d1:decide (0<=sym)=true:=by simpa using c1
  go_enter Tryz.func205,Tryz.ntmps205;go_wp2
  go_quiet (fail)
  go_wp2;go_ret;exact ⟨yg.of (by rw [oO.o,decide_eq_true_iff]; omega),yf (G.o _) _⟩
 ·have d1:decide (0<=sym)=false:=by simp; omega
  go_enter Tryz.func205,Tryz.ntmps205;go_wp2
  go_quiet (fail)
  go_wp2;go_ret;exact ⟨yg.no (by rw [oO.o]; omega),yf (G.o _) _⟩
def xJ (x:Int):Int:=if x=2 then 4 else if x=3 then 8 else 16
theorem Xh (g:Nat) (o:Lk.Obj) (ah:Nat) (w:World) (h:yu w g o) (hb4:AJ o.align) (h1:1<=ah) (h3:ah<=3) :
  Calls Tryz.prog 106 #[.pointer (some ⟨g,0,none⟩),.int .i64 ah] w fun e w'=>e = .returned (.int .i64 (xJ (o.align[ah - 1]'(by have:=hb4.1; omega))))/\w'=w:=by
 obtain ⟨at_,ct,af,cf,ad,cd,aa,ca,gy,cs,ar,cr,hb,-,-,-,q4,-⟩:=h.open;have hl:=hb4.1;have hr:=hb4.2 (ah - 1) (by omega);obtain ⟨ga,off,rfl,hc⟩:=yy.aO q4 (by omega);have hck:=hc (ah - 1) (by omega);have k4:=hb.cell 4;clear h hb hc q4;have g1:(1:Int)<=(ah:Int):=by omega
 have g2:(ah:Int)<=3:=by omega
 have HL:=hid hl;have hl4:4<=o.align.length:=by omega
 have hl5:o.align.length<=4:=by omega
 have hpf:ah - 1 < o.align.length:=by omega
 have hk:w.cell? ⟨ga,off+(ah - 1),none⟩=some (.int .i64 (o.align[ah - 1]'hpf)):=hck;clear hck;show Calls _ _ _ _ fun e w'=>e = .returned (.int .i64 (xJ (o.align[ah - 1]'hpf)))/\w'=w
 replace hr:2<=o.align[ah - 1]'hpf/\o.align[ah - 1]'hpf<=4:=hr;generalize o.align[ah - 1]'hpf=x at *;generalize o.align.length=n at *;rcases (show x=2\/x=3\/x=4 from by omega) with rfl | rfl | rfl
 all_goals
  clear hr HL hb4;go_enter Tryz.func106,Tryz.ntmps106;go_wp2;go_ret;exact ⟨by simp [xJ],rfl⟩
def Gr (a r:Lk.Rel):Prop:=if r.ah=a.ah then a.off+4 * nX a<=r.off else a.ah < r.ah
theorem ylc (a r:Lk.Rel) (w:World) (h:rU a) (h0:0<=a.off) (h1:a.off<=1048576) :
  Calls Tryz.prog 162 #[fK a,fK r] w fun e w'=>yg e (Gr a r)/\w.grownBy w' none:=by
 have hsp:=Dt h;have cS:=hid (fun W=>NG a W h.six);have HQ:=hid (show Gr a r↔if r.ah=a.ah then a.off+4 * nX a<=r.off else a.ah < r.ah from Iff.rfl);have G1:=hid (fun o:Obj=>aJ w o none);have G2:=hid (fun o o':Obj=>aJ (w.alloc o) o' none);generalize Gr a r=Q at *;generalize nX a=sp at *;obtain ⟨gy,ao,ak,ay,aa⟩:=a;obtain ⟨rs,ro,rk,ry,ra⟩:=r;unfold fK at *;simp only at *;clear h;by_cases e1:rs=gy
 ·subst e1;have oO:=hid (show Q↔ao+4 * sp<=ro from by rw [HQ.o,if_pos rfl]);clear HQ;have d1:(rs == rs)=true:=by simp
  go_enter Tryz.func162,Tryz.ntmps162;go_wp2;have B1:=(yc.new w #[.int .i64 rs,.int .i64 ao,.int .i64 ak,.int .i64 ay,.int .i64 aa] 102).grown (yh (aJ _ (.cells #[.int .i64 rs,.int .i64 ro,.int .i64 rk,.int .i64 ry,.int .i64 ra] 102) none)) (by simp);have c0:=hid (B1.cell 0);have c1:=hid (B1.cell 1);have c2:=hid (B1.cell 2);have c3:=hid (B1.cell 3);have c4:=hid (B1.cell 4);have VU:(((w.alloc (.cells #[.int .i64 rs,.int .i64 ao,.int .i64 ak,.int .i64 ay,.int .i64 aa] 102)).alloc (.cells #[.int .i64 rs,.int .i64 ro,.int .i64 rk,.int .i64 ry,.int .i64 ra] 102)).drew).cell? ⟨w.heap.size+1,1,none⟩=some (.int .i64 ro):=by simp
  have c5:=hid VU;clear VU;clear B1
  go_region_held3 (fun w'=>w'.cell? ⟨w.heap.size,0,none⟩=some (.int .i64 rs)/\w'.cell? ⟨w.heap.size,1,none⟩=some (.int .i64 ao)/\w'.cell? ⟨w.heap.size,2,none⟩=some (.int .i64 ak)/\w'.cell? ⟨w.heap.size,3,none⟩=some (.int .i64 ay)/\w'.cell? ⟨w.heap.size,4,none⟩=some (.int .i64 aa)/\w'.cell? ⟨w.heap.size+1,1,none⟩=some (.int .i64 ro))
   (go_keep)
   (first | (go_at_call 209; refine (cS.o _).mono ?_; rintro e w' ⟨rfl,hq⟩; have s0:=yd c0.o hq; have s1:=yd c1.o hq; have s2:=yd c2.o hq; have s3:=yd c3.o hq; have s4:=yd c4.o hq; have s5:=yd c5.o hq))
  go_wp2;go_ret;exact ⟨yg.of (by rw [oO.o,decide_eq_true_iff,IntWalk.i64_in (4 * sp) ⟨by omega,by omega⟩,IntWalk.i64_in _ ⟨by omega,by omega⟩]),ya (ya (G1.o _) (yh (G2.o _ _))) hq⟩
 ·have oO:=hid (show Q↔gy < rs from by rw [HQ.o,if_neg e1]);have d1:(rs == gy)=false:=beq_eq_false_iff_ne.2 e1;clear HQ e1;go_enter Tryz.func162,Tryz.ntmps162;go_wp2;go_ret;exact ⟨yg.of (by rw [oO.o,decide_eq_true_iff]),ya (G1.o _) (G2.o _ _)⟩
def Ee (o:Lk.Obj) (r:Lk.Rel):Prop:=0<=r.off/\r.off % 4=0/\r.off / 4+nX r<=(yx o r.ah).length
def yV (o:Lk.Obj) (r:Lk.Rel):List Int:=((yx o r.ah).drop (r.off / 4).toNat).take (nX r).toNat
theorem SH (g:Nat) (o:Lk.Obj) (r:Lk.Rel) (w:World) (h:yu w g o) (hn:vS o) (ha:rU r) (hab:Ee o r) :
  Calls Tryz.prog 207 #[.pointer (some ⟨g,0,none⟩),fK r] w fun e w'=>∃ ao cap,e = .returned (.slice ao (nX r).toNat cap)/\yy w' ao (yV o r)/\w.grownBy w' none:=by
 obtain ⟨b1,b2,b3⟩:=hab;have hsp:=Dt ha;have cS:=hid (fun W=>NG r W ha.six);have cW:=hid (fun W (hW:yu W g o)=>Pw g o r.ah W hW);have hsm:=JO hn r.ah;have G:=hid (fun ob:Obj=>aJ w ob none);have H:=hid h;unfold yV;clear h hn ha;generalize nX r=sp at *;obtain ⟨n,rfl⟩:=Int.eq_ofNat_of_zero_le (show 0<=sp from by omega);generalize yx o r.ah=ws at *;obtain ⟨ah,off,kind,sym,addend⟩:=r;unfold fK at *;simp only at *;obtain ⟨k,hk⟩:∃ k:Nat,off=4 * (k:Int):=⟨(off / 4).toNat,by omega⟩
 have e1:off / 4=(k:Int):=by omega
 have e2:(off / 4).toNat=k:=by omega
 rw [e2,Int.toNat_natCast];rw [e1] at b3;have HE1:=hid e1;clear e1 e2;subst hk;clear b1 b2;have hkn:k+n<=ws.length:=by omega
 have hn1:1<=n:=by omega
 have hn3:n<=3:=by omega
 clear b3 hsp;go_enter Tryz.func207,Tryz.ntmps207;go_wp2_with fail;refine (cW.o _ (H.o.kept (G.o _))).mono ?_;rintro e w1 ⟨ao,cap,rfl,⟨hI,hc1,hc2⟩,hw1⟩;have B:=yc.new w #[.int .i64 ah,.int .i64 (4 * (k:Int)),.int .i64 kind,.int .i64 sym,.int .i64 addend] 102;have GG:=G.o (.cells #[.int .i64 ah,.int .i64 (4 * (k:Int)),.int .i64 kind,.int .i64 sym,.int .i64 addend] 102);rw [<- hw1] at hI B GG;clear hw1;unfold maxLen at hc2;obtain ⟨g',off',rfl,hcell⟩:=hI (by omega);have HI:=hid hcell;have k0:=B.cell 0;have k1:=B.cell 1;have k2:=B.cell 2;have k3:=B.cell 3;have k4:=B.cell 4;have HB:=hid B;have Ih:=hid GG
 clear B GG hI hcell;go_wp2_with fail;refine (cS.o _).mono ?_;rintro e w2 ⟨rfl,hq⟩;have m1:=yd k1 hq;have HQ:=hid hq;clear k0 k1 k2 k3 k4 hq HB;go_wp2;go_ret;refine ⟨some ⟨g',off'+k,none⟩,cap - k,?_,?_,ya Ih.o HQ.o⟩
 ·show Ending.returned (.slice (some ⟨g',off'+k,none⟩) (k+n - k) (cap - k))=_;rw [Nat.add_sub_cancel_left]
 ·intro _;refine ⟨g',off'+k,rfl,fun i hi=>?_⟩;have hi':k+i < ws.length:=by simp at hi; omega
  have:=yd (HI.o (k+i) hi') HQ.o
  rw [Nat.add_assoc,this];simp
theorem Xr (g:Nat) (o:Lk.Obj) (r:Lk.Rel) (w:World) (h:yu w g o) (hn:vS o) (ha:rU r) (hab:¬ Ee o r) (hr:r.off<=9223372036854775807) :
  Calls Tryz.prog 207 #[.pointer (some ⟨g,0,none⟩),fK r] w fun e w'=>e = .returned (.slice none 0 0)/\w.grownBy w' none:=by
 have hsp:=Dt ha;have cS:=hid (fun W=>NG r W ha.six);have cW:=hid (fun W (hW:yu W g o)=>Pw g o r.ah W hW);have hsm:=JO hn r.ah;have G:=hid (fun ob:Obj=>aJ w ob none);have H:=hid h;unfold Ee at hab;clear h hn ha;generalize nX r=sp at *;generalize yx o r.ah=ws at *;obtain ⟨ah,off,kind,sym,addend⟩:=r;unfold fK at *;simp only at *;have D1:decide (sp < 1)=false:=by simp; omega
 go_enter Tryz.func207,Tryz.ntmps207;go_wp2_with fail;refine (cW.o _ (H.o.kept (G.o _))).mono ?_;rintro e w1 ⟨ao,cap,rfl,-,hw1⟩;have B:=yc.new w #[.int .i64 ah,.int .i64 off,.int .i64 kind,.int .i64 sym,.int .i64 addend] 102;have GG:=G.o (.cells #[.int .i64 ah,.int .i64 off,.int .i64 kind,.int .i64 sym,.int .i64 addend] 102);rw [<- hw1] at B GG;clear hw1;have k0:=B.cell 0;have k1:=B.cell 1;have k2:=B.cell 2;have k3:=B.cell 3;have k4:=B.cell 4;have Ih:=hid GG;clear B GG;go_wp2_with fail;refine (cS.o _).mono ?_;rintro e w2 ⟨rfl,hq⟩;have m1:=yd k1 hq;have HQ:=hid hq;clear k0 k1 k2 k3 k4 hq;by_cases b1:off < 0
 ·have d1:decide (off < 0)=true:=by simpa using b1
  clear hab;go_wp2;go_ret;exact ⟨rfl,ya Ih.o HQ.o⟩
 have b1':0<=off:=by omega
 have d1:decide (off < 0)=false:=by simp; omega
 by_cases b2:off % 4=0
 ·have d2:(off % 4 == 0)=true:=by simpa using b2
  have b3:(ws.length:Int) - sp < off / 4:=by omega
  clear hab b2;go_wp2;go_ret;exact ⟨rfl,ya Ih.o HQ.o⟩
 ·have d2:(off % 4 == 0)=false:=by simpa using b2
  clear hab b2;go_wp2;go_ret;exact ⟨rfl,ya Ih.o HQ.o⟩
def KT (o:Lk.Obj) (r:Lk.Rel):Prop:=∃ i,∃ h:i < o.syms.length,o.syms[i].ah=r.ah/\r.off < o.syms[i].off/\o.syms[i].off < r.off+4 * nX r
theorem Xd (g:Nat) (o:Lk.Obj) (r:Lk.Rel) (w:World) (h:yu w g o) (hn:vS o) (ha:rU r) (h0:0<=r.off) (h1:r.off<=1048576) :
  Calls Tryz.prog 208 #[.pointer (some ⟨g,0,none⟩),fK r] w fun e w'=>yg e (KT o r)/\w.grownBy w' none:=by
 have hsp:=Dt ha;have cS:=hid (fun W=>NG r W ha.six);obtain ⟨at_,ct,af,cf,ad,cd,aa,ca,gy,cs,ar,cr,hb,-,-,-,-,q5,-⟩:=h.open;have S:=hid (nZ.aO q5);have HB:=hid hb;have hns:=hn.2.2.2.2.1;have G:=hid (fun ob:Obj=>aJ w ob none);have HQ:=hid (show KT o r↔∃ i,∃ h:i < o.syms.length,o.syms[i].ah=r.ah/\r.off < o.syms[i].off/\o.syms[i].off < r.off+4 * nX r from Iff.rfl);clear h hb hn ha q5;generalize KT o r=Q at *;generalize nX r=sp at *;generalize o.syms=ys at *;obtain ⟨ah,off,kind,sym,addend⟩:=r;unfold fK at *;simp only at *;have B:=yc.new w #[.int .i64 ah,.int .i64 off,.int .i64 kind,.int .i64 sym,.int .i64 addend] 102
 have c0:=hid (show (w.alloc (.cells #[.int .i64 ah,.int .i64 off,.int .i64 kind,.int .i64 sym,.int .i64 addend] 102)).drew.cell? ⟨w.heap.size,0,none⟩=some (.int .i64 ah) from B.cell 0);have c1:=hid (show (w.alloc (.cells #[.int .i64 ah,.int .i64 off,.int .i64 kind,.int .i64 sym,.int .i64 addend] 102)).drew.cell? ⟨w.heap.size,1,none⟩=some (.int .i64 off) from B.cell 1);have c2:=hid (show (w.alloc (.cells #[.int .i64 ah,.int .i64 off,.int .i64 kind,.int .i64 sym,.int .i64 addend] 102)).drew.cell? ⟨w.heap.size,2,none⟩=some (.int .i64 kind) from B.cell 2);have c3:=hid (show (w.alloc (.cells #[.int .i64 ah,.int .i64 off,.int .i64 kind,.int .i64 sym,.int .i64 addend] 102)).drew.cell? ⟨w.heap.size,3,none⟩=some (.int .i64 sym) from B.cell 3)
 have c4:=hid (show (w.alloc (.cells #[.int .i64 ah,.int .i64 off,.int .i64 kind,.int .i64 sym,.int .i64 addend] 102)).drew.cell? ⟨w.heap.size,4,none⟩=some (.int .i64 addend) from B.cell 4);have nY:=hid B;clear B;have hw4:IntKind.i64.wrap (4 * sp)=4 * sp:=IntWalk.i64_in _ ⟨by omega,by omega⟩;have hw5:IntKind.i64.wrap (off+4 * sp)=off+4 * sp:=IntWalk.i64_in _ ⟨by omega,by omega⟩;go_enter Tryz.func208,Tryz.ntmps208;go_wp2
 go_region_held3 (fun w'=>w'.cell? ⟨w.heap.size,0,none⟩=some (.int .i64 ah)/\w'.cell? ⟨w.heap.size,1,none⟩=some (.int .i64 off)/\w'.cell? ⟨w.heap.size,2,none⟩=some (.int .i64 kind)/\w'.cell? ⟨w.heap.size,3,none⟩=some (.int .i64 sym)/\w'.cell? ⟨w.heap.size,4,none⟩=some (.int .i64 addend))
  (go_keep)
  (first | (go_at_call 209; refine (cS.o _).mono ?_; rintro e w' ⟨rfl,hq⟩; have s0:=yd c0.o hq; have s1:=yd c1.o hq; have s2:=yd c2.o hq; have s3:=yd c3.o hq; have s4:=yd c4.o hq))
 have GW:=hid (ya (yh (G.o (.cells #[.int .i64 ah,.int .i64 off,.int .i64 kind,.int .i64 sym,.int .i64 addend] 102))) hq);have k5:=(HB.o.grown GW.o (by simp)).cell 5;have HR:=hid (nY.o.grown (ya (yh (World.grownBy.refl _ _)) hq) (by simp));clear hq s0 s1 s2 s3 s4 hw4 hw5 c0 c1 c2 c3 c4;go_wp2
 go_loopw [19] (fun i wr=>∃ k:Nat,k<=ys.length/\i = .int .i64 k/\(∀ j (hj:j < ys.length),j < k->¬ (ys[j].ah=ah/\off < ys[j].off/\ys[j].off < off+4 * sp))/\w'.grownBy wr none) (fun i _=>ys.length - (intOf i).toNat)
 case atStart=>exact ⟨0,Nat.zero_le _,rfl,fun j _ hj=>absurd hj (Nat.not_lt_zero j),World.grownBy.refl _ _⟩
 case round =>
  obtain ⟨k,hk,rfl,hall,hgr⟩:=hrel;have HA:=hid hall;have HG:=hid hgr;clear hall hgr;by_cases hlt:k < ys.length
  ·obtain ⟨sg,hao,hgs,hc⟩:=(S.o.grown GW.o).grown HG.o (by omega);subst hao;obtain ⟨q0,q1,q2,q3⟩:=hc k hlt;have RB:=HR.o.grown HG.o (by simp);have hne:=RB.lt;have r0:=RB.cell 0;have r1:=RB.cell 1;have hnn:w.heap.size≠wr.heap.size:=by omega
   clear hc RB;have GA:=hid (fun ob:Obj=>aJ wr ob none);by_cases e1:ys[k].ah=ah
   ·have d1:(ys[k].ah == ah)=true:=beq_iff_eq.2 e1;by_cases e2:off < ys[k].off
    ·have d2:decide (off < ys[k].off)=true:=by simpa using e2
     by_cases e3:ys[k].off < off+4 * sp
     ·have d3:decide (ys[k].off < off+4 * sp)=true:=by simpa using e3
      have N:=hid (show Q from HQ.o.2 ⟨k,hlt,e1,e2,e3⟩);clear e1;go_wp2;go_ret;exact ⟨yg.yes N.o,ya (ya GW.o HG.o) (GA.o _)⟩
     ·have d3:decide (ys[k].off < off+4 * sp)=false:=by simp; omega
      have N:=hid (show ¬ (ys[k].ah=ah/\off < ys[k].off/\ys[k].off < off+4 * sp) from fun h=>e3 h.2.2);clear e1 e3;go_wp2
      go_roundw
      case rel=>exact ⟨k+1,by omega,by go_num,fun j hj hjk=>(Nat.lt_succ_iff_lt_or_eq.1 hjk).elim (fun h=>HA.o j hj h) (fun h=>by subst h; exact N.o),ya HG.o (GA.o _)⟩
      case measure=>simp [intOf]; omega
    ·have d2:decide (off < ys[k].off)=false:=by simp; omega
     have N:=hid (show ¬ (ys[k].ah=ah/\off < ys[k].off/\ys[k].off < off+4 * sp) from fun h=>e2 h.2.1);clear e1 e2;go_wp2
     go_roundw
     case rel=>exact ⟨k+1,by omega,by go_num,fun j hj hjk=>(Nat.lt_succ_iff_lt_or_eq.1 hjk).elim (fun h=>HA.o j hj h) (fun h=>by subst h; exact N.o),ya HG.o (GA.o _)⟩
     case measure=>simp [intOf]; omega
   ·have d1:(ys[k].ah == ah)=false:=beq_eq_false_iff_ne.2 e1;have N:=hid (show ¬ (ys[k].ah=ah/\off < ys[k].off/\ys[k].off < off+4 * sp) from fun h=>e1 h.1);clear e1;go_wp2
    go_roundw
    case rel=>exact ⟨k+1,by omega,by go_num,fun j hj hjk=>(Nat.lt_succ_iff_lt_or_eq.1 hjk).elim (fun h=>HA.o j hj h) (fun h=>by subst h; exact N.o),ya HG.o (GA.o _)⟩
    case measure=>simp [intOf]; omega
  ·go_wp2;go_ret;exact ⟨yg.no (fun hq=>by obtain ⟨i,hi,hh⟩:=HQ.o.1 hq; exact HA.o i hi (by omega) hh),ya GW.o HG.o⟩
theorem Ti (a b:Nat) (ha:a < 9223372036854775808) (hb:b < 9223372036854775808):bits .and .i64 (a:Int) (b:Int)=((a &&& b:Nat):Int):=by
 have hx:a &&& b < 2 ^ 63:=Nat.and_lt_two_pow _ (by omega);show IntKind.i64.wrap ((BitVec.ofInt 64 (a:Int) &&& BitVec.ofInt 64 (b:Int)).toNat:Int)=_;rw [BitVec.toNat_and,ofInt_u64 a (by omega),ofInt_u64 b (by omega)];exact IntWalk.i64_in _ ⟨by omega,by omega⟩
theorem Au (a b:Nat) (ha:a < 9223372036854775808) (hb:b < 9223372036854775808):bits .or .i64 (a:Int) (b:Int)=((a ||| b:Nat):Int):=by
 have hx:a ||| b < 2 ^ 63:=Nat.or_lt_two_pow (by omega) (by omega);show IntKind.i64.wrap ((BitVec.ofInt 64 (a:Int) ||| BitVec.ofInt 64 (b:Int)).toNat:Int)=_;rw [BitVec.toNat_or,ofInt_u64 a (by omega),ofInt_u64 b (by omega)];exact IntWalk.i64_in _ ⟨by omega,by omega⟩
theorem Ub (n:Int) (k:Nat) (hk:k<=40) (m:Int) (hm:m=(2:Int) ^ k - 1) (h0:0<=n) (h1:n<=4294967295):bits .and .i64 n m=n % (2:Int) ^ k:=by
 obtain ⟨a,rfl⟩:=Int.eq_ofNat_of_zero_le h0;have hp:0 < 2 ^ k:=Nat.two_pow_pos k;have hq:2 ^ k<=2 ^ 40:=Nat.pow_le_pow_right (by decide) hk;have e:m=((2 ^ k - 1:Nat):Int):=by
  rw [hm,Int.natCast_sub hp];simp
 rw [e,Ti a _ (by omega) (by omega),Nat.and_two_pow_sub_one_eq_mod];simp
theorem J6 (a b:Int) (ha:0<=a) (ha':a < 9223372036854775808) (hb:0<=b) (hb':b < 9223372036854775808):0<=bits .or .i64 a b/\(bits .or .i64 a b=0↔a=0/\b=0):=by
 obtain ⟨x,rfl⟩:=Int.eq_ofNat_of_zero_le ha;obtain ⟨y,rfl⟩:=Int.eq_ofNat_of_zero_le hb;rw [Au x y (by omega) (by omega)];refine ⟨by omega,?_⟩;constructor
 ·intro h;have h':x ||| y=0:=by omega
  have hx:x<=x ||| y:=Nat.left_le_or;have hy:y<=x ||| y:=Nat.right_le_or;omega
 ·rintro ⟨h1,h2⟩
  have:x=0:=by omega
  have:y=0:=by omega
  subst x y;simp
theorem Kj (a b:Int) (k:Nat) (hk:k<=60) (ha:0<=a) (ha':a < (2:Int) ^ k) (hb:0<=b) (hb':b < (2:Int) ^ k):bits .or .i64 a b < (2:Int) ^ k:=by
 obtain ⟨x,rfl⟩:=Int.eq_ofNat_of_zero_le ha;obtain ⟨y,rfl⟩:=Int.eq_ofNat_of_zero_le hb;have e:((2 ^ k:Nat):Int)=(2:Int) ^ k:=by simp
 rw [<- e] at ha' hb' ⊢;have hq:2 ^ k<=2 ^ 60:=Nat.pow_le_pow_right (by decide) hk
 have:=Nat.or_lt_two_pow (x:=x) (y:=y) (n:=k) (by omega) (by omega)
 rw [Au x y (by omega) (by omega)];omega
theorem JR (a b:Nat) (k:Nat):a &&& (b <<< k)=((a >>> k) &&& b) <<< k:=by
 apply Nat.eq_of_testBit_eq;intro i;simp only [Nat.testBit_and,Nat.testBit_shiftLeft,Nat.testBit_shiftRight];by_cases h:k<=i
 ·simp [h]
 ·simp [h]
theorem Uu (a b k:Nat) (h:a < 2 ^ k):a ||| (b <<< k)=a+b * 2 ^ k:=by
 rw [Nat.or_comm,<- Nat.shiftLeft_add_eq_or_of_lt h,Nat.shiftLeft_eq];omega
theorem zm (n:Int) (h0:0<=n) (h1:n<=4294967295):bits .and .i64 n 28799=n % 128+4096 * (n / 4096 % 8):=by
 obtain ⟨a,rfl⟩:=Int.eq_ofNat_of_zero_le h0;have e:(28799:Int)=((127 ||| (7 <<< 12):Nat):Int):=by decide
 rw [e,Ti a _ (by omega) (by decide),Nat.and_or_distrib_left,JR];have e1:a &&& 127=a % 128:=Nat.and_two_pow_sub_one_eq_mod a 7;have e2:(a >>> 12) &&& 7=a / 4096 % 8:=by rw [Nat.shiftRight_eq_div_pow]; exact Nat.and_two_pow_sub_one_eq_mod _ 3
 rw [e1,e2,Uu _ _ 12 (by omega)];omega
theorem Ki (n:Int) (h0:0<=n) (h1:n<=4294967295):bits .and .i64 n 4261441663=n % 128+4096 * (n / 4096 % 8)+33554432 * (n / 33554432):=by
 obtain ⟨a,rfl⟩:=Int.eq_ofNat_of_zero_le h0;have e:(4261441663:Int)=(((127 ||| (7 <<< 12)) ||| (127 <<< 25):Nat):Int):=by decide
 rw [e,Ti a _ (by omega) (by decide),Nat.and_or_distrib_left,Nat.and_or_distrib_left,JR,JR];have e1:a &&& 127=a % 128:=Nat.and_two_pow_sub_one_eq_mod a 7;have e2:(a >>> 12) &&& 7=a / 4096 % 8:=by rw [Nat.shiftRight_eq_div_pow]; exact Nat.and_two_pow_sub_one_eq_mod _ 3
 have e3:(a >>> 25) &&& 127=a / 33554432 % 128:=by rw [Nat.shiftRight_eq_div_pow]; exact Nat.and_two_pow_sub_one_eq_mod _ 7
 rw [e1,e2,e3,Uu _ _ 12 (by omega),Uu _ _ 25 (by omega)];omega
theorem UE (n:Int) (h0:0<=n) (h1:n<=4294967295):bits .and .i64 n 127=n % 128:=Ub n 7 (by decide) 127 rfl h0 h1
theorem yso (n:Int) (h0:0<=n) (h1:n<=4294967295):bits .and .i64 n 4294967295=n:=by
 rw [Ub n 32 (by decide) 4294967295 rfl h0 h1];simp only [Int.reducePow];omega
def Af (e:Ending) (P:Prop):Prop:=∃ v,e = .returned (.int .i64 v)/\(v=0↔P)
theorem Af.of {P:Prop} {v:Int} (h:v=0↔P):Af (.returned (.int .i64 v)) P:=⟨v,rfl,h⟩
def yk (form n:Int):Prop :=
 if form=1\/form=2 then n / 4096=0 else if form=3 then n / 1048576=0 else if form=4\/form=5 then n / 33554432=0/\n / 128 % 32=0 else True
theorem low (n:Int) (k:Nat) (hk:k<=32) (m d:Int) (hm:m=(2:Int) ^ k - 1) (hd:d=(2:Int) ^ k) (h0:0<=n) (h1:n<=4294967295):bits .and .i64 n m=n % d:=by
 rw [hd]; exact Ub n k (by omega) m hm h0 h1
theorem yqR (n:Int) (h0:0<=n) (h1:n<=4294967295):bits .and .i64 (n / 4096) 1048575=0↔yk 1 n:=by
 rw [low (n / 4096) 20 (by decide) 1048575 1048576 rfl rfl (by omega) (by omega)];unfold yk;rw [if_pos (.inl rfl)];omega
def t2 (n:Int):Int:=bits .or .i64 (bits .or .i64 (bits .or .i64 (wrap64 (bits .and .i64 (n / 2147483648) 1 * 1048576)) (wrap64 (bits .and .i64 (n / 4096) 255 * 4096))) (wrap64 (bits .and .i64 (n / 1048576) 1 * 2048))) (wrap64 (bits .and .i64 (n / 2097152) 1023 * 2))
theorem Zy (n:Int) (h0:0<=n) (h1:n<=4294967295):0<=t2 n/\t2 n < 2097152/\(t2 n=0↔yk 2 n):=by
 unfold t2;rw [low (n / 2147483648) 1 (by decide) 1 2 rfl rfl (by omega) (by omega),low (n / 4096) 8 (by decide) 255 256 rfl rfl (by omega) (by omega),low (n / 1048576) 1 (by decide) 1 2 rfl rfl (by omega) (by omega),low (n / 2097152) 10 (by decide) 1023 1024 rfl rfl (by omega) (by omega)];rw [IntWalk.wrap64_in (n / 2147483648 % 2 * 1048576) ⟨by omega,by omega⟩,IntWalk.wrap64_in (n / 4096 % 256 * 4096) ⟨by omega,by omega⟩,IntWalk.wrap64_in (n / 1048576 % 2 * 2048) ⟨by omega,by omega⟩,IntWalk.wrap64_in (n / 2097152 % 1024 * 2) ⟨by omega,by omega⟩];have a1:=J6 (n / 2147483648 % 2 * 1048576) (n / 4096 % 256 * 4096) (by omega) (by omega) (by omega) (by omega)
 have l1:=Kj (n / 2147483648 % 2 * 1048576) (n / 4096 % 256 * 4096) 21 (by decide) (by omega) (by simp only [Int.reducePow]; omega) (by omega) (by simp only [Int.reducePow]; omega);generalize bits .or .i64 (n / 2147483648 % 2 * 1048576) (n / 4096 % 256 * 4096)=x1 at *;simp only [Int.reducePow] at l1;have a2:=J6 x1 (n / 1048576 % 2 * 2048) (by omega) (by omega) (by omega) (by omega);have l2:=Kj x1 (n / 1048576 % 2 * 2048) 21 (by decide) (by omega) (by simp only [Int.reducePow]; omega) (by omega) (by simp only [Int.reducePow]; omega);generalize bits .or .i64 x1 (n / 1048576 % 2 * 2048)=x2 at *;simp only [Int.reducePow] at l2
 have a3:=J6 x2 (n / 2097152 % 1024 * 2) (by omega) (by omega) (by omega) (by omega);have l3:=Kj x2 (n / 2097152 % 1024 * 2) 21 (by decide) (by omega) (by simp only [Int.reducePow]; omega) (by omega) (by simp only [Int.reducePow]; omega);simp only [Int.reducePow] at l3;refine ⟨a3.1,l3,?_⟩;rw [a3.2,a2.2,a1.2];unfold yk;rw [if_pos (.inr rfl)];omega
def t3 (n:Int):Int:=bits .and .i64 (n / 1048576) 4095
theorem Zz (n:Int) (h0:0<=n) (h1:n<=4294967295):0<=t3 n/\t3 n < 4096/\(t3 n=0↔yk 3 n):=by
 unfold t3;rw [low (n / 1048576) 12 (by decide) 4095 4096 rfl rfl (by omega) (by omega)];unfold yk;rw [if_neg (by decide),if_pos rfl];omega
def t4 (n:Int):Int:=bits .or .i64 (bits .or .i64 (bits .or .i64 (wrap64 (bits .and .i64 (n / 2147483648) 1 * 4096)) (wrap64 (bits .and .i64 (n / 128) 1 * 2048))) (wrap64 (bits .and .i64 (n / 33554432) 63 * 32))) (wrap64 (bits .and .i64 (n / 256) 15 * 2))
theorem ZA (n:Int) (h0:0<=n) (h1:n<=4294967295):0<=t4 n/\t4 n < 8192/\(t4 n=0↔yk 4 n):=by
 unfold t4;rw [low (n / 2147483648) 1 (by decide) 1 2 rfl rfl (by omega) (by omega),low (n / 128) 1 (by decide) 1 2 rfl rfl (by omega) (by omega),low (n / 33554432) 6 (by decide) 63 64 rfl rfl (by omega) (by omega),low (n / 256) 4 (by decide) 15 16 rfl rfl (by omega) (by omega)];rw [IntWalk.wrap64_in (n / 2147483648 % 2 * 4096) ⟨by omega,by omega⟩,IntWalk.wrap64_in (n / 128 % 2 * 2048) ⟨by omega,by omega⟩,IntWalk.wrap64_in (n / 33554432 % 64 * 32) ⟨by omega,by omega⟩,IntWalk.wrap64_in (n / 256 % 16 * 2) ⟨by omega,by omega⟩];have a1:=J6 (n / 2147483648 % 2 * 4096) (n / 128 % 2 * 2048) (by omega) (by omega) (by omega) (by omega)
 have l1:=Kj (n / 2147483648 % 2 * 4096) (n / 128 % 2 * 2048) 13 (by decide) (by omega) (by simp only [Int.reducePow]; omega) (by omega) (by simp only [Int.reducePow]; omega);generalize bits .or .i64 (n / 2147483648 % 2 * 4096) (n / 128 % 2 * 2048)=x1 at *;simp only [Int.reducePow] at l1;have a2:=J6 x1 (n / 33554432 % 64 * 32) (by omega) (by omega) (by omega) (by omega);have l2:=Kj x1 (n / 33554432 % 64 * 32) 13 (by decide) (by omega) (by simp only [Int.reducePow]; omega) (by omega) (by simp only [Int.reducePow]; omega);generalize bits .or .i64 x1 (n / 33554432 % 64 * 32)=x2 at *;simp only [Int.reducePow] at l2
 have a3:=J6 x2 (n / 256 % 16 * 2) (by omega) (by omega) (by omega) (by omega);have l3:=Kj x2 (n / 256 % 16 * 2) 13 (by decide) (by omega) (by simp only [Int.reducePow]; omega) (by omega) (by simp only [Int.reducePow]; omega);simp only [Int.reducePow] at l3;refine ⟨a3.1,l3,?_⟩;rw [a3.2,a2.2,a1.2];unfold yk;rw [if_neg (by decide),if_neg (by decide),if_pos (.inl rfl)];omega
def t5 (n:Int):Int:=bits .or .i64 (wrap64 (bits .and .i64 (n / 33554432) 127 * 32)) (bits .and .i64 (n / 128) 31)
theorem yml (n:Int) (h0:0<=n) (h1:n<=4294967295):0<=t5 n/\t5 n < 4096/\(t5 n=0↔yk 5 n):=by
 unfold t5;rw [low (n / 33554432) 7 (by decide) 127 128 rfl rfl (by omega) (by omega),low (n / 128) 5 (by decide) 31 32 rfl rfl (by omega) (by omega)];rw [IntWalk.wrap64_in (n / 33554432 % 128 * 32) ⟨by omega,by omega⟩];have a1:=J6 (n / 33554432 % 128 * 32) (n / 128 % 32) (by omega) (by omega) (by omega) (by omega);have l1:=Kj (n / 33554432 % 128 * 32) (n / 128 % 32) 12 (by decide) (by omega) (by simp only [Int.reducePow]; omega) (by omega) (by simp only [Int.reducePow]; omega);simp only [Int.reducePow] at l1;refine ⟨a1.1,l1,?_⟩;rw [a1.2];unfold yk;rw [if_neg (by decide),if_neg (by decide),if_pos (.inr rfl)]
 omega
theorem O9 (t d:Int) (P:Prop) (_h0:0<=t) (h1:t < d) (hd:d<=4294967296) (h:t=0↔P) (hge:1<=t):wrap64 (t - d)=0↔P:=by
 rw [IntWalk.wrap64_in _ ⟨by omega,by omega⟩,<- h];omega
theorem yie (form n:Int) (w:World) (h0:0<=n) (h1:n<=4294967295) :
  Calls Tryz.prog 175 #[.int .i64 form,.int .i64 n] w fun e w'=>Af e (yk form n)/\w'=w:=by
 by_cases e1:form=1
 ·subst e1;go_enter Tryz.func175,Tryz.ntmps175;go_wp2;go_ret;exact ⟨Af.of (yqR n h0 h1),rfl⟩
 by_cases e2:form=2
 ·subst e2;have T:=hid (Zy n h0 h1);clear e1;go_enter Tryz.func175,Tryz.ntmps175;go_wp2
  ·go_ret;exact ⟨Af.of T.o.2.2,rfl⟩
  ·rename_i hx;go_ret;refine ⟨Af.of (O9 (t2 n) 2097152 _ T.o.1 T.o.2.1 (by decide) T.o.2.2 ?_),rfl⟩
   have:(1048576:Int)<=t2 n:=by assumption
   omega
 by_cases e3:form=3
 ·subst e3;have T:=hid (Zz n h0 h1);clear e1 e2;go_enter Tryz.func175,Tryz.ntmps175;go_wp2
  ·go_ret;exact ⟨Af.of T.o.2.2,rfl⟩
  ·go_ret;refine ⟨Af.of (O9 (t3 n) 4096 _ T.o.1 T.o.2.1 (by decide) T.o.2.2 ?_),rfl⟩
   have:(2048:Int)<=t3 n:=by assumption
   omega
 by_cases e4:form=4
 ·subst e4;have T:=hid (ZA n h0 h1);clear e1 e2 e3;go_enter Tryz.func175,Tryz.ntmps175;go_wp2
  ·go_ret;exact ⟨Af.of T.o.2.2,rfl⟩
  ·go_ret;refine ⟨Af.of (O9 (t4 n) 8192 _ T.o.1 T.o.2.1 (by decide) T.o.2.2 ?_),rfl⟩
   have:(4096:Int)<=t4 n:=by assumption
   omega
 by_cases e5:form=5
 ·subst e5;have T:=hid (yml n h0 h1);clear e1 e2 e3 e4;go_enter Tryz.func175,Tryz.ntmps175;go_wp2
  ·go_ret;exact ⟨Af.of T.o.2.2,rfl⟩
  ·go_ret;refine ⟨Af.of (O9 (t5 n) 4096 _ T.o.1 T.o.2.1 (by decide) T.o.2.2 ?_),rfl⟩
   have:(2048:Int)<=t5 n:=by assumption
   omega
 have T:=hid (show yk form n from by unfold yk; rw [if_neg (by omega),if_neg e3,if_neg (by omega)]; trivial);have d1:(form == 1)=false:=beq_eq_false_iff_ne.2 e1;have d2:(form == 2)=false:=beq_eq_false_iff_ne.2 e2;have d3:(form == 3)=false:=beq_eq_false_iff_ne.2 e3;have d4:(form == 4)=false:=beq_eq_false_iff_ne.2 e4;have d5:(form == 5)=false:=beq_eq_false_iff_ne.2 e5;clear e1 e2 e3 e4 e5;go_enter Tryz.func175,Tryz.ntmps175;go_wp2;go_ret;exact ⟨Af.of ⟨fun _=>T.o,fun _=>rfl⟩,rfl⟩
def gB (form n:Int):Int:=if form=1\/form=2\/form=3\/form=6 then bits .and .i64 (n / 128) 31 else 0
def bL (form n:Int):Int:=if form=3\/form=4\/form=5\/form=6 then bits .and .i64 (n / 32768) 31 else 0
def jG (form n:Int):Int:=if form=4\/form=5\/form=6 then bits .and .i64 (n / 1048576) 31 else 0
def bC (op rd au aF m:Int):Value:=.agg #[.int .i64 op,.int .i64 rd,.int .i64 au,.int .i64 aF,.int .i64 m]
def ZN (e:Ending) (op form n:Int):Prop:=∃ m,e = .returned (bC op (gB form n) (bL form n) (jG form n) m)/\(m=0↔yk form n)
theorem ymv (op form n:Int) (w:World) (h0:0<=n) (h1:n<=4294967295) (hf:1<=form/\form<=7) :
  Calls Tryz.prog 117 #[.int .i64 op,.int .i64 form,.int .i64 n] w fun e w'=>ZN e op form n/\w.grownBy w' none:=by
 have cT:=hid (fun W=>yie form n W h0 h1);have G1:=hid (fun o:Obj=>aJ w o none);have G2:=hid (fun o o':Obj=>aJ (w.alloc o) o' none);have Z:Hd (∀ m,(m=0↔yk form n)->∀ e,e=Ending.returned (bC op (gB form n) (bL form n) (jG form n) m)->ZN e op form n):=fun m hm e he=>⟨m,he,hm⟩
 have S:=hid (show ∀ (W:World) (a b:Nat) (cs zs:Array Value),True from fun _ _ _ _ _=>trivial);rcases (show form=1\/form=2\/form=3\/form=4\/form=5\/form=6\/form=7 from by omega) with rfl | rfl | rfl | rfl | rfl | rfl | rfl
 all_goals
  clear hf S;go_enter Tryz.func117,Tryz.ntmps117;go_wp2_with fail;refine (cT.o _).mono ?_;rintro e w1 ⟨⟨m,rfl,hm⟩,rfl⟩;have HM:=hid hm;clear hm cT;go_wp2;refine bodyPost_ret (v:=bC op (gB _ n) (bL _ n) (jG _ n) m) ?_ rfl ⟨⟨m,rfl,HM.o⟩,ya (G1.o _) (G2.o _ _)⟩;simp [results,Tryz.results117,go_sem,bC,gB,bL,jG]
def uK:List Int:=[0,1,1,2,3,4,4,4,4,4,4,3,5,3,3,3,3,3,6,6,6,6,6,6,6,7]
def Ed:List Int:=[0,55,23,111,103,99,4195,16483,20579,24675,28771,8195,8227,19,8211,16403,24595,28691,51,1073741875,8243,12339,16435,24627,28723,115]
structure dQ (w:World):Prop where
 form:∀ i,i < 26->w.cell? ⟨0,i,none⟩=some (.int .i64 (uK.getD i 0))
 fix:∀ i,i < 26->w.cell? ⟨1,i,none⟩=some (.int .i64 (Ed.getD i 0))
theorem dQ.grown {w w':World} (h:dQ w) (hg:w.grownBy w' none):dQ w':=⟨fun i hi=>yd (h.form i hi) hg,fun i hi=>yd (h.fix i hi) hg⟩
theorem dQ.sV {w w':World} (h:dQ w) {b:Nat} (hg:w.grownBy w' (some b)) (hb:3<=b):dQ w' :=
 ⟨fun i hi=>hg.cell (h.form i hi) (by simp; omega),fun i hi=>hg.cell (h.fix i hi) (by simp; omega)⟩
def Gw (form:Int):Int:=if form=1\/form=2 then 127 else if form=3\/form=4\/form=5 then 28799 else if form=6 then 4261441663 else 4294967295
theorem Xy (form:Int) (w:World) (hf:1<=form/\form<=7) :
  Calls Tryz.prog 116 #[.int .i64 form] w fun e w'=>e = .returned (.int .i64 (Gw form))/\w'=w:=by
 rcases (show form=1\/form=2\/form=3\/form=4\/form=5\/form=6\/form=7 from by omega) with rfl | rfl | rfl | rfl | rfl | rfl | rfl
 all_goals
  clear hf;go_enter Tryz.func116,Tryz.ntmps116;go_wp2;go_ret;exact ⟨by simp [Gw],rfl⟩
def Is (k:Nat) (n:Int):Prop:=bits .and .i64 n (Gw (uK.getD k 0))=Ed.getD k 0
def Dec (n op rd au m:Int):Prop :=
 (op=0/\rd=0/\au=0/\m=0/\∀ k,1<=k->k<=25->¬ Is k n) \/
 ∃ k:Nat,1<=k/\k<=25/\Is k n/\(∀ j,1<=j->j < k->¬ Is j n)/\op=k/\rd=gB (uK.getD k 0) n/\au=bL (uK.getD k 0) n/\(m=0↔yk (uK.getD k 0) n)
def yqZ (e:Ending) (n:Int):Prop:=∃ op rd au aF m,e = .returned (bC op rd au aF m)/\Dec n op rd au m
theorem Td (k:Nat) (h1:1<=k) (h2:k<=25):1<=uK.getD k 0/\uK.getD k 0<=7:=by
 have:∀ k,k < 26->1<=k->1<=uK.getD k 0/\uK.getD k 0<=7:=by decide
 exact this k (by omega) h1
theorem Np {w W:World} (h:w.grownBy W none) {b:Nat} (hb:w.heap.size<=b) (o:Nat) (v:Value):w.grownBy (W.setCell ⟨b,o,none⟩ v) none :=
 ⟨h.os,h.tape,h.output,by simpa [World.setCell] using h.size,fun i hi _=>(Below.heap_setCell W ⟨b,o,none⟩ v i (by simp; omega)).trans (h.block i hi (by simp))⟩
theorem F6 {w W:World} {a0 a1 a2 a3 a4:Value} (h:w.grownBy W none) (hB:yc W w.heap.size #[a0,a1,a2,a3,a4] 143) (b0 b1 b2 b3 b4:Value) :
  yc (((((W.setCell ⟨w.heap.size,0,none⟩ b0).setCell ⟨w.heap.size,1,none⟩ b1).setCell ⟨w.heap.size,2,none⟩ b2).setCell ⟨w.heap.size,3,none⟩ b3).setCell ⟨w.heap.size,4,none⟩ b4) w.heap.size #[b0,b1,b2,b3,b4] 143 /\
  w.grownBy (((((W.setCell ⟨w.heap.size,0,none⟩ b0).setCell ⟨w.heap.size,1,none⟩ b1).setCell ⟨w.heap.size,2,none⟩ b2).setCell ⟨w.heap.size,3,none⟩ b3).setCell ⟨w.heap.size,4,none⟩ b4) none :=
 ⟨((((hB.set 0 b0).set 1 b1).set 2 b2).set 3 b3).set 4 b4,Np (Np (Np (Np (Np h (Nat.le_refl _) _ _) (Nat.le_refl _) _ _) (Nat.le_refl _) _ _) (Nat.le_refl _) _ _) (Nat.le_refl _) _ _⟩
theorem SV (n:Int) (w:World) (ht:dQ w) (h0:0<=n) (h1:n<=4294967295) :
  Calls Tryz.prog 82 #[.int .i64 n] w fun e w'=>yqZ e n/\w.grownBy w' none:=by
 have HT:=hid ht;clear ht;have G:=hid (fun o:Obj=>aJ w o none);go_enter Tryz.func82,Tryz.ntmps82;go_wp2
 go_loopw [3] (fun i wr=>∃ k:Nat,1<=k/\k<=26/\i = .int .i64 k/\(∀ j,1<=j->j < k->¬ Is j n)/\w.grownBy wr none/\yc wr w.heap.size #[.int .i64 0,.int .i64 0,.int .i64 0,.int .i64 0,.int .i64 0] 143) (fun i _=>26 - (intOf i).toNat)
 case atStart=>exact ⟨1,Nat.le_refl _,by omega,rfl,fun j h1 h2=>by omega,G.o _,yc.new _ _ _⟩
 case round =>
  obtain ⟨k,hk1,hk2,rfl,hall,hgr,hbk⟩:=hrel;have HA:=hid hall;have HG:=hid hgr;have HB:=hid hbk;clear hall hgr hbk;by_cases hlt:k<=25
  ·have T:=HT.o.grown HG.o;have cf:=T.form k (by omega);have cx:=T.fix k (by omega);have hfr:=Td k hk1 hlt;clear T;have LM:=hid (show Is k n↔bits .and .i64 n (Gw (uK.getD k 0))=Ed.getD k 0 from Iff.rfl);generalize hF:uK.getD k 0=f at *;generalize Ed.getD k 0=x at *;have HF:=hid hF;clear hF;have cM:=hid (fun W=>Xy f W hfr);have g1:(1:Int)<=(k:Int):=by omega
   have g2:(k:Int)<=25:=by omega
   by_cases hI:Is k n
   ·have d:(bits .and .i64 n (Gw f) == x)=true:=beq_iff_eq.2 (LM.o.1 hI);have HI:=hid hI;have cF:=hid (fun W=>ymv k f n W h0 h1 hfr);clear hI;go_wp2
    go_quiet ((go_at_call 116; exact Calls.quiet_of_same (cM.o _)))
    go_wp2_with fail;refine (cF.o _).mono ?_;rintro e w2 ⟨⟨m,rfl,hm⟩,hq⟩;unfold bC;have B2:=hid ((HB.o.drewN nq).grown hq (by simp));have G2:=hid (ya (yf HG.o nq) hq);have HM:=hid hm;have k0:=B2.o.cell 0;have k1:=B2.o.cell 1;have k2:=B2.o.cell 2;have k3:=B2.o.cell 3;have k4:=B2.o.cell 4;have f0:=B2.o.free 0;have f1:=B2.o.free 1;have f2:=B2.o.free 2;have f3:=B2.o.free 3;have f4:=B2.o.free 4;clear hm hq;generalize hrd:gB f n=rd at *;generalize hr1:bL f n=r1 at *;have Er:=hid hrd;have HR1:=hid hr1;clear hrd hr1;generalize jG f n=r2 at *;go_wp2;have F:=F6 G2.o B2.o (.int .i64 k) (.int .i64 rd) (.int .i64 r1) (.int .i64 r2) (.int .i64 m)
    have e0:=F.1.cell 0;have e1:=F.1.cell 1;have e2:=F.1.cell 2;have e3:=F.1.cell 3;have e4:=F.1.cell 4;refine bodyPost_ret (v:=bC k rd r1 r2 m) ?_ rfl ⟨⟨k,rd,r1,r2,m,rfl,.inr ⟨k,hk1,hlt,HI.o,HA.o,rfl,?_,?_,?_⟩⟩,F.2⟩
    ·clear F k0 k1 k2 k3 k4 f0 f1 f2 f3 f4 B2 G2;generalize World.setCell _ _ _=WF at *;simp [results,Tryz.results82,go_sem,bC,e0,e1,e2,e3,e4]
    ·rw [HF.o,Er.o]
    ·rw [HF.o,HR1.o]
    ·rw [HF.o]; exact HM.o
   ·have d:(bits .and .i64 n (Gw f) == x)=false:=beq_eq_false_iff_ne.2 (fun h=>hI (LM.o.2 h));have HI:=hid hI;clear hI;go_wp2
    go_quiet ((go_at_call 116; exact Calls.quiet_of_same (cM.o _)))
    go_wp2
    go_roundw
    case rel=>exact ⟨k+1,by omega,by omega,by go_num,fun j hj hjk=>(Nat.lt_succ_iff_lt_or_eq.1 hjk).elim (fun h=>HA.o j hj h) (fun h=>by subst h; exact HI.o),yf HG.o _,HB.o.drewN _⟩
    case measure=>simp [intOf]; omega
  ·have k0:=HB.o.cell 0;have k1:=HB.o.cell 1;have k2:=HB.o.cell 2;have k3:=HB.o.cell 3;have k4:=HB.o.cell 4;have f0:=HB.o.free 0;have f1:=HB.o.free 1;have f2:=HB.o.free 2;have f3:=HB.o.free 3;have f4:=HB.o.free 4;go_wp2;have F:=F6 HG.o HB.o (.int .i64 0) (.int .i64 0) (.int .i64 0) (.int .i64 0) (.int .i64 0);have e0:=F.1.cell 0;have e1:=F.1.cell 1;have e2:=F.1.cell 2;have e3:=F.1.cell 3;have e4:=F.1.cell 4;refine bodyPost_ret (v:=bC 0 0 0 0 0) ?_ rfl ⟨⟨0,0,0,0,0,rfl,.inl ⟨rfl,rfl,rfl,rfl,fun j h1 h2=>HA.o j h1 (by omega)⟩⟩,F.2⟩;clear F k0 k1 k2 k3 k4 f0 f1 f2 f3 f4;generalize World.setCell _ _ _=WF at *
   simp [results,Tryz.results82,go_sem,bC,e0,e1,e2,e3,e4]
end Go.Proofs.YtpgklkhgfcjceaaGreatDoor
