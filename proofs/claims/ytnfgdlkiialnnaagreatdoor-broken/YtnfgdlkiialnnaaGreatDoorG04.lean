/- Walks over package instr: the number of a word. -/
/- Walks over package instr: the parts of a word; Decode. -/
/- Walks over package instr: Decode. -/
/- Walks over package instr: what Decode gives, exactly. -/
/- Walks over package instr: Decode, exactly. -/
/- Walks over the document's answer: numbers of a file. -/
/- Images, as functions of their bytes. -/
/- Walks over package object's readers: readObject of other bytes; NewReader. -/
/- Walks over package image: reading. -/
/- Walks over package image: checks, words at addresses. -/
/- Walks over package image: the word of code at an address. -/
/- The machine, as functions; the machine in memory. -/
import Derived.Test.YtnfgdlkiialnnaaGreatDoorG03
import Derived.Test.YtnfgdlkiialnnaaGreatDoorG01
import Derived.Test.YtnfgdlkiialnnaaGreatDoorG02
import Derived.Maps.AppendAt
namespace Go.Proofs.YtnfgdlkiialnnaaGreatDoor
open Go.RowKit

/-- it returned a number that is 0 just if P -/
def TellsN (e:Ending) (P:Prop):Prop:=∃ v,e = .returned (.int .i64 v)∧(v=0↔P)
theorem TellsN.of {P:Prop} {v:Int} (h:v=0↔P):TellsN (.returned (.int .i64 v)) P:=⟨v,rfl,h⟩

/-- the number in a word of this form is 0 -/
def NumZero (form n:Int):Prop :=
 if form=1∨form=2 then n / 4096=0 else if form=3 then n / 1048576=0 else if form=4∨form=5 then n / 33554432=0∧n / 128 % 32=0 else True

theorem low (n:Int) (k:Nat) (hk:k≤32) (m d:Int) (hm:m=(2:Int) ^ k - 1) (hd:d=(2:Int) ^ k) (h0:0≤n) (h1:n≤4294967295):bits .and .i64 n m=n % d:=by
 rw [hd]; exact and_low n k (by omega) m hm h0 h1

theorem t1_spec (n:Int) (h0:0≤n) (h1:n≤4294967295):bits .and .i64 (n / 4096) 1048575=0↔NumZero 1 n:=by
 rw [low (n / 4096) 20 (by decide) 1048575 1048576 rfl rfl (by omega) (by omega)]
 unfold NumZero
 rw [if_pos (.inl rfl)]
 omega

def t2 (n:Int):Int:=bits .or .i64 (bits .or .i64 (bits .or .i64 (wrap64 (bits .and .i64 (n / 2147483648) 1 * 1048576)) (wrap64 (bits .and .i64 (n / 4096) 255 * 4096))) (wrap64 (bits .and .i64 (n / 1048576) 1 * 2048))) (wrap64 (bits .and .i64 (n / 2097152) 1023 * 2))
theorem t2_spec (n:Int) (h0:0≤n) (h1:n≤4294967295):0≤t2 n∧t2 n < 2097152∧(t2 n=0↔NumZero 2 n):=by
 unfold t2
 rw [low (n / 2147483648) 1 (by decide) 1 2 rfl rfl (by omega) (by omega),low (n / 4096) 8 (by decide) 255 256 rfl rfl (by omega) (by omega),low (n / 1048576) 1 (by decide) 1 2 rfl rfl (by omega) (by omega),low (n / 2097152) 10 (by decide) 1023 1024 rfl rfl (by omega) (by omega)]
 rw [IntWalk.wrap64_in (n / 2147483648 % 2 * 1048576) ⟨by omega,by omega⟩,IntWalk.wrap64_in (n / 4096 % 256 * 4096) ⟨by omega,by omega⟩,IntWalk.wrap64_in (n / 1048576 % 2 * 2048) ⟨by omega,by omega⟩,IntWalk.wrap64_in (n / 2097152 % 1024 * 2) ⟨by omega,by omega⟩]
 have a1:=or_zero (n / 2147483648 % 2 * 1048576) (n / 4096 % 256 * 4096) (by omega) (by omega) (by omega) (by omega)
 have l1:=or_lt (n / 2147483648 % 2 * 1048576) (n / 4096 % 256 * 4096) 21 (by decide) (by omega) (by simp only [Int.reducePow]; omega) (by omega) (by simp only [Int.reducePow]; omega)
 generalize bits .or .i64 (n / 2147483648 % 2 * 1048576) (n / 4096 % 256 * 4096)=x1 at *
 simp only [Int.reducePow] at l1
 have a2:=or_zero x1 (n / 1048576 % 2 * 2048) (by omega) (by omega) (by omega) (by omega)
 have l2:=or_lt x1 (n / 1048576 % 2 * 2048) 21 (by decide) (by omega) (by simp only [Int.reducePow]; omega) (by omega) (by simp only [Int.reducePow]; omega)
 generalize bits .or .i64 x1 (n / 1048576 % 2 * 2048)=x2 at *
 simp only [Int.reducePow] at l2
 have a3:=or_zero x2 (n / 2097152 % 1024 * 2) (by omega) (by omega) (by omega) (by omega)
 have l3:=or_lt x2 (n / 2097152 % 1024 * 2) 21 (by decide) (by omega) (by simp only [Int.reducePow]; omega) (by omega) (by simp only [Int.reducePow]; omega)
 simp only [Int.reducePow] at l3
 refine ⟨a3.1,l3,?_⟩
 rw [a3.2,a2.2,a1.2]
 unfold NumZero
 rw [if_pos (.inr rfl)]
 omega

def t3 (n:Int):Int:=bits .and .i64 (n / 1048576) 4095
theorem t3_spec (n:Int) (h0:0≤n) (h1:n≤4294967295):0≤t3 n∧t3 n < 4096∧(t3 n=0↔NumZero 3 n):=by
 unfold t3
 rw [low (n / 1048576) 12 (by decide) 4095 4096 rfl rfl (by omega) (by omega)]
 unfold NumZero
 rw [if_neg (by decide),if_pos rfl]
 omega

def t4 (n:Int):Int:=bits .or .i64 (bits .or .i64 (bits .or .i64 (wrap64 (bits .and .i64 (n / 2147483648) 1 * 4096)) (wrap64 (bits .and .i64 (n / 128) 1 * 2048))) (wrap64 (bits .and .i64 (n / 33554432) 63 * 32))) (wrap64 (bits .and .i64 (n / 256) 15 * 2))
theorem t4_spec (n:Int) (h0:0≤n) (h1:n≤4294967295):0≤t4 n∧t4 n < 8192∧(t4 n=0↔NumZero 4 n):=by
 unfold t4
 rw [low (n / 2147483648) 1 (by decide) 1 2 rfl rfl (by omega) (by omega),low (n / 128) 1 (by decide) 1 2 rfl rfl (by omega) (by omega),low (n / 33554432) 6 (by decide) 63 64 rfl rfl (by omega) (by omega),low (n / 256) 4 (by decide) 15 16 rfl rfl (by omega) (by omega)]
 rw [IntWalk.wrap64_in (n / 2147483648 % 2 * 4096) ⟨by omega,by omega⟩,IntWalk.wrap64_in (n / 128 % 2 * 2048) ⟨by omega,by omega⟩,IntWalk.wrap64_in (n / 33554432 % 64 * 32) ⟨by omega,by omega⟩,IntWalk.wrap64_in (n / 256 % 16 * 2) ⟨by omega,by omega⟩]
 have a1:=or_zero (n / 2147483648 % 2 * 4096) (n / 128 % 2 * 2048) (by omega) (by omega) (by omega) (by omega)
 have l1:=or_lt (n / 2147483648 % 2 * 4096) (n / 128 % 2 * 2048) 13 (by decide) (by omega) (by simp only [Int.reducePow]; omega) (by omega) (by simp only [Int.reducePow]; omega)
 generalize bits .or .i64 (n / 2147483648 % 2 * 4096) (n / 128 % 2 * 2048)=x1 at *
 simp only [Int.reducePow] at l1
 have a2:=or_zero x1 (n / 33554432 % 64 * 32) (by omega) (by omega) (by omega) (by omega)
 have l2:=or_lt x1 (n / 33554432 % 64 * 32) 13 (by decide) (by omega) (by simp only [Int.reducePow]; omega) (by omega) (by simp only [Int.reducePow]; omega)
 generalize bits .or .i64 x1 (n / 33554432 % 64 * 32)=x2 at *
 simp only [Int.reducePow] at l2
 have a3:=or_zero x2 (n / 256 % 16 * 2) (by omega) (by omega) (by omega) (by omega)
 have l3:=or_lt x2 (n / 256 % 16 * 2) 13 (by decide) (by omega) (by simp only [Int.reducePow]; omega) (by omega) (by simp only [Int.reducePow]; omega)
 simp only [Int.reducePow] at l3
 refine ⟨a3.1,l3,?_⟩
 rw [a3.2,a2.2,a1.2]
 unfold NumZero
 rw [if_neg (by decide),if_neg (by decide),if_pos (.inl rfl)]
 omega

def t5 (n:Int):Int:=bits .or .i64 (wrap64 (bits .and .i64 (n / 33554432) 127 * 32)) (bits .and .i64 (n / 128) 31)
theorem t5_spec (n:Int) (h0:0≤n) (h1:n≤4294967295):0≤t5 n∧t5 n < 4096∧(t5 n=0↔NumZero 5 n):=by
 unfold t5
 rw [low (n / 33554432) 7 (by decide) 127 128 rfl rfl (by omega) (by omega),low (n / 128) 5 (by decide) 31 32 rfl rfl (by omega) (by omega)]
 rw [IntWalk.wrap64_in (n / 33554432 % 128 * 32) ⟨by omega,by omega⟩]
 have a1:=or_zero (n / 33554432 % 128 * 32) (n / 128 % 32) (by omega) (by omega) (by omega) (by omega)
 have l1:=or_lt (n / 33554432 % 128 * 32) (n / 128 % 32) 12 (by decide) (by omega) (by simp only [Int.reducePow]; omega) (by omega) (by simp only [Int.reducePow]; omega)
 simp only [Int.reducePow] at l1
 refine ⟨a1.1,l1,?_⟩
 rw [a1.2]
 unfold NumZero
 rw [if_neg (by decide),if_neg (by decide),if_pos (.inr rfl)]
 omega

theorem minus_zero (t d:Int) (P:Prop) (_h0:0≤t) (h1:t < d) (hd:d≤4294967296) (h:t=0↔P) (hge:1≤t):wrap64 (t - d)=0↔P:=by
 rw [IntWalk.wrap64_in _ ⟨by omega,by omega⟩,← h]
 omega

set_option maxHeartbeats 1000000 in
theorem takeNumber_any (form n:Int) (w:World) (h0:0≤n) (h1:n≤4294967295) :
  Calls Tryz.prog 180 #[.int .i64 form,.int .i64 n] w fun e w'=>TellsN e (NumZero form n)∧w'=w:=by
 by_cases e1:form=1
 ·subst e1
  go_enter Tryz.func180,Tryz.ntmps180
  go_wp2
  go_ret
  exact ⟨TellsN.of (t1_spec n h0 h1),rfl⟩
 by_cases e2:form=2
 ·subst e2
  have T:=hid (t2_spec n h0 h1)
  clear e1
  go_enter Tryz.func180,Tryz.ntmps180
  go_wp2
  ·go_ret
   exact ⟨TellsN.of T.out.2.2,rfl⟩
  ·rename_i hx
   go_ret
   refine ⟨TellsN.of (minus_zero (t2 n) 2097152 _ T.out.1 T.out.2.1 (by decide) T.out.2.2 ?_),rfl⟩
   have:(1048576:Int)≤t2 n:=by assumption
   omega
 by_cases e3:form=3
 ·subst e3
  have T:=hid (t3_spec n h0 h1)
  clear e1 e2
  go_enter Tryz.func180,Tryz.ntmps180
  go_wp2
  ·go_ret
   exact ⟨TellsN.of T.out.2.2,rfl⟩
  ·go_ret
   refine ⟨TellsN.of (minus_zero (t3 n) 4096 _ T.out.1 T.out.2.1 (by decide) T.out.2.2 ?_),rfl⟩
   have:(2048:Int)≤t3 n:=by assumption
   omega
 by_cases e4:form=4
 ·subst e4
  have T:=hid (t4_spec n h0 h1)
  clear e1 e2 e3
  go_enter Tryz.func180,Tryz.ntmps180
  go_wp2
  ·go_ret
   exact ⟨TellsN.of T.out.2.2,rfl⟩
  ·go_ret
   refine ⟨TellsN.of (minus_zero (t4 n) 8192 _ T.out.1 T.out.2.1 (by decide) T.out.2.2 ?_),rfl⟩
   have:(4096:Int)≤t4 n:=by assumption
   omega
 by_cases e5:form=5
 ·subst e5
  have T:=hid (t5_spec n h0 h1)
  clear e1 e2 e3 e4
  go_enter Tryz.func180,Tryz.ntmps180
  go_wp2
  ·go_ret
   exact ⟨TellsN.of T.out.2.2,rfl⟩
  ·go_ret
   refine ⟨TellsN.of (minus_zero (t5 n) 4096 _ T.out.1 T.out.2.1 (by decide) T.out.2.2 ?_),rfl⟩
   have:(2048:Int)≤t5 n:=by assumption
   omega
 have T:=hid (show NumZero form n from by unfold NumZero; rw [if_neg (by omega),if_neg e3,if_neg (by omega)]; trivial)
 have d1:(form == 1)=false:=beq_eq_false_iff_ne.2 e1
 have d2:(form == 2)=false:=beq_eq_false_iff_ne.2 e2
 have d3:(form == 3)=false:=beq_eq_false_iff_ne.2 e3
 have d4:(form == 4)=false:=beq_eq_false_iff_ne.2 e4
 have d5:(form == 5)=false:=beq_eq_false_iff_ne.2 e5
 clear e1 e2 e3 e4 e5
 go_enter Tryz.func180,Tryz.ntmps180
 go_wp2
 go_ret
 exact ⟨TellsN.of ⟨fun _=>T.out,fun _=>rfl⟩,rfl⟩

end Go.Proofs.YtnfgdlkiialnnaaGreatDoor

namespace Go.Proofs.YtnfgdlkiialnnaaGreatDoor
open Go.RowKit

def rdF (form n:Int):Int:=if form=1∨form=2∨form=3∨form=6 then bits .and .i64 (n / 128) 31 else 0
def rs1F (form n:Int):Int:=if form=3∨form=4∨form=5∨form=6 then bits .and .i64 (n / 32768) 31 else 0
def rs2F (form n:Int):Int:=if form=4∨form=5∨form=6 then bits .and .i64 (n / 1048576) 31 else 0

def insV (op rd rs1 rs2 m:Int):Value:=.agg #[.int .i64 op,.int .i64 rd,.int .i64 rs1,.int .i64 rs2,.int .i64 m]
def TellsF (e:Ending) (op form n:Int):Prop:=∃ m,e = .returned (insV op (rdF form n) (rs1F form n) (rs2F form n) m)∧(m=0↔NumZero form n)

set_option maxHeartbeats 2000000 in
theorem fields_any (op form n:Int) (w:World) (h0:0≤n) (h1:n≤4294967295) (hf:1≤form∧form≤7) :
  Calls Tryz.prog 122 #[.int .i64 op,.int .i64 form,.int .i64 n] w fun e w'=>TellsF e op form n∧w.grownBy w' none:=by
 have cT:=hid (fun W=>takeNumber_any form n W h0 h1)
 have G1:=hid (fun o:Obj=>World.grownBy_alloc w o none)
 have G2:=hid (fun o o':Obj=>World.grownBy_alloc (w.alloc o) o' none)
 have Z:Hid (∀ m,(m=0↔NumZero form n)→∀ e,e=Ending.returned (insV op (rdF form n) (rs1F form n) (rs2F form n) m)→TellsF e op form n):=fun m hm e he=>⟨m,he,hm⟩
 have S:=hid (show ∀ (W:World) (a b:Nat) (cs zs:Array Value),True from fun _ _ _ _ _=>trivial)
 rcases (show form=1∨form=2∨form=3∨form=4∨form=5∨form=6∨form=7 from by omega) with rfl | rfl | rfl | rfl | rfl | rfl | rfl
 all_goals
  clear hf S
  go_enter Tryz.func122,Tryz.ntmps122
  go_wp2_with fail
  refine (cT.out _).mono ?_
  rintro e w1 ⟨⟨m,rfl,hm⟩,rfl⟩
  have HM:=hid hm
  clear hm cT
  go_wp2
  refine bodyPost_ret (v:=insV op (rdF _ n) (rs1F _ n) (rs2F _ n) m) ?_ rfl ⟨⟨m,rfl,HM.out⟩,grown_trans (G1.out _) (G2.out _ _)⟩
  simp [results,Tryz.results122,go_sem,insV,rdF,rs1F,rs2F]

/-- the tables of package instr lie where they were laid -/
def formL:List Int:=[0,1,1,2,3,4,4,4,4,4,4,3,5,3,3,3,3,3,6,6,6,6,6,6,6,7]
def fixedL:List Int:=[0,55,23,111,103,99,4195,16483,20579,24675,28771,8195,8227,19,8211,16403,24595,28691,51,1073741875,8243,12339,16435,24627,28723,115]
structure Tabs (w:World):Prop where
 form:∀ i,i < 26→w.cell? ⟨0,i,none⟩=some (.int .i64 (formL.getD i 0))
 fix:∀ i,i < 26→w.cell? ⟨1,i,none⟩=some (.int .i64 (fixedL.getD i 0))
theorem Tabs.grown {w w':World} (h:Tabs w) (hg:w.grownBy w' none):Tabs w':=⟨fun i hi=>gcell (h.form i hi) hg,fun i hi=>gcell (h.fix i hi) hg⟩
theorem Tabs.grownAt {w w':World} (h:Tabs w) {b:Nat} (hg:w.grownBy w' (some b)) (hb:3≤b):Tabs w' :=
 ⟨fun i hi=>hg.cell (h.form i hi) (by simp; omega),fun i hi=>hg.cell (h.fix i hi) (by simp; omega)⟩

def maskF (form:Int):Int:=if form=1∨form=2 then 127 else if form=3∨form=4∨form=5 then 28799 else if form=6 then 4261441663 else 4294967295

set_option maxHeartbeats 1000000 in
theorem fixedMask_any (form:Int) (w:World) (hf:1≤form∧form≤7) :
  Calls Tryz.prog 121 #[.int .i64 form] w fun e w'=>e = .returned (.int .i64 (maskF form))∧w'=w:=by
 rcases (show form=1∨form=2∨form=3∨form=4∨form=5∨form=6∨form=7 from by omega) with rfl | rfl | rfl | rfl | rfl | rfl | rfl
 all_goals
  clear hf
  go_enter Tryz.func121,Tryz.ntmps121
  go_wp2
  go_ret
  exact ⟨by simp [maskF],rfl⟩

/-- the word is of instruction k -/
def Is (k:Nat) (n:Int):Prop:=bits .and .i64 n (maskF (formL.getD k 0))=fixedL.getD k 0

/-- what Decode gives -/
def Dec (n op rd rs1 m:Int):Prop :=
 (op=0∧rd=0∧rs1=0∧m=0∧∀ k,1≤k→k≤25→¬ Is k n) ∨
 ∃ k:Nat,1≤k∧k≤25∧Is k n∧(∀ j,1≤j→j < k→¬ Is j n)∧op=k∧rd=rdF (formL.getD k 0) n∧rs1=rs1F (formL.getD k 0) n∧(m=0↔NumZero (formL.getD k 0) n)
def TellsD (e:Ending) (n:Int):Prop:=∃ op rd rs1 rs2 m,e = .returned (insV op rd rs1 rs2 m)∧Dec n op rd rs1 m

theorem form_range (k:Nat) (h1:1≤k) (h2:k≤25):1≤formL.getD k 0∧formL.getD k 0≤7:=by
 have:∀ k,k < 26→1≤k→1≤formL.getD k 0∧formL.getD k 0≤7:=by decide
 exact this k (by omega) h1

end Go.Proofs.YtnfgdlkiialnnaaGreatDoor

namespace Go.Proofs.YtnfgdlkiialnnaaGreatDoor
open Go.RowKit

theorem grown_new {w W:World} (h:w.grownBy W none) {b:Nat} (hb:w.heap.size≤b) (o:Nat) (v:Value):w.grownBy (W.setCell ⟨b,o,none⟩ v) none :=
 ⟨h.os,h.tape,h.output,by simpa [World.setCell] using h.size,fun i hi _=>(Below.heap_setCell W ⟨b,o,none⟩ v i (by simp; omega)).trans (h.block i hi (by simp))⟩

theorem put5 {w W:World} {a0 a1 a2 a3 a4:Value} (h:w.grownBy W none) (hB:BlkAt W w.heap.size #[a0,a1,a2,a3,a4] 147) (b0 b1 b2 b3 b4:Value) :
  BlkAt (((((W.setCell ⟨w.heap.size,0,none⟩ b0).setCell ⟨w.heap.size,1,none⟩ b1).setCell ⟨w.heap.size,2,none⟩ b2).setCell ⟨w.heap.size,3,none⟩ b3).setCell ⟨w.heap.size,4,none⟩ b4) w.heap.size #[b0,b1,b2,b3,b4] 147 ∧
  w.grownBy (((((W.setCell ⟨w.heap.size,0,none⟩ b0).setCell ⟨w.heap.size,1,none⟩ b1).setCell ⟨w.heap.size,2,none⟩ b2).setCell ⟨w.heap.size,3,none⟩ b3).setCell ⟨w.heap.size,4,none⟩ b4) none :=
 ⟨((((hB.set 0 b0).set 1 b1).set 2 b2).set 3 b3).set 4 b4,grown_new (grown_new (grown_new (grown_new (grown_new h (Nat.le_refl _) _ _) (Nat.le_refl _) _ _) (Nat.le_refl _) _ _) (Nat.le_refl _) _ _) (Nat.le_refl _) _ _⟩

set_option maxHeartbeats 4000000 in
theorem decode_any (n:Int) (w:World) (ht:Tabs w) (h0:0≤n) (h1:n≤4294967295) :
  Calls Tryz.prog 87 #[.int .i64 n] w fun e w'=>TellsD e n∧w.grownBy w' none:=by
 have HT:=hid ht
 clear ht
 have G:=hid (fun o:Obj=>World.grownBy_alloc w o none)
 go_enter Tryz.func87,Tryz.ntmps87
 go_wp2
 go_loopw [3] (fun i wr=>∃ k:Nat,1≤k∧k≤26∧i = .int .i64 k∧(∀ j,1≤j→j < k→¬ Is j n)∧w.grownBy wr none∧BlkAt wr w.heap.size #[.int .i64 0,.int .i64 0,.int .i64 0,.int .i64 0,.int .i64 0] 147) (fun i _=>26 - (intOf i).toNat)
 case atStart=>exact ⟨1,Nat.le_refl _,by omega,rfl,fun j h1 h2=>by omega,G.out _,BlkAt.new _ _ _⟩
 case round =>
  obtain ⟨k,hk1,hk2,rfl,hall,hgr,hbk⟩:=hrel
  have HA:=hid hall
  have HG:=hid hgr
  have HB:=hid hbk
  clear hall hgr hbk
  by_cases hlt:k≤25
  ·have T:=HT.out.grown HG.out
   have cf:=T.form k (by omega)
   have cx:=T.fix k (by omega)
   have hfr:=form_range k hk1 hlt
   clear T
   have IsE:=hid (show Is k n↔bits .and .i64 n (maskF (formL.getD k 0))=fixedL.getD k 0 from Iff.rfl)
   generalize hF:formL.getD k 0=f at *
   generalize fixedL.getD k 0=x at *
   have HF:=hid hF
   clear hF
   have cM:=hid (fun W=>fixedMask_any f W hfr)
   have g1:(1:Int)≤(k:Int):=by omega
   have g2:(k:Int)≤25:=by omega
   by_cases hI:Is k n
   ·have d:(bits .and .i64 n (maskF f) == x)=true:=beq_iff_eq.2 (IsE.out.1 hI)
    have HI:=hid hI
    have cF:=hid (fun W=>fields_any k f n W h0 h1 hfr)
    clear hI
    go_wp2
    go_quiet ((go_at_call 121; exact Calls.quiet_of_same (cM.out _)))
    go_wp2_with fail
    refine (cF.out _).mono ?_
    rintro e w2 ⟨⟨m,rfl,hm⟩,hq⟩
    unfold insV
    have B2:=hid ((HB.out.drewN nq).grown hq (by simp))
    have G2:=hid (grown_trans (grown_drewN HG.out nq) hq)
    have HM:=hid hm
    have k0:=B2.out.cell 0
    have k1:=B2.out.cell 1
    have k2:=B2.out.cell 2
    have k3:=B2.out.cell 3
    have k4:=B2.out.cell 4
    have f0:=B2.out.free 0
    have f1:=B2.out.free 1
    have f2:=B2.out.free 2
    have f3:=B2.out.free 3
    have f4:=B2.out.free 4
    clear hm hq
    generalize hrd:rdF f n=rd at *
    generalize hr1:rs1F f n=r1 at *
    have HRD:=hid hrd
    have HR1:=hid hr1
    clear hrd hr1
    generalize rs2F f n=r2 at *
    go_wp2
    have F:=put5 G2.out B2.out (.int .i64 k) (.int .i64 rd) (.int .i64 r1) (.int .i64 r2) (.int .i64 m)
    have e0:=F.1.cell 0
    have e1:=F.1.cell 1
    have e2:=F.1.cell 2
    have e3:=F.1.cell 3
    have e4:=F.1.cell 4
    refine bodyPost_ret (v:=insV k rd r1 r2 m) ?_ rfl ⟨⟨k,rd,r1,r2,m,rfl,.inr ⟨k,hk1,hlt,HI.out,HA.out,rfl,?_,?_,?_⟩⟩,F.2⟩
    ·clear F k0 k1 k2 k3 k4 f0 f1 f2 f3 f4 B2 G2
     generalize World.setCell _ _ _=WF at *
     simp [results,Tryz.results87,go_sem,insV,e0,e1,e2,e3,e4]
    ·rw [HF.out,HRD.out]
    ·rw [HF.out,HR1.out]
    ·rw [HF.out]; exact HM.out
   ·have d:(bits .and .i64 n (maskF f) == x)=false:=beq_eq_false_iff_ne.2 (fun h=>hI (IsE.out.2 h))
    have HI:=hid hI
    clear hI
    go_wp2
    go_quiet ((go_at_call 121; exact Calls.quiet_of_same (cM.out _)))
    go_wp2
    go_roundw
    case rel=>exact ⟨k+1,by omega,by omega,by go_num,fun j hj hjk=>(Nat.lt_succ_iff_lt_or_eq.1 hjk).elim (fun h=>HA.out j hj h) (fun h=>by subst h; exact HI.out),grown_drewN HG.out _,HB.out.drewN _⟩
    case measure=>simp [intOf]; omega
  ·have k0:=HB.out.cell 0
   have k1:=HB.out.cell 1
   have k2:=HB.out.cell 2
   have k3:=HB.out.cell 3
   have k4:=HB.out.cell 4
   have f0:=HB.out.free 0
   have f1:=HB.out.free 1
   have f2:=HB.out.free 2
   have f3:=HB.out.free 3
   have f4:=HB.out.free 4
   go_wp2
   have F:=put5 HG.out HB.out (.int .i64 0) (.int .i64 0) (.int .i64 0) (.int .i64 0) (.int .i64 0)
   have e0:=F.1.cell 0
   have e1:=F.1.cell 1
   have e2:=F.1.cell 2
   have e3:=F.1.cell 3
   have e4:=F.1.cell 4
   refine bodyPost_ret (v:=insV 0 0 0 0 0) ?_ rfl ⟨⟨0,0,0,0,0,rfl,.inl ⟨rfl,rfl,rfl,rfl,fun j h1 h2=>HA.out j h1 (by omega)⟩⟩,F.2⟩
   clear F k0 k1 k2 k3 k4 f0 f1 f2 f3 f4
   generalize World.setCell _ _ _=WF at *
   simp [results,Tryz.results87,go_sem,insV,e0,e1,e2,e3,e4]

end Go.Proofs.YtnfgdlkiialnnaaGreatDoor

namespace Go.Proofs.YtnfgdlkiialnnaaGreatDoor
open Go.RowKit

theorem or_sum (a b:Int) (k:Nat) (ha:0≤a) (ha':a < 9223372036854775808) (hk:a % (2:Int) ^ k=0) (hb:0≤b) (hb':b < (2:Int) ^ k) (hb2:b < 9223372036854775808):bits .or .i64 a b=a+b:=by
 obtain ⟨x,rfl⟩:=Int.eq_ofNat_of_zero_le ha
 obtain ⟨y,rfl⟩:=Int.eq_ofNat_of_zero_le hb
 have e:((2 ^ k:Nat):Int)=(2:Int) ^ k:=by simp
 rw [← e] at hb' hk
 rw [i64_or_nat x y (by omega) (by omega)]
 have hx:x=2 ^ k * (x / 2 ^ k):=by
  have h1:x % 2 ^ k=0:=by omega
  have:=Nat.div_add_mod x (2 ^ k)
  omega
 have h:=Nat.two_pow_add_eq_or_of_lt (i:=k) (b:=y) (by omega) (x / 2 ^ k)
 rw [← hx] at h
 omega

namespace Mc
def v2 (n:Int):Int:=n / 2147483648 % 2 * 1048576+n / 4096 % 256 * 4096+n / 1048576 % 2 * 2048+n / 2097152 % 1024 * 2
def v4 (n:Int):Int:=n / 2147483648 % 2 * 4096+n / 128 % 2 * 2048+n / 33554432 % 64 * 32+n / 256 % 16 * 2
def v5 (n:Int):Int:=n / 33554432 % 128 * 32+n / 128 % 32
/-- the number in a word of this form -/
def numF (form n:Int):Int :=
 if form=1 then n / 4096 % 1048576
 else if form=2 then (if v2 n < 1048576 then v2 n else v2 n - 2097152)
 else if form=3 then (if n / 1048576 % 4096 < 2048 then n / 1048576 % 4096 else n / 1048576 % 4096 - 4096)
 else if form=4 then (if v4 n < 4096 then v4 n else v4 n - 8192)
 else if form=5 then (if v5 n < 2048 then v5 n else v5 n - 4096)
 else 0
end Mc

theorem t2_exact (n:Int) (h0:0≤n) (h1:n≤4294967295):t2 n=Mc.v2 n:=by
 unfold t2 Mc.v2
 rw [low (n / 2147483648) 1 (by decide) 1 2 rfl rfl (by omega) (by omega),low (n / 4096) 8 (by decide) 255 256 rfl rfl (by omega) (by omega),low (n / 1048576) 1 (by decide) 1 2 rfl rfl (by omega) (by omega),low (n / 2097152) 10 (by decide) 1023 1024 rfl rfl (by omega) (by omega)]
 rw [IntWalk.wrap64_in (n / 2147483648 % 2 * 1048576) ⟨by omega,by omega⟩,IntWalk.wrap64_in (n / 4096 % 256 * 4096) ⟨by omega,by omega⟩,IntWalk.wrap64_in (n / 1048576 % 2 * 2048) ⟨by omega,by omega⟩,IntWalk.wrap64_in (n / 2097152 % 1024 * 2) ⟨by omega,by omega⟩]
 rw [or_sum (n / 2147483648 % 2 * 1048576) (n / 4096 % 256 * 4096) 20 (by omega) (by omega) (by simp only [Int.reducePow]; omega) (by omega) (by simp only [Int.reducePow]; omega) (by omega),
  or_sum (n / 2147483648 % 2 * 1048576+n / 4096 % 256 * 4096) (n / 1048576 % 2 * 2048) 12 (by omega) (by omega) (by simp only [Int.reducePow]; omega) (by omega) (by simp only [Int.reducePow]; omega) (by omega),
  or_sum (n / 2147483648 % 2 * 1048576+n / 4096 % 256 * 4096+n / 1048576 % 2 * 2048) (n / 2097152 % 1024 * 2) 11 (by omega) (by omega) (by simp only [Int.reducePow]; omega) (by omega) (by simp only [Int.reducePow]; omega) (by omega)]
theorem t4_exact (n:Int) (h0:0≤n) (h1:n≤4294967295):t4 n=Mc.v4 n:=by
 unfold t4 Mc.v4
 rw [low (n / 2147483648) 1 (by decide) 1 2 rfl rfl (by omega) (by omega),low (n / 128) 1 (by decide) 1 2 rfl rfl (by omega) (by omega),low (n / 33554432) 6 (by decide) 63 64 rfl rfl (by omega) (by omega),low (n / 256) 4 (by decide) 15 16 rfl rfl (by omega) (by omega)]
 rw [IntWalk.wrap64_in (n / 2147483648 % 2 * 4096) ⟨by omega,by omega⟩,IntWalk.wrap64_in (n / 128 % 2 * 2048) ⟨by omega,by omega⟩,IntWalk.wrap64_in (n / 33554432 % 64 * 32) ⟨by omega,by omega⟩,IntWalk.wrap64_in (n / 256 % 16 * 2) ⟨by omega,by omega⟩]
 rw [or_sum (n / 2147483648 % 2 * 4096) (n / 128 % 2 * 2048) 12 (by omega) (by omega) (by simp only [Int.reducePow]; omega) (by omega) (by simp only [Int.reducePow]; omega) (by omega),
  or_sum (n / 2147483648 % 2 * 4096+n / 128 % 2 * 2048) (n / 33554432 % 64 * 32) 11 (by omega) (by omega) (by simp only [Int.reducePow]; omega) (by omega) (by simp only [Int.reducePow]; omega) (by omega),
  or_sum (n / 2147483648 % 2 * 4096+n / 128 % 2 * 2048+n / 33554432 % 64 * 32) (n / 256 % 16 * 2) 5 (by omega) (by omega) (by simp only [Int.reducePow]; omega) (by omega) (by simp only [Int.reducePow]; omega) (by omega)]
theorem t5_exact (n:Int) (h0:0≤n) (h1:n≤4294967295):t5 n=Mc.v5 n:=by
 unfold t5 Mc.v5
 rw [low (n / 33554432) 7 (by decide) 127 128 rfl rfl (by omega) (by omega),low (n / 128) 5 (by decide) 31 32 rfl rfl (by omega) (by omega)]
 rw [IntWalk.wrap64_in (n / 33554432 % 128 * 32) ⟨by omega,by omega⟩]
 rw [or_sum (n / 33554432 % 128 * 32) (n / 128 % 32) 5 (by omega) (by omega) (by simp only [Int.reducePow]; omega) (by omega) (by simp only [Int.reducePow]; omega) (by omega)]
theorem t3_exact (n:Int) (h0:0≤n) (h1:n≤4294967295):t3 n=n / 1048576 % 4096:=by
 unfold t3
 rw [low (n / 1048576) 12 (by decide) 4095 4096 rfl rfl (by omega) (by omega)]

theorem below_sgn (t v d h:Int) (e:t=v) (hl:t < h):t=if v < h then v else v - d:=by rw [e] at hl ⊢; rw [if_pos hl]
theorem above_sgn (t v d h:Int) (e:t=v) (hl:h≤t) (h0:0≤t) (hd:0≤d∧d≤4294967296) (h1:t≤4294967296):wrap64 (t - d)=if v < h then v else v - d:=by
 rw [IntWalk.wrap64_in _ ⟨by omega,by omega⟩,← e,if_neg (by omega)]

set_option maxHeartbeats 1000000 in
theorem takeNumber_exact (form n:Int) (w:World) (h0:0≤n) (h1:n≤4294967295) :
  Calls Tryz.prog 180 #[.int .i64 form,.int .i64 n] w fun e w'=>e = .returned (.int .i64 (Mc.numF form n))∧w'=w:=by
 by_cases e1:form=1
 ·subst e1
  have E:=hid (show bits .and .i64 (n / 4096) 1048575=Mc.numF 1 n by rw [low (n / 4096) 20 (by decide) 1048575 1048576 rfl rfl (by omega) (by omega)]; rfl)
  go_enter Tryz.func180,Tryz.ntmps180
  go_wp2
  go_ret
  exact ⟨ret_int E.out,rfl⟩
 by_cases e2:form=2
 ·subst e2
  have T:=hid (t2_spec n h0 h1)
  have X:=hid (t2_exact n h0 h1)
  have NF:=hid (show Mc.numF 2 n=if Mc.v2 n < 1048576 then Mc.v2 n else Mc.v2 n - 2097152 from rfl)
  clear e1
  go_enter Tryz.func180,Tryz.ntmps180
  go_wp2
  ·go_ret
   refine ⟨ret_int ?_,rfl⟩
   rw [NF.out]
   exact below_sgn (t2 n) _ 2097152 1048576 X.out (by assumption)
  ·go_ret
   refine ⟨ret_int ?_,rfl⟩
   rw [NF.out]
   exact above_sgn (t2 n) _ 2097152 1048576 X.out (by assumption) T.out.1 (by decide) (by have:=T.out.2.1; omega)
 by_cases e3:form=3
 ·subst e3
  have T:=hid (t3_spec n h0 h1)
  have X:=hid (t3_exact n h0 h1)
  have NF:=hid (show Mc.numF 3 n=if n / 1048576 % 4096 < 2048 then n / 1048576 % 4096 else n / 1048576 % 4096 - 4096 from rfl)
  clear e1 e2
  go_enter Tryz.func180,Tryz.ntmps180
  go_wp2
  ·go_ret
   refine ⟨ret_int ?_,rfl⟩
   rw [NF.out]
   exact below_sgn (t3 n) _ 4096 2048 X.out (by assumption)
  ·go_ret
   refine ⟨ret_int ?_,rfl⟩
   rw [NF.out]
   exact above_sgn (t3 n) _ 4096 2048 X.out (by assumption) T.out.1 (by decide) (by have:=T.out.2.1; omega)
 by_cases e4:form=4
 ·subst e4
  have T:=hid (t4_spec n h0 h1)
  have X:=hid (t4_exact n h0 h1)
  have NF:=hid (show Mc.numF 4 n=if Mc.v4 n < 4096 then Mc.v4 n else Mc.v4 n - 8192 from rfl)
  clear e1 e2 e3
  go_enter Tryz.func180,Tryz.ntmps180
  go_wp2
  ·go_ret
   refine ⟨ret_int ?_,rfl⟩
   rw [NF.out]
   exact below_sgn (t4 n) _ 8192 4096 X.out (by assumption)
  ·go_ret
   refine ⟨ret_int ?_,rfl⟩
   rw [NF.out]
   exact above_sgn (t4 n) _ 8192 4096 X.out (by assumption) T.out.1 (by decide) (by have:=T.out.2.1; omega)
 by_cases e5:form=5
 ·subst e5
  have T:=hid (t5_spec n h0 h1)
  have X:=hid (t5_exact n h0 h1)
  have NF:=hid (show Mc.numF 5 n=if Mc.v5 n < 2048 then Mc.v5 n else Mc.v5 n - 4096 from rfl)
  clear e1 e2 e3 e4
  go_enter Tryz.func180,Tryz.ntmps180
  go_wp2
  ·go_ret
   refine ⟨ret_int ?_,rfl⟩
   rw [NF.out]
   exact below_sgn (t5 n) _ 4096 2048 X.out (by assumption)
  ·go_ret
   refine ⟨ret_int ?_,rfl⟩
   rw [NF.out]
   exact above_sgn (t5 n) _ 4096 2048 X.out (by assumption) T.out.1 (by decide) (by have:=T.out.2.1; omega)
 have NF:=hid (show Mc.numF form n=0 by unfold Mc.numF; rw [if_neg e1,if_neg e2,if_neg e3,if_neg e4,if_neg e5])
 have d1:(form == 1)=false:=by simpa using e1
 have d2:(form == 2)=false:=by simpa using e2
 have d3:(form == 3)=false:=by simpa using e3
 have d4:(form == 4)=false:=by simpa using e4
 have d5:(form == 5)=false:=by simpa using e5
 clear e1 e2 e3 e4 e5
 go_enter Tryz.func180,Tryz.ntmps180
 go_wp2
 go_ret
 exact ⟨ret_int NF.out.symm,rfl⟩

end Go.Proofs.YtnfgdlkiialnnaaGreatDoor

namespace Go.Proofs.YtnfgdlkiialnnaaGreatDoor
open Go.RowKit

set_option maxHeartbeats 2000000 in
theorem fields_exact (op form n:Int) (w:World) (h0:0≤n) (h1:n≤4294967295) (hf:1≤form∧form≤7) :
  Calls Tryz.prog 122 #[.int .i64 op,.int .i64 form,.int .i64 n] w fun e w'=>e = .returned (insV op (rdF form n) (rs1F form n) (rs2F form n) (Mc.numF form n))∧w.grownBy w' none:=by
 have cT:=hid (fun W=>takeNumber_exact form n W h0 h1)
 generalize Mc.numF form n=m at *
 have G1:=hid (fun o:Obj=>World.grownBy_alloc w o none)
 have G2:=hid (fun o o':Obj=>World.grownBy_alloc (w.alloc o) o' none)
 rcases (show form=1∨form=2∨form=3∨form=4∨form=5∨form=6∨form=7 from by omega) with rfl | rfl | rfl | rfl | rfl | rfl | rfl
 all_goals
  clear hf
  go_enter Tryz.func122,Tryz.ntmps122
  go_wp2_with fail
  refine (cT.out _).mono ?_
  rintro e w1 ⟨rfl,rfl⟩
  clear cT
  go_wp2
  refine bodyPost_ret (v:=insV op (rdF _ n) (rs1F _ n) (rs2F _ n) m) ?_ rfl ⟨rfl,grown_trans (G1.out _) (G2.out _ _)⟩
  simp [results,Tryz.results122,go_sem,insV,rdF,rs1F,rs2F]

namespace Mc
instance (k:Nat) (n:Int):Decidable (Is k n):=by unfold Is; infer_instance
/-- which instruction a word is; 0: none -/
def opOf (n:Int):Nat:=((List.range 26).find? fun k=>decide (1≤k) && decide (Is k n)).getD 0
theorem opOf_at (n:Int) (k:Nat) (h1:1≤k) (h2:k≤25) (hI:Is k n) (hall:∀ j,1≤j→j < k→¬ Is j n):opOf n=k:=by
 unfold opOf
 have h:(List.range 26).find? (fun k=>decide (1≤k) && decide (Is k n))=some k:=by
  rw [List.find?_eq_some_iff_append]
  refine ⟨by simp [h1,hI],List.range k,(List.range (25 - k)).map (k+1 + ·),?_,?_⟩
  ·have e:26=k+(1+(25 - k)):=by omega
   rw [e,List.range_add,List.range_add]
   simp [Nat.add_assoc]
  ·intro j hj
   have hj':=List.mem_range.1 hj
   by_cases hj1:1≤j
   ·simp [hj1,hall j hj1 hj']
   ·simp [hj1]
 rw [h]
 rfl
theorem opOf_none (n:Int) (hall:∀ j,1≤j→j≤25→¬ Is j n):opOf n=0:=by
 unfold opOf
 have h:(List.range 26).find? (fun k=>decide (1≤k) && decide (Is k n))=none:=by
  rw [List.find?_eq_none]
  intro j hj
  have hj':=List.mem_range.1 hj
  by_cases hj1:1≤j
  ·simp [hj1,hall j hj1 (by omega)]
  ·simp [hj1]
 rw [h]
 rfl
def formOf (n:Int):Int:=formL.getD (opOf n) 0
end Mc

set_option maxHeartbeats 4000000 in
theorem decode_exact (n:Int) (w:World) (ht:Tabs w) (h0:0≤n) (h1:n≤4294967295) :
  Calls Tryz.prog 87 #[.int .i64 n] w fun e w'=>e = .returned (insV (Mc.opOf n) (rdF (Mc.formOf n) n) (rs1F (Mc.formOf n) n) (rs2F (Mc.formOf n) n) (Mc.numF (Mc.formOf n) n))∧w.grownBy w' none:=by
 have HT:=hid ht
 clear ht
 obtain ⟨R,hR⟩:∃ R,R=insV (Mc.opOf n) (rdF (Mc.formOf n) n) (rs1F (Mc.formOf n) n) (rs2F (Mc.formOf n) n) (Mc.numF (Mc.formOf n) n):=⟨_,rfl⟩
 rw [← hR]
 have HR:=hid hR
 clear hR
 have G:=hid (fun o:Obj=>World.grownBy_alloc w o none)
 go_enter Tryz.func87,Tryz.ntmps87
 go_wp2
 go_loopw [3] (fun i wr=>∃ k:Nat,1≤k∧k≤26∧i = .int .i64 k∧(∀ j,1≤j→j < k→¬ Is j n)∧w.grownBy wr none∧BlkAt wr w.heap.size #[.int .i64 0,.int .i64 0,.int .i64 0,.int .i64 0,.int .i64 0] 147) (fun i _=>26 - (intOf i).toNat)
 case atStart=>exact ⟨1,Nat.le_refl _,by omega,rfl,fun j h1 h2=>by omega,G.out _,BlkAt.new _ _ _⟩
 case round =>
  obtain ⟨k,hk1,hk2,rfl,hall,hgr,hbk⟩:=hrel
  have HA:=hid hall
  have HG:=hid hgr
  have HB:=hid hbk
  clear hall hgr hbk
  by_cases hlt:k≤25
  ·have T:=HT.out.grown HG.out
   have cf:=T.form k (by omega)
   have cx:=T.fix k (by omega)
   have hfr:=form_range k hk1 hlt
   clear T
   have IsE:=hid (show Is k n↔bits .and .i64 n (maskF (formL.getD k 0))=fixedL.getD k 0 from Iff.rfl)
   generalize hF:formL.getD k 0=f at *
   generalize fixedL.getD k 0=x at *
   have HF:=hid hF
   clear hF
   have cM:=hid (fun W=>fixedMask_any f W hfr)
   have g1:(1:Int)≤(k:Int):=by omega
   have g2:(k:Int)≤25:=by omega
   by_cases hI:Is k n
   ·have d:(bits .and .i64 n (maskF f) == x)=true:=beq_iff_eq.2 (IsE.out.1 hI)
    have HI:=hid hI
    have cF:=hid (fun W=>fields_exact k f n W h0 h1 hfr)
    clear hI
    go_wp2
    go_quiet ((go_at_call 121; exact Calls.quiet_of_same (cM.out _)))
    go_wp2_with fail
    refine (cF.out _).mono ?_
    rintro e w2 ⟨rfl,hq⟩
    have OP:=hid (Mc.opOf_at n k hk1 hlt HI.out HA.out)
    have FO:=hid (show Mc.formOf n=f by unfold Mc.formOf; rw [OP.out]; exact HF.out)
    unfold insV
    have B2:=hid ((HB.out.drewN nq).grown hq (by simp))
    have G2:=hid (grown_trans (grown_drewN HG.out nq) hq)
    have k0:=B2.out.cell 0
    have k1:=B2.out.cell 1
    have k2:=B2.out.cell 2
    have k3:=B2.out.cell 3
    have k4:=B2.out.cell 4
    have f0:=B2.out.free 0
    have f1:=B2.out.free 1
    have f2:=B2.out.free 2
    have f3:=B2.out.free 3
    have f4:=B2.out.free 4
    clear hq
    have RE:=hid (show R=insV k (rdF f n) (rs1F f n) (rs2F f n) (Mc.numF f n) by rw [HR.out,OP.out,FO.out])
    generalize rdF f n=rd at *
    generalize rs1F f n=r1 at *
    generalize rs2F f n=r2 at *
    generalize Mc.numF f n=m at *
    go_wp2
    have F:=put5 G2.out B2.out (.int .i64 k) (.int .i64 rd) (.int .i64 r1) (.int .i64 r2) (.int .i64 m)
    have e0:=F.1.cell 0
    have e1:=F.1.cell 1
    have e2:=F.1.cell 2
    have e3:=F.1.cell 3
    have e4:=F.1.cell 4
    refine bodyPost_ret (v:=R) ?_ rfl ⟨rfl,F.2⟩
    rw [RE.out]
    clear F k0 k1 k2 k3 k4 f0 f1 f2 f3 f4 B2 G2
    generalize World.setCell _ _ _=WF at *
    simp [results,Tryz.results87,go_sem,insV,e0,e1,e2,e3,e4]
   ·have d:(bits .and .i64 n (maskF f) == x)=false:=beq_eq_false_iff_ne.2 (fun h=>hI (IsE.out.2 h))
    have HI:=hid hI
    clear hI
    go_wp2
    go_quiet ((go_at_call 121; exact Calls.quiet_of_same (cM.out _)))
    go_wp2
    go_roundw
    case rel=>exact ⟨k+1,by omega,by omega,by go_num,fun j hj hjk=>(Nat.lt_succ_iff_lt_or_eq.1 hjk).elim (fun h=>HA.out j hj h) (fun h=>by subst h; exact HI.out),grown_drewN HG.out _,HB.out.drewN _⟩
    case measure=>simp [intOf]; omega
  ·have k0:=HB.out.cell 0
   have k1:=HB.out.cell 1
   have k2:=HB.out.cell 2
   have k3:=HB.out.cell 3
   have k4:=HB.out.cell 4
   have f0:=HB.out.free 0
   have f1:=HB.out.free 1
   have f2:=HB.out.free 2
   have f3:=HB.out.free 3
   have f4:=HB.out.free 4
   go_wp2
   have F:=put5 HG.out HB.out (.int .i64 0) (.int .i64 0) (.int .i64 0) (.int .i64 0) (.int .i64 0)
   have e0:=F.1.cell 0
   have e1:=F.1.cell 1
   have e2:=F.1.cell 2
   have e3:=F.1.cell 3
   have e4:=F.1.cell 4
   have OP:=Mc.opOf_none n (fun j h1 h2=>HA.out j h1 (by omega))
   have FO:Mc.formOf n=0:=by unfold Mc.formOf; rw [OP]; rfl
   have RE:R=insV 0 0 0 0 0:=by rw [HR.out,OP,FO]; rfl
   refine bodyPost_ret (v:=R) ?_ rfl ⟨rfl,F.2⟩
   rw [RE]
   clear F k0 k1 k2 k3 k4 f0 f1 f2 f3 f4
   generalize World.setCell _ _ _=WF at *
   simp [results,Tryz.results87,go_sem,insV,e0,e1,e2,e3,e4]

end Go.Proofs.YtnfgdlkiialnnaaGreatDoor

namespace Go.Proofs.YtnfgdlkiialnnaaGreatDoor
open Go.RowKit

/-- the number that n bytes from p on say; noughts stand for what is not there -/
def atL (l:List UInt8) (p:Nat):Nat→Int
 | 0=>0
 | n+1=>((l.getD p 0).toNat:Int)+256 * atL l (p+1) n

end Go.Proofs.YtnfgdlkiialnnaaGreatDoor

namespace Go.Proofs.YtnfgdlkiialnnaaGreatDoor
open Go.RowKit

namespace Im

/-- what an image says -/
structure Img where
 start:Int
 text:Int
 far:Int
 data:Int
 T:List Int
 F:List Int
 D:List Int
 noughts:Int

/-- c words from p on -/
def words (l:List UInt8) (p c:Nat):List Int:=(List.range c).map fun i=>atL l (p+4 * i) 4
/-- may a region begin there? -/
def Base (a:Int):Prop:=(4096≤a∧a < 1073741824)∧a % 16=0
def Meet (a b c d:Int):Prop:=a≠b∧c≠d∧a < d∧c < b
/-- a word of n from base on lies at a -/
def In (base:Int) (n:Nat) (a:Int):Prop:=base≤a∧(a - base) % 4=0∧(a - base) / 4 < n
end Im
end Go.Proofs.YtnfgdlkiialnnaaGreatDoor

namespace Go.Proofs.YtnfgdlkiialnnaaGreatDoor
open Go.RowKit

set_option maxHeartbeats 1000000 in
theorem readObject_no (b:Nat) (s:ByteArray) (p:Nat) (sh:Bool) (w:World) (h:RdAt w b s p sh)
  (hs:s.size≤1048576) (hp:p≤s.size) (hmark:(Lk.rdText (sl s) 2 (p,sh)).1≠[76,75]) :
  Calls Tryz.prog 83 #[.pointer (some ⟨b,0,none⟩)] w fun e w'=>e = .returned (.pointer none)∧w.grownBy w' (some b):=by
 have c0:=fun W h=>text_lit b s p 2 2 rfl sh W h hs hp (by omega)
 generalize Lk.rdText (sl s) 2 (p,sh)=x0 at *
 obtain ⟨mk,p0,s0⟩:=x0
 simp only at hmark c0
 replace c0:=hid c0
 have H:=hid h
 clear h
 have ht:((bs mk).toList == [76,75])=false:=by rw [toList_bs]; simpa using hmark
 clear hmark
 go_enter Tryz.func83,Tryz.ntmps83
 go_wp2_with fail
 refine (c0.out w H.out).mono ?_
 rintro e W0 ⟨rfl,r0,q0⟩
 replace r0:=hid r0
 replace q0:=hid q0
 go_wp2
 go_ret
 exact ⟨rfl,q0.out⟩

set_option maxHeartbeats 400000 in
theorem newReader_any (s:ByteArray) (w:World) :
  Calls Tryz.prog 35 #[.string s] w fun e w'=>e = .returned (.agg #[.string s,.int .i64 0,.bool false])∧w.grownBy w' none:=by
 go_enter Tryz.func35,Tryz.ntmps35
 go_wp2
 have B:=BlkAt.new w #[.string s,.int .i64 0,.bool false] 63
 have e0:=B.cell 0
 have e1:=B.cell 1
 have e2:=B.cell 2
 have G:=World.grownBy_alloc w (.cells #[.string s,.int .i64 0,.bool false] 63) none
 refine bodyPost_ret (v:=.agg #[.string s,.int .i64 0,.bool false]) ?_ rfl ⟨rfl,G⟩
 simp [results,Tryz.results35,go_sem]

end Go.Proofs.YtnfgdlkiialnnaaGreatDoor

namespace Go.Proofs.YtnfgdlkiialnnaaGreatDoor
open Go.RowKit

section
variable {w W W':World} {b g:Nat} {s:ByteArray} {cs:Array Value} {rows:List Row} {p p':Nat} {sh sh':Bool}
end

/-- an image lies in block g, its lists behind it -/
def ImgAt (W:World) (g:Nat) (m:Im.Img):Prop :=
 ∃ vt vf vd,BlkAt W g #[.int .i64 m.start,.int .i64 m.text,.int .i64 m.far,.int .i64 m.data,vt,vf,vd,.int .i64 m.noughts] 101 ∧
  W.ownsRow 0 3 1 vt m.T.length (m.T.map (Value.int .i64))∧W.ownsRow 0 3 1 vf m.F.length (m.F.map (Value.int .i64))∧W.ownsRow 0 3 1 vd m.D.length (m.D.map (Value.int .i64))

end Go.Proofs.YtnfgdlkiialnnaaGreatDoor

namespace Go.Proofs.YtnfgdlkiialnnaaGreatDoor
open Go.RowKit

set_option maxHeartbeats 1000000 in
theorem isBase_any (a:Int) (w:World) (h0:0≤a) (h1:a < 4294967296) :
  Calls Tryz.prog 85 #[.int .i64 a] w fun e w'=>Tells e (Im.Base a)∧w'=w:=by
 by_cases c1:4096≤a
 ·by_cases c2:a < 1073741824
  ·by_cases c3:a % 16=0
   ·have d1:decide (4096≤a)=true:=by simpa using c1
    have d2:decide (a < 1073741824)=true:=by simpa using c2
    have d3:(a % 16 == 0)=true:=by simpa using c3
    have Q:=hid (show Im.Base a from ⟨⟨c1,c2⟩,c3⟩)
    clear c1 c2 c3
    go_enter Tryz.func85,Tryz.ntmps85
    go_wp2
    go_ret
    exact ⟨Tells.yes Q.out,rfl⟩
   ·have d1:decide (4096≤a)=true:=by simpa using c1
    have d2:decide (a < 1073741824)=true:=by simpa using c2
    have d3:(a % 16 == 0)=false:=by simpa using c3
    have Q:=hid (show ¬ Im.Base a from fun h=>c3 h.2)
    clear c1 c2 c3
    go_enter Tryz.func85,Tryz.ntmps85
    go_wp2
    go_ret
    exact ⟨Tells.no Q.out,rfl⟩
  ·have d1:decide (4096≤a)=true:=by simpa using c1
   have d2:decide (a < 1073741824)=false:=by simpa using c2
   have Q:=hid (show ¬ Im.Base a from fun h=>c2 h.1.2)
   clear c1 c2
   go_enter Tryz.func85,Tryz.ntmps85
   go_wp2
   go_ret
   exact ⟨Tells.no Q.out,rfl⟩
 ·have d1:decide (4096≤a)=false:=by simpa using c1
  have Q:=hid (show ¬ Im.Base a from fun h=>c1 h.1.1)
  clear c1
  go_enter Tryz.func85,Tryz.ntmps85
  go_wp2
  go_ret
  exact ⟨Tells.no Q.out,rfl⟩

set_option maxHeartbeats 1000000 in
theorem regionOf_any (a:Int) (n:Int) (w:World) (h0:0≤a) (h1:a < 4294967296) (h2:0≤n) (h3:n≤1048576) :
  Calls Tryz.prog 101 #[.int .i64 a,.int .i64 n] w fun e w'=>e = .returned (.agg #[.int .i64 a,.int .i64 (a+4 * n)])∧w'=w.alloc (.cells #[.int .i64 a,.int .i64 (a+4 * n)] 163):=by
 have e1:IntKind.i64.wrap (4 * n)=4 * n:=IntWalk.i64_in _ ⟨by omega,by omega⟩
 have e2:IntKind.i64.wrap (a+4 * n)=a+4 * n:=IntWalk.i64_in _ ⟨by omega,by omega⟩
 go_enter Tryz.func101,Tryz.ntmps101
 go_wp2
 refine bodyPost_ret (v:=.agg #[.int .i64 a,.int .i64 (a+4 * n)]) ?_ rfl ⟨rfl,rfl⟩
 simp [results,Tryz.results101,go_sem]

set_option maxHeartbeats 2000000 in
theorem meet_any (a b c d:Int) (w:World) :
  Calls Tryz.prog 102 #[.agg #[.int .i64 a,.int .i64 b],.agg #[.int .i64 c,.int .i64 d]] w fun e w'=>Tells e (Im.Meet a b c d)∧w.grownBy w' none:=by
 have G:=hid (grown_trans (World.grownBy_alloc w (.cells #[.int .i64 a,.int .i64 b] 163) none) (World.grownBy_alloc _ (.cells #[.int .i64 c,.int .i64 d] 163) none))
 by_cases c1:a=b
 ·have Q:=hid (show ¬ Im.Meet a b c d from fun h=>h.1 c1)
  have d1:(a == b)=true:=by simpa using c1
  clear c1
  go_enter Tryz.func102,Tryz.ntmps102
  go_wp2
  go_ret
  exact ⟨Tells.no Q.out,G.out⟩
 ·by_cases c2:c=d
  ·have Q:=hid (show ¬ Im.Meet a b c d from fun h=>h.2.1 c2)
   have d1:(a == b)=false:=by simpa using c1
   have d2:(c == d)=true:=by simpa using c2
   clear c1 c2
   go_enter Tryz.func102,Tryz.ntmps102
   go_wp2
   go_ret
   exact ⟨Tells.no Q.out,G.out⟩
  ·have d1:(a == b)=false:=by simpa using c1
   have d2:(c == d)=false:=by simpa using c2
   by_cases c3:a < d
   ·have d3:decide (a < d)=true:=by simpa using c3
    have Q:=hid (show decide (c < b)=true↔Im.Meet a b c d from by rw [decide_eq_true_iff]; exact ⟨fun h=>⟨c1,c2,c3,h⟩,fun h=>h.2.2.2⟩)
    clear c1 c2 c3
    go_enter Tryz.func102,Tryz.ntmps102
    go_wp2
    go_ret
    exact ⟨Tells.of Q.out,G.out⟩
   ·have d3:decide (a < d)=false:=by simpa using c3
    have Q:=hid (show ¬ Im.Meet a b c d from fun h=>c3 h.2.2.1)
    clear c1 c2 c3
    go_enter Tryz.func102,Tryz.ntmps102
    go_wp2
    go_ret
    exact ⟨Tells.no Q.out,G.out⟩

namespace Im
/-- which of n words from base on lies at a; -1: none -/
def place (base:Int) (n:Nat) (a:Int):Int:=if base≤a∧(a - base) % 4=0∧(a - base) / 4 < n then (a - base) / 4 else -1
theorem place_in {base:Int} {n:Nat} {a:Int} (h:In base n a):place base n a=(a - base) / 4:=if_pos h
theorem place_out {base:Int} {n:Nat} {a:Int} (h:¬ In base n a):place base n a = -1:=if_neg h
end Im

set_option maxHeartbeats 2000000 in
theorem iPlace_any (ao:Option Addr) (n cap:Nat) (base a:Int) (w:World) (h0:0≤a) (h1:a < 4294967296) (h2:0≤base) (h3:base < 4294967296) :
  Calls Tryz.prog 105 #[.slice ao n cap,.int .i64 base,.int .i64 a] w fun e w'=>e = .returned (.int .i64 (Im.place base n a))∧w'=w:=by
 by_cases c1:a < base
 ·have R:=hid (Im.place_out (n:=n) (show ¬ Im.In base n a from fun h=>by have:=h.1; omega))
  have d1:decide (a < base)=true:=by simpa using c1
  clear c1
  go_enter Tryz.func105,Tryz.ntmps105
  go_wp2
  go_ret
  rw [R.out]
  exact ⟨rfl,rfl⟩
 ·have d1:decide (a < base)=false:=by simpa using c1
  have e1:IntKind.i64.wrap (a - base)=a - base:=IntWalk.i64_in _ ⟨by omega,by omega⟩
  have e2:(a - base).tmod 4=(a - base) % 4:=Int.tmod_eq_emod_of_nonneg (by omega)
  have e3:(a - base).tdiv 4=(a - base) / 4:=Int.tdiv_eq_ediv_of_nonneg (by omega)
  by_cases c2:(a - base) % 4=0
  ·have d2:((a - base) % 4 == 0)=true:=by simpa using c2
   by_cases c3:(a - base) / 4 < n
   ·have R:=hid (Im.place_in (show Im.In base n a from ⟨by omega,c2,c3⟩))
    have d3:decide ((n:Int)≤(a - base) / 4)=false:=by simp; omega
    go_enter Tryz.func105,Tryz.ntmps105
    go_wp2
    go_ret
    rw [R.out]
    exact ⟨rfl,rfl⟩
   ·have R:=hid (Im.place_out (show ¬ Im.In base n a from fun h=>c3 h.2.2))
    have d3:decide ((n:Int)≤(a - base) / 4)=true:=by simp; omega
    go_enter Tryz.func105,Tryz.ntmps105
    go_wp2
    go_ret
    rw [R.out]
    exact ⟨rfl,rfl⟩
  ·have d2:((a - base) % 4 == 0)=false:=by simpa using c2
   have R:=hid (Im.place_out (n:=n) (show ¬ Im.In base n a from fun h=>c2 h.2.1))
   go_enter Tryz.func105,Tryz.ntmps105
   go_wp2
   go_ret
   rw [R.out]
   exact ⟨rfl,rfl⟩

end Go.Proofs.YtnfgdlkiialnnaaGreatDoor

namespace Go.Proofs.YtnfgdlkiialnnaaGreatDoor
open Go.RowKit

namespace Im
/-- the word of code at an address -/
def code (m:Img) (a:Int):Option Int :=
 if 0≤place m.text m.T.length a then some (m.T.getD (place m.text m.T.length a).toNat 0)
 else if 0≤place m.far m.F.length a then some (m.F.getD (place m.far m.F.length a).toNat 0) else none
theorem place_range (base:Int) (n:Nat) (a:Int):place base n a = -1∨(0≤place base n a∧place base n a < n):=by
 unfold place
 split
 ·right; omega
 ·left; rfl
/-- numbers such as reading gives -/
structure Tame (m:Img):Prop where
 start:0≤m.start∧m.start < 4294967296
 text:0≤m.text∧m.text < 4294967296
 far:0≤m.far∧m.far < 4294967296
 data:0≤m.data∧m.data < 4294967296
 lens:m.T.length≤65535∧m.F.length≤65535∧m.D.length≤65535
 noughts:0≤m.noughts∧m.noughts≤65535
end Im

theorem ImgAt.open {W:World} {g:Nat} {m:Im.Img} (h:ImgAt W g m):∃ at_ ct af cf ad cd,
  BlkAt W g #[.int .i64 m.start,.int .i64 m.text,.int .i64 m.far,.int .i64 m.data,.slice at_ m.T.length ct,.slice af m.F.length cf,.slice ad m.D.length cd,.int .i64 m.noughts] 101 ∧
  W.ownsRow 0 3 1 (.slice at_ m.T.length ct) m.T.length (m.T.map (Value.int .i64))∧W.ownsRow 0 3 1 (.slice af m.F.length cf) m.F.length (m.F.map (Value.int .i64)) ∧
  W.ownsRow 0 3 1 (.slice ad m.D.length cd) m.D.length (m.D.map (Value.int .i64)):=by
 obtain ⟨vt,vf,vd,hb,h1,h2,h3⟩:=h
 obtain ⟨at_,ct,rfl⟩:=own_form h1
 obtain ⟨af,cf,rfl⟩:=own_form h2
 obtain ⟨ad,cd,rfl⟩:=own_form h3
 exact ⟨at_,ct,af,cf,ad,cd,hb,h1,h2,h3⟩

theorem ImgAt.kept {W W':World} {g:Nat} {m:Im.Img} (h:ImgAt W g m) (hg:W.grownBy W' none):ImgAt W' g m:=by
 obtain ⟨vt,vf,vd,hb,h1,h2,h3⟩:=h
 have k:∀ {v:Value} {n:Nat} {xs:List Value},W.ownsRow 0 3 1 v n xs→W'.ownsRow 0 3 1 v n xs:=fun h=>h.kept hg (by
  cases h':Value.ownBlock _ with
  | none=>exact .inl rfl
  | some b=>right; simp)
 exact ⟨vt,vf,vd,hb.grown hg (by simp),k h1,k h2,k h3⟩

set_option maxHeartbeats 4000000 in
theorem code_any (g:Nat) (m:Im.Img) (a:Int) (w:World) (h:ImgAt w g m) (ht:Im.Tame m) (h0:0≤a) (h1:a < 4294967296) :
  Calls Tryz.prog 71 #[.pointer (some ⟨g,0,none⟩),.int .i64 a] w fun e w'=>e = .returned (.tuple #[.int .i64 ((Im.code m a).getD 0),.bool (Im.code m a).isSome])∧∃ n,w'=w.drewN n:=by
 obtain ⟨at_,ct,af,cf,ad,cd,hb,q1,q2,-⟩:=h.open
 have hc1:=own_cap q1
 have hc2:=own_cap q2
 have I1:=hid (IntsIn.of_own q1)
 have I2:=hid (IntsIn.of_own q2)
 have k1:=hb.cell 1
 have k2:=hb.cell 2
 have k4:=hb.cell 4
 have k5:=hb.cell 5
 simp only [List.getElem?_toArray,List.getElem?_cons_succ,List.getElem?_cons_zero] at k1 k2 k4 k5
 have cT:=hid (fun W=>iPlace_any at_ m.T.length ct m.text a W h0 h1 ht.text.1 ht.text.2)
 have cF:=hid (fun W=>iPlace_any af m.F.length cf m.far a W h0 h1 ht.far.1 ht.far.2)
 obtain ⟨X,hX⟩:∃ X,X=Im.code m a:=⟨_,rfl⟩
 rw [← hX]
 unfold Im.code at hX
 have RX:=hid hX
 have r1:=Im.place_range m.text m.T.length a
 have r2:=Im.place_range m.far m.F.length a
 have L:=hid ht.lens
 clear hX h ht hb q1 q2
 generalize Im.place m.text m.T.length a=i at *
 generalize Im.place m.far m.F.length a=j at *
 have hl1:=L.out.1
 have hl2:=L.out.2.1
 by_cases ci:0≤i
 ·have d1:decide (0≤i)=true:=by simpa using ci
  have hi:i.toNat < m.T.length:=by omega
  obtain ⟨sg,off,rfl,hcell⟩:=I1.out (by omega)
  have hck:=hcell i.toNat hi
  rw [if_pos ci] at RX
  have GE:=hid (show m.T.getD i.toNat 0=m.T[i.toNat] from by rw [List.getD_eq_getElem?_getD,List.getElem?_eq_getElem hi]; rfl)
  rw [GE.out] at RX
  have g1:i < (m.T.length:Int):=by omega
  clear hcell r1 r2 cF I1 I2 L GE
  generalize m.T[i.toNat]=v at *
  obtain ⟨n,rfl⟩:∃ n:Nat,i=n:=⟨i.toNat,by omega⟩
  rw [Int.toNat_natCast] at hck hi
  go_enter Tryz.func71,Tryz.ntmps71
  go_wp2
  go_quiet ((go_at_call 105; exact Calls.quiet_of_same (cT.out _)))
  go_wp2
  go_ret2
  rw [RX.out]
  exact ⟨rfl,_,rfl⟩
 ·have d1:decide (0≤i)=false:=by simpa using ci
  rw [if_neg ci] at RX
  obtain rfl:i = -1:=by omega
  clear I1 r1
  by_cases cj:0≤j
  ·have d2:decide (0≤j)=true:=by simpa using cj
   have hj:j.toNat < m.F.length:=by omega
   obtain ⟨sg,off,rfl,hcell⟩:=I2.out (by omega)
   have hck:=hcell j.toNat hj
   rw [if_pos cj] at RX
   have GE:=hid (show m.F.getD j.toNat 0=m.F[j.toNat] from by rw [List.getD_eq_getElem?_getD,List.getElem?_eq_getElem hj]; rfl)
   rw [GE.out] at RX
   have g1:j < (m.F.length:Int):=by omega
   clear hcell r2 I2 L GE
   generalize m.F[j.toNat]=v at *
   obtain ⟨n,rfl⟩:∃ n:Nat,j=n:=⟨j.toNat,by omega⟩
   rw [Int.toNat_natCast] at hck hj
   go_enter Tryz.func71,Tryz.ntmps71
   go_wp2
   go_quiet ((go_at_call 105; exact Calls.quiet_of_same (cT.out _)))
   go_wp2
   have HE:=hid (show ∃ n,w.drewN nq=w.drewN n from ⟨_,rfl⟩)
   replace k2:(w.drewN nq).cell? ⟨g,2,none⟩=some (.int .i64 m.far):=k2
   replace k5:(w.drewN nq).cell? ⟨g,5,none⟩=some (.slice (some ⟨sg,off,none⟩) m.F.length cf):=k5
   replace hck:(w.drewN nq).cell? ⟨sg,off+n,none⟩=some (.int .i64 v):=hck
   generalize w.drewN nq=V at *
   go_quiet ((go_at_call 105; exact Calls.quiet_of_same (cF.out _)))
   go_wp2
   go_ret2
   rw [RX.out]
   exact ⟨rfl,by obtain ⟨q,hq⟩:=HE.out; exact ⟨_,by rw [hq,World.drewN_drewN]⟩⟩
  ·have d2:decide (0≤j)=false:=by simpa using cj
   rw [if_neg cj] at RX
   obtain rfl:j = -1:=by omega
   go_enter Tryz.func71,Tryz.ntmps71
   go_wp2
   go_quiet ((go_at_call 105; exact Calls.quiet_of_same (cT.out _)))
   go_wp2
   have HE:=hid (show ∃ n,w.drewN nq=w.drewN n from ⟨_,rfl⟩)
   replace k2:(w.drewN nq).cell? ⟨g,2,none⟩=some (.int .i64 m.far):=k2
   replace k5:(w.drewN nq).cell? ⟨g,5,none⟩=some (.slice af m.F.length cf):=k5
   generalize w.drewN nq=V at *
   go_quiet ((go_at_call 105; exact Calls.quiet_of_same (cF.out _)))
   go_wp2
   go_ret2
   rw [RX.out]
   exact ⟨rfl,by obtain ⟨q,hq⟩:=HE.out; exact ⟨_,by rw [hq,World.drewN_drewN]⟩⟩

end Go.Proofs.YtnfgdlkiialnnaaGreatDoor

namespace Go.Proofs.YtnfgdlkiialnnaaGreatDoor
open Go.RowKit

namespace Mc
/-- the lowest 32 bits; a word with a sign -/
def wd (x:Int):Int:=x % 4294967296
def sg (x:Int):Int:=if x < 2147483648 then x else x - 4294967296
structure St where
 regs:List Int
 data:List Int
 pc:Int
 next:Int
 ende:Int
 code:Int
 out:List Int
 steps:Nat
 read:Nat

def reg (st:St) (n:Int):Int:=st.regs.getD (n % 32).toNat 0
def set (n v:Int) (st:St):St:=if n % 32=0 then st else { st with regs:=st.regs.set (n % 32).toNat (wd v) }

def holds (op a b:Int):Bool :=
 if op=5 then decide (a=b) else if op=6 then decide (a≠b) else if op=7 then decide (sg a < sg b) else if op=8 then decide (sg b≤sg a)
 else if op=9 then decide (a < b) else if op=10 then decide (b≤a) else false
def computed (op a b:Int):Int :=
 if op=18 then a+b else if op=19 then a - b else if op=20 then (if sg a < sg b then 1 else 0) else if op=21 then (if a < b then 1 else 0)
 else if op=22 then bits .xor .i64 a b else if op=23 then bits .or .i64 a b else if op=24 then bits .and .i64 a b else 0
def plain (op:Int):Int:=if op=13 then 18 else if op=14 then 20 else if op=15 then 22 else if op=16 then 23 else if op=17 then 24 else 0

def jump (rd dest:Int) (st:St):St:={ set rd (st.pc+4) st with next:=wd dest }
def branch (taken:Bool) (n:Int) (st:St):St:=if taken then { st with next:=wd (st.pc+n) } else st
def load (m:Im.Img) (rd a:Int) (st:St):St :=
 match Im.code m a with
 | some w=>set rd w st
 | none=>if 0≤Im.place m.data st.data.length a then set rd (st.data.getD (Im.place m.data st.data.length a).toNat 0) st else { st with ende:=4 }
def store (m:Im.Img) (a v:Int) (st:St):St :=
 if 0≤Im.place m.data st.data.length a then { st with data:=st.data.set (Im.place m.data st.data.length a).toNat v } else { st with ende:=5 }
def call (ins:List Int) (st:St):St :=
 if reg st 17=0 then { st with ende:=1,code:=sg (reg st 10) }
 else if reg st 17=1 then (if 16≤st.out.length then { st with ende:=6 } else { st with out:=st.out ++ [sg (reg st 10)] })
 else if reg st 17=2 then (if ins.length≤st.read then { st with ende:=6 } else { set 10 (ins.getD st.read 0) st with read:=st.read+1 })
 else { st with ende:=6 }
def doIt (m:Im.Img) (ins:List Int) (op rd rs1 rs2 n:Int) (st:St):St :=
 if op=0 then { st with ende:=3 }
 else if op=1 then set rd (n * 4096) st
 else if op=2 then set rd (n * 4096+st.pc) st
 else if op=3 then jump rd (st.pc+n) st
 else if op=4 then jump rd ((reg st rs1+n) - (reg st rs1+n) % 2) st
 else if 5≤op∧op≤10 then branch (holds op (reg st rs1) (reg st rs2)) n st
 else if op=11 then load m rd (wd (reg st rs1+n)) st
 else if op=12 then store m (wd (reg st rs1+n)) (reg st rs2) st
 else if 13≤op∧op≤17 then set rd (computed (plain op) (reg st rs1) (wd n)) st
 else if op=25 then call ins st
 else set rd (computed op (reg st rs1) (reg st rs2)) st
/-- a step -/
def step (m:Im.Img) (ins:List Int) (st:St):St :=
 match Im.code m st.pc with
 | none=>{ st with steps:=st.steps+1,ende:=2 }
 | some w =>
  let s:=doIt m ins (opOf w) (rdF (formOf w) w) (rs1F (formOf w) w) (rs2F (formOf w) w) (numF (formOf w) w) { st with steps:=st.steps+1,next:=wd (st.pc+4) }
  { s with pc:=s.next }
/-- steps till the run ends -/
def steps (m:Im.Img) (ins:List Int) (fuel:Nat):Nat→St→St
 | 0,st=>st
 | k+1,st=>if st.ende=0∧st.steps < fuel then steps m ins fuel k (step m ins st) else st

end Mc

section
variable {W0 W:World} {b g:Nat} {vin vd vo:Value} {st:Mc.St}
end

theorem grown_hi {w a c:World} {row:Option Nat} (h:w.grownBy a none) (k:a.grownBy c row) (hb:∀ b,row=some b→w.heap.size≤b):w.grownBy c none :=
 ⟨k.os.trans h.os,k.tape.trans h.tape,k.output.trans h.output,Nat.le_trans h.size k.size,fun i hi _ =>
  (k.block i (Nat.lt_of_lt_of_le hi h.size) (fun e=>by have:=hb i e.symm; omega)).trans (h.block i hi (by simp))⟩

section
variable {W0 W W':World} {b g:Nat} {vin vd vo:Value} {st:Mc.St}
end

end Go.Proofs.YtnfgdlkiialnnaaGreatDoor
