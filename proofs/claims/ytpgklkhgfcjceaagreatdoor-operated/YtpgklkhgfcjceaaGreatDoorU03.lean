
import Derived.Test.YtpgklkhgfcjceaaGreatDoorU02
import Derived.OrdersHeld
import Derived.KernelRfl
import Derived.Test.YtpgklkhgfcjceaaGreatDoorRows
import Derived.WalkKit
import Derived.WalkSpells
import Derived.WalkLawsBesides
import Derived.Deep.QuietTactic
import Derived.BigQuiet
import Derived.Lib.Strings
import Derived.Deep.AppendLies
set_option maxHeartbeats 16000000
set_option maxRecDepth 100000
namespace Go.Proofs.YtpgklkhgfcjceaaGreatDoor
namespace At
open As
theorem Does.trans {Ls Ms:List (List It)} {s s' s'':Nat} {o o' o'':Lk.Obj} (h:Does Ls s o s' o') (k:Does Ms s' o' s'' o''):Does (Ls ++ Ms) s o s'' o'':=by
 induction h with
 | nil s o=>exact k
 | cons hL _ ih=>exact .cons hL (ih k)
theorem jl (o:Lk.Obj) (ws:List Int):(more o ws).text.length=o.text.length+ws.length:=List.length_append
def Uu (k:Nat):List It:=[wd 0 ([[97,100,100],[115,117,98],[115,108,116],[115,108,116,117],[120,111,114],[111,114],[97,110,100]].getD k []),wd 1 [120,49,48],sn 44,wd 0 [120,53],sn 44,wd 0 [120,54]]
def wY (k:Nat):Int:=(enc (18+k) 10 5 6 0:Nat)
theorem Ot (k:Nat) (hk:k < 7) (o:Lk.Obj) (h:o.text.length+1<=1200):bn (Uu k) 1 o 1 (more o [wY k]):=by
 rcases (show k=0\/k=1\/k=2\/k=3\/k=4\/k=5\/k=6 by omega) with rfl | rfl | rfl | rfl | rfl | rfl | rfl
 ·exact Ku o h
 ·exact KC o h
 ·exact KA o h
 ·exact Hr o h
 ·exact KE o h
 ·exact Ou o h
 ·exact Kv o h
def val (neg:Bool) (n:Nat):Int:=if neg then -(n:Int) else n
theorem DC (neg:Bool) (t:List UInt8) (n:Nat) (hn:n<=2147483647\/(neg=true/\n<=2147483648)):bn ([wd 0 [95,115,116,97,114,116],sn 58,wd 1 [108,105],wd 1 [120,53],sn 44] ++ zn neg t n) 1 ⟨[],[],[],0,[2,2,2,2],[⟨[95,115,116,97,114,116],1,0,0⟩],[]⟩ 1 (more ⟨[],[],[],0,[2,2,2,2],[⟨[95,115,116,97,114,116],1,1,0⟩],[]⟩ (kP 5 (val neg n))):=by
 cases neg
 ·exact xX t n (by rcases hn with h | h; omega; cases h.1)
 ·exact xW t n (by omega)
theorem Kz (neg:Bool) (t:List UInt8) (n:Nat) (hn:n<=2147483647\/(neg=true/\n<=2147483648)) (o:Lk.Obj) (h:o.text.length+2<=1200):bn ([wd 0 [108,105],wd 1 [120,54],sn 44] ++ zn neg t n) 1 o 1 (more o (kP 6 (val neg n))):=by
 cases neg
 ·exact Dz t n o h (by rcases hn with h | h; omega; cases h.1)
 ·exact Dy t n o h (by omega)
abbrev AL:List Int:=[2,2,2,2]
abbrev S0:Lk.Sym:=⟨[95,115,116,97,114,116],1,1,0⟩
def Jh:List It:=[wd 0 [108,105],wd 1 [120,49,55],sn 44,nm [49] 1]
def Nt:List It:=[wd 0 [108,105],wd 1 [120,49,55],sn 44,nm [48] 0]
def vK:List It:=[wd 0 [108,105],wd 1 [120,49,48],sn 44,nm [49] 1]
def Jg:List It:=[wd 0 [108,105],wd 1 [120,49,48],sn 44,nm [48] 0]
def Qg:List It:=[wd 0 [101,99,97,108,108]]
def Lbr (b l:List UInt8):List It:=[wd 0 b,wd 1 [120,53],sn 44,wd 0 [120,54],sn 44,wd 0 l]
def Lla (l:List UInt8):List It:=[wd 0 l,sn 58,wd 1 [101,99,97,108,108]]
def KR (nx:Bool) (tx:List UInt8) (x:Nat) (ny:Bool) (ty:List UInt8) (y k:Nat):List (List It) :=
 [[wd 0 [46,103,108,111,98,108],wd 1 [95,115,116,97,114,116]],[wd 0 [95,115,116,97,114,116],sn 58,wd 1 [108,105],wd 1 [120,53],sn 44] ++ zn nx tx x,[wd 0 [108,105],wd 1 [120,54],sn 44] ++ zn ny ty y,Uu k,Jh,Qg,vK]
def nE:Int:=(enc 13 17 0 0 1:Nat)
def vM:Int:=(enc 13 17 0 0 0:Nat)
def jZ:Int:=(enc 13 10 0 0 1:Nat)
def iD:Int:=(enc 13 10 0 0 0:Nat)
def q1 (vx vy:Int) (k:Nat):List Int:=kP 5 vx ++ kP 6 vy ++ [wY k] ++ [nE] ++ [115] ++ [jZ]
theorem NV (nx:Bool) (tx:List UInt8) (x:Nat) (ny:Bool) (ty:List UInt8) (y k:Nat) (hx:x<=2147483647\/(nx=true/\x<=2147483648)) (hy:y<=2147483647\/(ny=true/\y<=2147483648)) (hk:k < 7) :
  Does (KR nx tx x ny ty y k) 1 start.obj 1 ⟨q1 (val nx x) (val ny y) k,[],[],0,AL,[S0],[]⟩:=by
 have lx:=kZ 5 (val nx x);have ly:=kZ 6 (val ny y);refine .cons Dx (.cons (DC nx tx x hx) (.cons (Kz ny ty y hy _ ?_) (.cons (Ot k hk _ ?_) (.cons (tJ _ ?_) (.cons (kT _ ?_) (.cons (oZ _ ?_) (.nil _ _)))))))
 all_goals simp only [jl,List.length_nil,List.length_cons]; omega
def zk (b l:List UInt8):List (List It):=[Lbr b l,Jg,Lla l]
theorem NW (q:List Int) (h:q.length<=100):Does (zk [98,108,116] [97] ++ [vK]) 1 ⟨q,[],[],0,AL,[S0],[]⟩ 1 ⟨q ++ [(enc 7 0 5 6 0:Int)] ++ [iD] ++ [115] ++ [jZ],[],[],0,AL,[S0,⟨[97],0,1,4 * ((q ++ [(enc 7 0 5 6 0:Int)] ++ [iD]).length:Int)⟩],[⟨1,4 * (q.length:Int),2,1,0⟩]⟩:=by
 refine .cons (Kw q (by omega)) (.cons (mI _ ?_) (.cons (Uo (q ++ [(enc 7 0 5 6 0:Int)] ++ [iD]) (4 * (q.length:Int)) ?_) (.cons (oZ _ ?_) (.nil _ _))))
 ·simp only [jl,List.length_nil,List.length_cons]; omega
 ·simp only [List.length_append,List.length_nil,List.length_cons]; omega
 ·simp only [jl,List.length_append,List.length_nil,List.length_cons]; omega
theorem NY (q:List Int) (u v:Int) (h:q.length<=100):Does (zk [98,103,101,117] [98] ++ [vK]) 1 ⟨q,[],[],0,AL,[S0,⟨[97],0,1,u⟩],[⟨1,v,2,1,0⟩]⟩ 1 ⟨q ++ [(enc 10 0 5 6 0:Int)] ++ [iD] ++ [115] ++ [jZ],[],[],0,AL,[S0,⟨[97],0,1,u⟩,⟨[98],0,1,4 * ((q ++ [(enc 10 0 5 6 0:Int)] ++ [iD]).length:Int)⟩],[⟨1,v,2,1,0⟩,⟨1,4 * (q.length:Int),2,2,0⟩]⟩:=by
 refine .cons (Hq q u v (by omega)) (.cons (mI _ ?_) (.cons (Uq (q ++ [(enc 10 0 5 6 0:Int)] ++ [iD]) u v (4 * (q.length:Int)) ?_) (.cons (oZ _ ?_) (.nil _ _))))
 ·simp only [jl,List.length_nil,List.length_cons]; omega
 ·simp only [List.length_append,List.length_nil,List.length_cons]; omega
 ·simp only [jl,List.length_append,List.length_nil,List.length_cons]; omega
theorem NZ (q:List Int) (u v x y:Int) (h:q.length<=100):Does (zk [98,110,101] [99]) 1 ⟨q,[],[],0,AL,[S0,⟨[97],0,1,u⟩,⟨[98],0,1,v⟩],[⟨1,x,2,1,0⟩,⟨1,y,2,2,0⟩]⟩ 1 ⟨q ++ [(enc 6 0 5 6 0:Int)] ++ [iD] ++ [115],[],[],0,AL,[S0,⟨[97],0,1,u⟩,⟨[98],0,1,v⟩,⟨[99],0,1,4 * ((q ++ [(enc 6 0 5 6 0:Int)] ++ [iD]).length:Int)⟩],[⟨1,x,2,1,0⟩,⟨1,y,2,2,0⟩,⟨1,4 * (q.length:Int),2,3,0⟩]⟩:=by
 refine .cons (Ky q u v x y (by omega)) (.cons (mI _ ?_) (.cons (Ur (q ++ [(enc 6 0 5 6 0:Int)] ++ [iD]) u v x y (4 * (q.length:Int)) ?_) (.nil _ _)))
 ·simp only [jl,List.length_nil,List.length_cons]; omega
 ·simp only [List.length_append,List.length_nil,List.length_cons]; omega
def KS (ts:List UInt8) (n:Nat):List (List It):=[[wd 0 [97,100,100,105],wd 1 [120,49,48],sn 44,wd 0 [120,53],sn 44,sn 45,nm ts n],Qg,[wd 0 [97,110,100,105],wd 1 [120,49,48],sn 44,wd 0 [120,54],sn 44,nm ts n],Jh,Qg,Jg,Nt,Qg]
theorem N7 (ts:List UInt8) (n:Nat) (hn:n<=2047) (q:List Int) (ys:List Lk.Sym) (rs:List Lk.Rel) (h:q.length<=100):Does (KS ts n) 1 ⟨q,[],[],0,AL,ys,rs⟩ 1 ⟨q ++ [(enc 13 10 5 0 (-(n:Int)):Int)] ++ [115] ++ [(enc 17 10 6 0 (n:Int):Int)] ++ [nE] ++ [115] ++ [iD] ++ [vM] ++ [115],[],[],0,AL,ys,rs⟩:=by
 refine .cons (Hl ts n _ ?_ hn) (.cons (kT _ ?_) (.cons (Ho ts n _ ?_ hn) (.cons (tJ _ ?_) (.cons (kT _ ?_) (.cons (mI _ ?_) (.cons (Ba _ ?_) (.cons (kT _ ?_) (.nil _ _))))))))
 all_goals simp only [jl,List.length_nil,List.length_cons]; omega
end At
end Go.Proofs.YtpgklkhgfcjceaaGreatDoor

namespace Go.Proofs.YtpgklkhgfcjceaaGreatDoor
open Go.RowKit
theorem aW {P:Program} {md:Region.Mode} {ops:Array Oper} {Q:Exit->Act->World->Prop} {S:World->Prop} {i:Nat} {oi:Oper} {v:Value} {fuel:Nat} {listed:Array Bool} {a:Act} {w:World} (hi:ops[i]?=some oi) (hy:∀ w,S w->(execOp a.eval oi).run P w = .ok (.value v) w) (hS:S w) (h:wpAnyH P md ops Q S fuel (listed.setIfInBounds i true) (a.put oi.dst v) w) (hs:Region.noSelect ops=true:=by kernel_rfl) (hf:Region.free md ops listed i=true:=by kernel_rfl) (hr:(Region.ready md ops listed).contains i=true:=by kernel_rfl) (hw:Region.wanted oi (yielded ops a.tmps)=true:=by kernel_rfl) (hQ:∀ c a w,Q (.panic c) (a.put oi.dst v) w->Q (.panic c) a w:=by exact fun _ _ _ h=>h):wpAnyH P md ops Q S (fuel+1) listed a w:=wpAnyH_take hi hs hf hr hQ (Or.inl ⟨hw,hy⟩) hS h
theorem rO {P:Program} {md:Region.Mode} {ops:Array Oper} {Q:Exit->Act->World->Prop} {S:World->Prop} {i:Nat} {oi:Oper} {fuel:Nat} {listed:Array Bool} {a:Act} {w:World} (hi:ops[i]?=some oi) (hS:S w) (h:wpAnyH P md ops Q S fuel (listed.setIfInBounds i true) (a.put oi.dst undef) w) (hs:Region.noSelect ops=true:=by kernel_rfl) (hf:Region.free md ops listed i=true:=by kernel_rfl) (hr:(Region.ready md ops listed).contains i=true:=by kernel_rfl) (hw:Region.wanted oi (yielded ops a.tmps)=false:=by kernel_rfl) (hQ:∀ c a w,Q (.panic c) (a.put oi.dst undef) w->Q (.panic c) a w:=by exact fun _ _ _ h=>h):wpAnyH P md ops Q S (fuel+1) listed a w:=wpAnyH_take hi hs hf hr hQ (Or.inr ⟨hw,rfl⟩) hS h
theorem bL:type_of% @List.getElem?_cons_zero:=@List.getElem?_cons_zero
theorem bJ:type_of% @List.getElem?_toArray:=@List.getElem?_toArray
theorem bN:type_of% @List.getElem?_cons_succ:=@List.getElem?_cons_succ
theorem gF:type_of% @List.set_cons_succ:=@List.set_cons_succ
theorem gG:type_of% @List.set_cons_zero:=@List.set_cons_zero
theorem gH:type_of% @List.setIfInBounds_toArray:=@List.setIfInBounds_toArray
theorem aH:type_of% @Go.World.grownBy_alloc:=@Go.World.grownBy_alloc
theorem eP:type_of% @List.length_append:=@List.length_append
theorem iC:type_of% @List.getElem_mem:=@List.getElem_mem
theorem iV:type_of% @List.length_cons:=@List.length_cons
theorem jW:type_of% @List.getElem?_eq_getElem:=@List.getElem?_eq_getElem
theorem mE:type_of% @List.drop_eq_getElem_cons:=@List.drop_eq_getElem_cons
theorem sU:type_of% @List.length_map:=@List.length_map
theorem qc:type_of% @List.getElem_cons_succ:=@List.getElem_cons_succ
theorem qx:type_of% @List.getElem_cons_zero:=@List.getElem_cons_zero
theorem qE:type_of% @List.getElem_toArray:=@List.getElem_toArray
theorem lQ:type_of% @List.foldl_cons:=@List.foldl_cons
theorem mF:type_of% @List.foldl_nil:=@List.foldl_nil
theorem lN:type_of% @List.getD_eq_getElem?_getD:=@List.getD_eq_getElem?_getD
def Hd (p:Prop):Prop:=p
theorem Hd.o {p:Prop} (h:Hd p):p:=h
def sl (s:ByteArray):List UInt8:=s.data.toList
def bs (l:List UInt8):ByteArray:=⟨l.toArray⟩
theorem yu (s:ByteArray):(sl s).length=s.size:=by unfold sl; rw [Array.length_toList]; rfl
theorem w9 (l:List UInt8):(bs l).size=l.length:=by simp [bs,ByteArray.size]
theorem I4 (l:List UInt8):sl (bs l)=l:=by simp [sl,bs]
theorem ysj (s:ByteArray):bs (sl s)=s:=by simp [sl,bs]
theorem OQ (s:ByteArray) (a b:Nat):s.extract a b=bs (((sl s).drop a).take (b - a)):=Lib.extract_eq s a b
theorem yF {k:IntKind} {a b:Int} (h:a=b):Ending.returned (.int k a) = .returned (.int k b):=by rw [h]
theorem yrg {a b:ByteArray} (h:a=b):Ending.returned (.string a) = .returned (.string b):=by rw [h]
theorem hid {p:Prop} (h:p):Hd p:=h
theorem ya {a b c:World} {row:Option Nat} (h:a.grownBy b row) (k:b.grownBy c row):a.grownBy c row :=
 ⟨k.os.trans h.os,k.tape.trans h.tape,k.output.trans h.output,Nat.le_trans h.size k.size,fun i hi hr=>(k.block i (Nat.lt_of_lt_of_le hi h.size) hr).trans (h.block i hi hr)⟩
theorem ynY {a b:World} {row:Option Nat} (h:a.grownBy b none):a.grownBy b row:=⟨h.os,h.tape,h.output,h.size,fun i hi _=>h.block i hi (by simp)⟩
theorem ye {a b:World} {row:Option Nat} (h:a.grownBy b row) (n:Nat):a.grownBy (b.drewN n) row:=by
 induction n with
 | zero=>exact h
 | succ n ih=>exact ⟨ih.os,ih.tape,ih.output,ih.size,ih.block⟩
theorem Q9 {a b:World} {row:Option Nat} (h:a.grownBy b row) {B:Nat} (hB:B<=a.heap.size) (hr:∀ k,row=some k->B<=k):Below B a b :=
 (Below.refl B a).grown h hB hr
theorem yf (w:World) (b o:Nat) (v:Value):w.grownBy (w.setCell ⟨b,o,none⟩ v) (some b) :=
 ⟨rfl,rfl,rfl,by simp [World.setCell],fun k _ hr=>Below.heap_setCell _ _ _ _ (by simpa using hr)⟩
theorem Zg (w:World) (n:Nat):(w.drewN n).heap=w.heap:=by
 induction n with
 | zero=>rfl
 | succ n ih=>exact ih
def bF (w:World) (b:Nat) (s:ByteArray) (p:Nat) (sh:Bool):Prop :=
 w.heap[b]?=some (.cells #[.string s,.int .i64 p,.bool sh] 83 (0,0))
theorem bF.lt {w:World} {b:Nat} {s:ByteArray} {p:Nat} {sh:Bool} (h:bF w b s p sh):b < w.heap.size:=(Array.getElem?_eq_some_iff.1 h).1
theorem bF.c0 {w:World} {b:Nat} {s:ByteArray} {p:Nat} {sh:Bool} (h:bF w b s p sh):w.cell? ⟨b,0,none⟩=some (.string s):=by simp [World.cell?,show w.heap[b]?=_ from h]
theorem bF.c1 {w:World} {b:Nat} {s:ByteArray} {p:Nat} {sh:Bool} (h:bF w b s p sh):w.cell? ⟨b,1,none⟩=some (.int .i64 p):=by simp [World.cell?,show w.heap[b]?=_ from h]
theorem bF.c2 {w:World} {b:Nat} {s:ByteArray} {p:Nat} {sh:Bool} (h:bF w b s p sh):w.cell? ⟨b,2,none⟩=some (.bool sh):=by simp [World.cell?,show w.heap[b]?=_ from h]
theorem bF.free {w:World} {b:Nat} {s:ByteArray} {p:Nat} {sh:Bool} (h:bF w b s p sh) (o:Nat):w.frozen? ⟨b,o,none⟩=false:=by simp [World.frozen?,show w.heap[b]?=_ from h]
theorem bF.grown {w w':World} {b:Nat} {s:ByteArray} {p:Nat} {sh:Bool} (h:bF w b s p sh) {row:Option Nat} (hg:w.grownBy w' row) (hne:some b≠row):bF w' b s p sh :=
 (hg.block b h.lt hne).trans h
theorem bF.drewN {w:World} {b:Nat} {s:ByteArray} {p:Nat} {sh:Bool} (h:bF w b s p sh) (n:Nat):bF (w.drewN n) b s p sh:=by
 unfold bF; rw [Zg]; exact h
theorem OT {w:World} {b o:Nat} {cs:Array Value} {t:TypeId} (h:w.heap[b]?=some (.cells cs t (0,0))) (v:Value) :
  (w.setCell ⟨b,o,none⟩ v).heap[b]?=some (.cells (cs.setIfInBounds o v) t (0,0)):=by
 simp [World.setCell,Array.getElem?_modify,h]
theorem bF.set1 {w:World} {b:Nat} {s:ByteArray} {p:Nat} {sh:Bool} (h:bF w b s p sh) (q:Nat):bF (w.setCell ⟨b,1,none⟩ (.int .i64 q)) b s q sh:=by
 have:=OT (o:=1) h (.int .i64 q)
 simpa [bF] using this
theorem bF.set2 {w:World} {b:Nat} {s:ByteArray} {p:Nat} {sh:Bool} (h:bF w b s p sh) (q:Bool):bF (w.setCell ⟨b,2,none⟩ (.bool q)) b s p q:=by
 have:=OT (o:=2) h (.bool q)
 simpa [bF] using this
theorem Rp (b:Nat) (s:ByteArray) (p:Nat) (sh:Bool) (w:World) (h:bF w b s p sh) :
  Calls Tryz.prog 222 #[.pointer (some ⟨b,0,none⟩)] w fun e w'=>e = .returned (.bool sh)/\w'=w:=by
 have h2:=h.c2;clear h;go_enter Tryz.func222,Tryz.ntmps222;go_wp2;go_ret;exact ⟨rfl,rfl⟩
theorem Vy (b:Nat) (s:ByteArray) (p:Nat) (sh:Bool) (w:World) (h:bF w b s p sh) :
  Calls Tryz.prog 45 #[.pointer (some ⟨b,0,none⟩)] w fun e w'=>e = .returned (.bool (!sh && decide (p=s.size)))/\∃ k,w'=w.drewN k:=by
 have h0:=h.c0;have h1:=h.c1;have h2:=h.c2;clear h
 cases sh
 ·go_enter Tryz.func45,Tryz.ntmps45;go_wp2
  go_quiet (fail)
  go_wp2;go_ret;refine ⟨?_,_,rfl⟩
  have:((p:Int) == (s.size:Int))=decide (p=s.size):=by rw [Bool.eq_iff_iff]; simp; omega
  simp [this]
 ·go_enter Tryz.func45,Tryz.ntmps45;go_wp2
  go_quiet (fail)
  go_wp2;go_ret;exact ⟨rfl,_,rfl⟩
theorem yqi (b:Nat) (s:ByteArray) (p n:Nat) (sh:Bool) (w:World) (h:bF w b s p sh)
  (hs:s.size<=1048576) (hp:p<=s.size) (hn:n<=s.size - p) :
  Calls Tryz.prog 77 #[.pointer (some ⟨b,0,none⟩),.int .i64 n] w fun e w'=>e = .returned (.string (bs (Lk.aF (sl s) n (p,sh)).1))/\bF w' b s (Lk.aF (sl s) n (p,sh)).2.1 (Lk.aF (sl s) n (p,sh)).2.2/\w.grownBy w' (some b):=by
 have e1:Lk.aF (sl s) n (p,sh)=(((sl s).drop p).take n,(p+n,sh)):=by
  unfold Lk.aF; rw [if_pos (by rw [yu]; exact hn)]
 rw [e1];clear e1;have h0:=h.c0;have h1:=h.c1;have f1:=h.free 1;have R:Hd (bF w b s p sh):=h;clear h;have g1:(0:Int)<=n:=by omega
 have g2:(n:Int)<=(s.size:Int) - p:=by omega
 have g3:(p:Int)+n<=s.size:=by omega
 have hd:decide ((n:Int) < 0)=false:=by simp
 go_enter Tryz.func77,Tryz.ntmps77;go_wp2
 go_quiet (fail)
 go_wp2
 go_quiet (fail)
 go_wp2;go_ret;refine ⟨yrg ?_,?_,?_⟩
 ·rw [OQ,Nat.add_sub_cancel_left]
 ·exact ((R.o.drewN _).set1 (p+n)).drewN _
 ·exact ye (ya (ye (World.grownBy.refl _ _) _) (yf _ _ _ _)) _
theorem yrj (b:Nat) (s:ByteArray) (p n:Nat) (sh:Bool) (w:World) (h:bF w b s p sh)
  (_hs:s.size<=1048576) (_hp:p<=s.size) (_hm:n<=1048576) (hn:s.size - p < n) :
  Calls Tryz.prog 77 #[.pointer (some ⟨b,0,none⟩),.int .i64 n] w fun e w'=>e = .returned (.string (bs (Lk.aF (sl s) n (p,sh)).1))/\bF w' b s (Lk.aF (sl s) n (p,sh)).2.1 (Lk.aF (sl s) n (p,sh)).2.2/\w.grownBy w' (some b):=by
 have e1:Lk.aF (sl s) n (p,sh)=([],(p,true)):=by
  unfold Lk.aF; rw [if_neg (by rw [yu]; omega)]
 rw [e1];clear e1;have h0:=h.c0;have h1:=h.c1;have h2:=h.c2;have f2:=h.free 2;have R:Hd (bF w b s p sh):=h;clear h;have g1:(0:Int)<=n:=by omega
 have g2:(s.size:Int) - p < n:=by omega
 have hd:decide ((n:Int) < 0)=false:=by simp
 go_enter Tryz.func77,Tryz.ntmps77;go_wp2
 go_quiet (fail)
 go_wp2;go_ret;refine ⟨rfl,?_,?_⟩
 ·exact (R.o.drewN _).set2 true
 ·exact ya (ye (World.grownBy.refl _ _) _) (yf _ _ _ _)
theorem Z7 (b:Nat) (s:ByteArray) (p n:Nat) (sh:Bool) (w:World) (h:bF w b s p sh)
  (hs:s.size<=1048576) (hp:p<=s.size) (hm:n<=1048576) :
  Calls Tryz.prog 77 #[.pointer (some ⟨b,0,none⟩),.int .i64 n] w fun e w'=>e = .returned (.string (bs (Lk.aF (sl s) n (p,sh)).1))/\bF w' b s (Lk.aF (sl s) n (p,sh)).2.1 (Lk.aF (sl s) n (p,sh)).2.2/\w.grownBy w' (some b):=by
 by_cases hn:n<=s.size - p
 ·exact yqi b s p n sh w h hs hp hn
 ·exact yrj b s p n sh w h hs hp hm (by omega)
theorem yiY (l:List UInt8) (k:Nat) (hk:k < l.length):Lk.num (l.take (k+1))=Lk.num (l.take k)+(l[k].toNat:Int) * (256:Int) ^ k:=by
 rw [List.take_succ_eq_append_getElem hk,Lk.y7,List.length_take_of_le (by omega)];simp [Lk.num,Int.mul_comm]
theorem VQ (k:Nat) (h:k<=4):1<=(256:Int) ^ k/\(256:Int) ^ k<=4294967296:=by
 rcases (show k=0\/k=1\/k=2\/k=3\/k=4 from by omega) with rfl | rfl | rfl | rfl | rfl <;> decide
theorem ypN (part:List UInt8) (k:Nat) (hk:k < part.length) (h4:part.length<=4) (h':k < (bs part).size) :
  wrap64 (Lk.num (part.take k)+wrap64 (wrap64 (((bs part)[k]'h').toNat:Int) * (256:Int) ^ k))=Lk.num (part.take (k+1)):=by
 have b1:=Lk.num_nonneg (part.take k);have b2:=Lk.qZ (part.take k);rw [List.length_take_of_le (by omega)] at b2;have b3:=VQ k (by omega);have hts:=yiY part k hk;have e0:(((bs part)[k]'h').toNat:Int)=((part[k]'hk).toNat:Int):=rfl;have hb:((part[k]'hk).toNat:Int) < 256:=by have:=(part[k]'hk).toNat_lt; omega
 rw [e0];generalize hc:((part[k]'hk).toNat:Int)=c at hb hts;have hb0:(0:Int)<=c:=by omega
 have m1:c * (256:Int) ^ k<=255 * 4294967296:=Int.mul_le_mul (by omega) b3.2 (by omega) (by omega);have m0:(0:Int)<=c * (256:Int) ^ k:=Int.mul_nonneg hb0 (by omega);rw [IntWalk.wrap64_in c ⟨by omega,by omega⟩,IntWalk.wrap64_in (c * (256:Int) ^ k) ⟨by omega,by omega⟩,IntWalk.wrap64_in _ ⟨by omega,by omega⟩,hts]
theorem Zo (b:Nat) (s:ByteArray) (p n:Nat) (sh:Bool) (w:World) (h:bF w b s p sh)
  (hs:s.size<=1048576) (hp:p<=s.size) (hm:n<=4) :
  Calls Tryz.prog 78 #[.pointer (some ⟨b,0,none⟩),.int .i64 n] w fun e w'=>e = .returned (.int .i64 (Lk.rdNum (sl s) n (p,sh)).1)/\bF w' b s (Lk.rdNum (sl s) n (p,sh)).2.1 (Lk.rdNum (sl s) n (p,sh)).2.2/\w.grownBy w' (some b):=by
 have c:=Z7 b s p n sh w h hs hp (by omega);unfold Lk.rdNum;have hl:(Lk.aF (sl s) n (p,sh)).1.length<=4:=by
  unfold Lk.aF;split
  ·simp; omega
  ·simp
 generalize Lk.aF (sl s) n (p,sh)=r at c hl;obtain ⟨part,st⟩:=r;simp only at c hl ⊢;clear h;have C:=hid c;clear c;go_enter Tryz.func78,Tryz.ntmps78;go_wp2_with fail;refine C.o.mono ?_;rintro e w' ⟨rfl,hr,hg⟩;have R:Hd (bF w' b s st.1 st.2/\w.grownBy w' (some b)):=⟨hr,hg⟩
 clear hr hg C;go_wp2_with fail;have hz:=w9 part
 go_loop [6,7,8] (fun t u i=>∃ k:Nat,k<=part.length/\i = .int .i64 k/\u = .int .i64 ((256:Int) ^ k)/\t = .int .i64 (Lk.num (part.take k))) (fun _ _ i=>part.length - (intOf i).toNat)
 case atStart=>exact ⟨0,Nat.zero_le _,rfl,rfl,rfl⟩
 case round =>
  obtain ⟨k,hk,rfl,rfl,rfl⟩:=hrel;have b1:=Lk.num_nonneg (part.take k);have b2:=Lk.qZ (part.take k);rw [List.length_take_of_le hk] at b2;have b3:=VQ k (by omega);by_cases hlt:k < part.length
  ·have hlt':k < (bs part).size:=by omega
   go_wp2
   go_round
   case rel=>exact ⟨k+1,by omega,by go_num,by rw [Int.pow_succ],by rw [ypN part k hlt hl]⟩
   case measure=>simp [intOf]; omega
  ·go_wp2;go_ret;exact ⟨yF (by rw [List.take_of_length_le (by omega)]),R.o.1,R.o.2⟩
theorem Tryz.kW:(Tryz.prog.info? 3).map (fun i=>(i.zero,i.size,i.bytes))=some (some (.int .i64 0),1,8):=by kernel_rfl
theorem Tryz.zI:(Tryz.prog.info? 100).map (fun i=>(i.zero,i.size,i.bytes))=some (some (.agg #[.string ⟨#[]⟩,.int .i64 0,.int .i64 0,.int .i64 0]),4,40):=by kernel_rfl
theorem Tryz.uw:(Tryz.prog.info? 102).map (fun i=>(i.zero,i.size,i.bytes))=some (some (.agg #[.int .i64 0,.int .i64 0,.int .i64 0,.int .i64 0,.int .i64 0]),5,40):=by kernel_rfl
theorem Li (l:List UInt8) (n:Nat) (st:Lk.St) (h:st.1<=l.length):(Lk.aF l n st).2.1<=l.length:=by
 unfold Lk.aF; split <;> simp <;> omega
theorem yE (l:List UInt8) (n:Nat) (st:Lk.St) (h:st.1<=l.length):(Lk.rdNum l n st).2.1<=l.length:=Li l n st h
theorem II {w wr w1:World} {b:Nat} {row:Option Nat} (h:w.grownBy wr (some b)) (k:wr.grownBy w1 row) (hr:∀ g,row=some g->w.heap.size<=g):w.grownBy w1 (some b) :=
 ⟨k.os.trans h.os,k.tape.trans h.tape,k.output.trans h.output,Nat.le_trans h.size k.size,fun i hi hn =>
  (k.block i (Nat.lt_of_lt_of_le hi h.size) (fun e=>by have:=hr i e.symm; omega)).trans (h.block i hi hn)⟩
theorem ymn {w wr w1:World} {o:Obj} {b:Nat} {s:ByteArray} {p:Nat} {sh:Bool} {row:Option Nat} (hb:b < w.heap.size) (hg:w.grownBy wr (some b)) (hr:bF wr b s p sh) (hk:(wr.alloc o).grownBy w1 row) (hrow:∀ g,row=some g->w.heap.size<=g) :
  bF w1 b s p sh/\w.grownBy w1 (some b):=by
 have h1:wr.grownBy (wr.alloc o) none:=aH wr o none;refine ⟨(hr.grown h1 (by simp)).grown hk (fun e=>by have:=hrow b e.symm; omega),?_⟩;exact II (II hg h1 (by simp)) hk hrow
theorem Lc {w w':World} {base:Nat} {e:TypeId} {size:Nat} {v:Value} {n:Nat} {xs:List Value} {b:Nat} (h:w.ownsRow base e size v n xs) (hb:b < base) (hg:w.grownBy w' (some b)):w'.ownsRow base e size v n xs :=
 h.kept hg (by
  cases hv:v.ownBlock with
  | none=>exact .inl rfl
  | some g=>right; have:=(h.lt g hv).1; simp; omega)
theorem ylC (l:List UInt8) (n:Nat) (st:Lk.St) (h:n<=4):0<=(Lk.rdNum l n st).1/\(Lk.rdNum l n st).1 < 4294967296:=by
 unfold Lk.rdNum;have h1:=Lk.num_nonneg (Lk.aF l n st).1;have h2:=Lk.qZ (Lk.aF l n st).1;have hl:(Lk.aF l n st).1.length<=4:=by
  unfold Lk.aF;split
  ·simp; omega
  ·simp
 have:=VQ _ hl
 exact ⟨h1,by omega⟩
theorem yhu (b:Nat) (s:ByteArray) (p count size:Nat) (sh:Bool) (w:World) (h:bF w b s p sh)
  (hs:s.size<=1048576) (hp:p<=s.size) (hc:count<=65535) (hm:size<=4) :
  Calls Tryz.prog 79 #[.pointer (some ⟨b,0,none⟩),.int .i64 count,.int .i64 size] w fun e w'=>∃ v,e = .returned v /\
   w'.ownsRow w.heap.size 3 1 v (Lk.aR (sl s) size count (p,sh)).1.length ((Lk.aR (sl s) size count (p,sh)).1.map (Value.int .i64)) /\
   bF w' b s (Lk.aR (sl s) size count (p,sh)).2.1 (Lk.aR (sl s) size count (p,sh)).2.2/\w.grownBy w' (some b):=by
 obtain ⟨i0,hi,hz0,hz1,hz2⟩:=info_parts Tryz.kW;have hb:=h.lt;have H:=hid h;clear h;go_enter Tryz.func79,Tryz.ntmps79;go_wp2_with fail
 go_loopw [7,8] (fun v i wr=>∃ (k:Nat) (acc:List Int) (st:Lk.St),k<=count/\i = .int .i64 k/\acc.length=k/\st.1<=s.size /\
   wr.ownsRow w.heap.size 3 1 v acc.length (acc.map (Value.int .i64))/\bF wr b s st.1 st.2/\w.grownBy wr (some b) /\
   Lk.aR (sl s) size count (p,sh)=(acc ++ (Lk.aR (sl s) size (count - k) st).1,(Lk.aR (sl s) size (count - k) st).2)) (fun _ i _=>count - (intOf i).toNat)
 case atStart=>exact ⟨0,[],(p,sh),Nat.zero_le _,rfl,rfl,hp,World.ownsRow_nil _ _ _ _,H.o,World.grownBy.refl _ _,by simp⟩
 case round =>
  obtain ⟨k,acc,st,hk,rfl,hacc,hst,hown,hrd,hgr,heq⟩:=hrel;have HE:=hid heq;have HA:=hid hacc;clear heq;by_cases hlt:k < count
  ·cases hsh:st.2
   ·rw [hsh] at hrd;have hsu:count - k=(count - (k+1))+1:=by omega
    have hnb:=ylC (sl s) size (st.1,false) hm;have hle:=yE (sl s) size (st.1,false) (by rw [yu]; exact hst);have cN:=hid (Zo b s st.1 size false wr hrd hs hst hm);have HN:=hid (show Lk.aR (sl s) size (count - k) st=((Lk.rdNum (sl s) size (st.1,false)).1 :: (Lk.aR (sl s) size (count - (k+1)) (Lk.rdNum (sl s) size (st.1,false)).2).1,(Lk.aR (sl s) size (count - (k+1)) (Lk.rdNum (sl s) size (st.1,false)).2).2) from by
     rw [hsu];have e:st=(st.1,false):=Prod.ext rfl hsh;rw [e]; rfl)
    rw [yu] at hle;clear hsu hsh;generalize Lk.rdNum (sl s) size (st.1,false)=r at *;obtain ⟨x,st'⟩:=r;simp only at cN HN hnb hle;have k2:=hrd.c2;have HR:=hid hrd;clear hrd;have Db:acc.length<=65535:=by omega
    go_wp2_with fail;refine cN.o.mono ?_;rintro e w2 ⟨rfl,wh,iF⟩;have hown2:=Lc hown hb iF;have qO:=ya hgr iF;have HR2:=hid wh;have HG2:=hid qO;have hsz:=qO.size;clear wh iF qO hown hgr HR k2 cN;go_wp2_with (at_builtin; refine wpList_append_own _ rfl _ _ 35 rfl w.heap.size 3 i0 (.int .i64 0) 1 8 Tryz.underlying35 hi hz0 hz1 hz2 rfl (by decide) _ _ _ rfl (hown2.alloc _) ⟨w2.heap.size,0,none⟩ 1 1 [.int .i64 x] rfl rfl (cell_one_new _ _ _) (by intro u hu; simp at hu; subst hu; rfl) (by unfold maxLen; omega) (by omega) (by simp; omega) ?_; intro v' w3 hown' hgrow _)
    have K:=ymn hb HG2.o HR2.o hgrow (fun g hg=>(hown2.lt g hg).1);clear hgrow hown2;go_wp2
    go_roundw
    case rel =>
     refine ⟨k+1,acc ++ [x],st',by omega,by go_num,by simp [HA.o],hle,?_,K.1,K.2,?_⟩
     ·simpa using hown'
     ·rw [HE.o,HN.o]; simp
    case measure=>simp [intOf]; omega
   ·rw [hsh] at hrd;have hfin:Lk.aR (sl s) size count (p,sh)=(acc,(st.1,true)):=by
     have hsu:count - k=(count - (k+1))+1:=by omega
     rw [HE.o,hsu];have e:st=(st.1,true):=Prod.ext rfl hsh;rw [e];simp [Lk.aR]
    have HF:=hid hfin;clear hfin hsh HE;have k2:=hrd.c2;have HR:=hid hrd;clear hrd;go_wp2;go_ret;rw [HF.o];exact ⟨_,rfl,hown,HR.o,hgr⟩
  ·have hfin:Lk.aR (sl s) size count (p,sh)=(acc,st):=by
    have hsu:count - k=0:=by omega
    rw [HE.o,hsu];simp [Lk.aR]
   have HF:=hid hfin;clear hfin HE;have HR:=hid hrd;clear hrd;have hd:decide ((k:Int) < (count:Int))=false:=by simp; omega
   go_wp2;go_ret;rw [HF.o];exact ⟨_,rfl,hown,HR.o,hgr⟩
def yc (w:World) (g:Nat) (cs:Array Value) (t:TypeId):Prop:=w.heap[g]?=some (.cells cs t (0,0))
section
variable {w w':World} {g:Nat} {cs:Array Value} {t:TypeId}
theorem yc.lt (h:yc w g cs t):g < w.heap.size:=(Array.getElem?_eq_some_iff.1 h).1
theorem yc.cell (h:yc w g cs t) (o:Nat):w.cell? ⟨g,o,none⟩=cs[o]?:=by simp [World.cell?,show w.heap[g]?=_ from h]
theorem yc.free (h:yc w g cs t) (o:Nat):w.frozen? ⟨g,o,none⟩=false:=by simp [World.frozen?,show w.heap[g]?=_ from h]
theorem yc.set (h:yc w g cs t) (o:Nat) (v:Value):yc (w.setCell ⟨g,o,none⟩ v) g (cs.setIfInBounds o v) t:=OT h v
theorem yc.grown (h:yc w g cs t) {row:Option Nat} (hg:w.grownBy w' row) (hne:some g≠row):yc w' g cs t:=(hg.block g h.lt hne).trans h
theorem yc.new (w:World) (cs:Array Value) (t:TypeId):yc (w.alloc (.cells cs t)) w.heap.size cs t:=heap_alloc_new w _
theorem yc.drewN (h:yc w g cs t) (n:Nat):yc (w.drewN n) g cs t:=by unfold yc; rw [Zg]; exact h
end
theorem Calls.aK {P:Program} {f:Nat} {args:Array Value} {w:World} {K:Ending->World->Prop} (R:World->Prop) (hR:R w) (h:∀ w,R w->Calls P f args w K):Calls P f args w K:=h w hR
structure rM (w:World) (b:Nat) (s:ByteArray) (t:TypeId) (zs:Array Value) (p:Nat) (sh:Bool) (cs:Array Value) (W:World):Prop where
 rd:bF W b s p sh
 own:yc W (w.heap.size+1) cs t
 res:yc W w.heap.size zs t
 gr:w.grownBy W (some b)
section
variable {w W W':World} {b:Nat} {s:ByteArray} {t:TypeId} {zs cs:Array Value} {p p':Nat} {sh sh':Bool}
theorem rM.begin (h:bF w b s p sh):rM w b s t zs p sh cs ((w.alloc (.cells zs t)).alloc (.cells cs t)):=by
 refine ⟨(h.grown (aH w _ none) (by simp)).grown (aH _ _ none) (by simp),?_,?_,?_⟩
 ·have:=yc.new (w.alloc (.cells zs t)) cs t
  simpa using this
 ·exact (yc.new w zs t).grown (aH _ _ none) (by simp)
 ·exact ya (aH _ _ _) (aH _ _ _)
theorem rM.call (h:rM w b s t zs p sh cs W) (hb:b < w.heap.size) (hr:bF W' b s p' sh') (hg:W.grownBy W' (some b)):rM w b s t zs p' sh' cs W' :=
 ⟨hr,h.own.grown hg (by simp; omega),h.res.grown hg (by simp; omega),ya h.gr hg⟩
theorem rM.store (h:rM w b s t zs p sh cs W) (hb:b < w.heap.size) (o:Nat) (v:Value):rM w b s t zs p sh (cs.setIfInBounds o v) (W.setCell ⟨w.heap.size+1,o,none⟩ v) :=
 ⟨h.rd.grown (yf W (w.heap.size+1) o v) (by simp; omega),h.own.set o v,h.res.grown (yf W (w.heap.size+1) o v) (by simp),II h.gr (yf W (w.heap.size+1) o v) (by simp)⟩
theorem rM.put (h:rM w b s t zs p sh cs W) (hb:b < w.heap.size) (o:Nat) (v:Value):rM w b s t (zs.setIfInBounds o v) p sh cs (W.setCell ⟨w.heap.size,o,none⟩ v) :=
 ⟨h.rd.grown (yf W w.heap.size o v) (by simp; omega),h.own.grown (yf W w.heap.size o v) (by simp),h.res.set o v,II h.gr (yf W w.heap.size o v) (by simp)⟩
end
theorem yL (b:Nat) (s:ByteArray) (p n:Nat) (m:Int) (hmn:m=(n:Int)) (sh:Bool) (w:World) (h:bF w b s p sh)
  (hs:s.size<=1048576) (hp:p<=s.size) (hm:n<=4) :
  Calls Tryz.prog 78 #[.pointer (some ⟨b,0,none⟩),.int .i64 m] w fun e w'=>e = .returned (.int .i64 (Lk.rdNum (sl s) n (p,sh)).1)/\bF w' b s (Lk.rdNum (sl s) n (p,sh)).2.1 (Lk.rdNum (sl s) n (p,sh)).2.2/\w.grownBy w' (some b):=by
 subst hmn; exact Zo b s p n sh w h hs hp hm
theorem Le (b:Nat) (s:ByteArray) (p n:Nat) (m:Int) (hmn:m=(n:Int)) (sh:Bool) (w:World) (h:bF w b s p sh)
  (hs:s.size<=1048576) (hp:p<=s.size) (hm:n<=1048576) :
  Calls Tryz.prog 77 #[.pointer (some ⟨b,0,none⟩),.int .i64 m] w fun e w'=>e = .returned (.string (bs (Lk.aF (sl s) n (p,sh)).1))/\bF w' b s (Lk.aF (sl s) n (p,sh)).2.1 (Lk.aF (sl s) n (p,sh)).2.2/\w.grownBy w' (some b):=by
 subst hmn; exact Z7 b s p n sh w h hs hp hm
theorem ypU (a d:Nat):(256:Int) ^ a<=(256:Int) ^ (a+d):=by
 induction d with
 | zero=>simp
 | succ d ih =>
  have h1:=Int.pow_succ (256:Int) (a+d);have hp:(0:Int) < 256 ^ (a+d):=Int.pow_pos (by decide);rw [<- Nat.add_assoc,h1];omega
theorem yS (l:List UInt8) (n:Nat) (st:Lk.St):0<=(Lk.rdNum l n st).1/\(Lk.rdNum l n st).1 < (256:Int) ^ n:=by
 unfold Lk.rdNum;refine ⟨Lk.num_nonneg _,?_⟩;have h2:=Lk.qZ (Lk.aF l n st).1;have hl:(Lk.aF l n st).1.length<=n:=by
  unfold Lk.aF;split
  ·simp; omega
  ·simp
 have hm:=ypU (Lk.aF l n st).1.length (n - (Lk.aF l n st).1.length);rw [Nat.add_sub_cancel' hl] at hm;omega
theorem yii (b:Nat) (s:ByteArray) (p:Nat) (sh:Bool) (w:World) (h:bF w b s p sh)
  (hs:s.size<=1048576) (hp:p<=s.size) :
  Calls Tryz.prog 223 #[.pointer (some ⟨b,0,none⟩)] w fun e w' =>
   e = .returned (.agg #[.string (bs (Lk.dR (sl s) (p,sh)).1.name),.int .i64 (Lk.dR (sl s) (p,sh)).1.bind,.int .i64 (Lk.dR (sl s) (p,sh)).1.ah,.int .i64 (Lk.dR (sl s) (p,sh)).1.off]) /\
   bF w' b s (Lk.dR (sl s) (p,sh)).2.1 (Lk.dR (sl s) (p,sh)).2.2/\w.grownBy w' (some b):=by
 have hb:=h.lt;have hlen:=yu s;unfold Lk.dR;simp only;have ba:=yS (sl s) 1 (p,sh);have la:=yE (sl s) 1 (p,sh) (by rw [hlen]; exact hp);have c1:=fun W h=>yL b s p 1 1 rfl sh W h hs hp (by omega)
 generalize Lk.rdNum (sl s) 1 (p,sh)=a at *;obtain ⟨len,p1,s1⟩:=a;rw [hlen] at la;simp only [Int.reducePow] at *;have lt:=Li (sl s) len.toNat (p1,s1) (by rw [hlen]; exact la)
 have c2:=fun W h=>Le b s p1 len.toNat len (by omega) s1 W h hs la (by omega)
 generalize Lk.aF (sl s) len.toNat (p1,s1)=t at *;obtain ⟨name,p2,s2⟩:=t;rw [hlen] at lt;simp only at *;have lb:=yE (sl s) 1 (p2,s2) (by rw [hlen]; exact lt);have c3:=fun W h=>yL b s p2 1 1 rfl s2 W h hs lt (by omega)
 generalize Lk.rdNum (sl s) 1 (p2,s2)=x3 at *;obtain ⟨bind,p3,s3⟩:=x3;rw [hlen] at lb;simp only at *;have lc:=yE (sl s) 1 (p3,s3) (by rw [hlen]; exact lb);have c4:=fun W h=>yL b s p3 1 1 rfl s3 W h hs lb (by omega)
 generalize Lk.rdNum (sl s) 1 (p3,s3)=x4 at *;obtain ⟨ah,p4,s4⟩:=x4;rw [hlen] at lc;simp only at *;have c5:=fun W h=>yL b s p4 2 2 rfl s4 W h hs lc (by omega)
 generalize Lk.rdNum (sl s) 2 (p4,s4)=x5 at *;obtain ⟨off,p5,s5⟩:=x5;simp only at *;replace c1:=hid c1;replace c2:=hid c2;replace c3:=hid c3;replace c4:=hid c4;replace c5:=hid c5;have H:=hid h;clear h hlen;go_enter Tryz.func223,Tryz.ntmps223;go_wp2_with fail;refine Calls.aK (rM w b s 100 #[.string ⟨#[]⟩,.int .i64 0,.int .i64 0,.int .i64 0] p sh #[.string ⟨#[]⟩,.int .i64 0,.int .i64 0,.int .i64 0]) (rM.begin H.o) ?_;intro W1 h1;refine (c1.o W1 h1.rd).mono ?_;rintro e W2 ⟨rfl,r2,q2⟩;have S2:=hid (h1.call hb r2 q2);clear r2 q2 h1;go_wp2_with fail;refine (c2.o W2 S2.o.rd).mono ?_;rintro e W3 ⟨rfl,r3,q3⟩
 have S3:=hid (S2.o.call hb r3 q3);have k3:=S3.o.own.cell 0;have f3:=S3.o.own.free 0;clear r3 q3 S2;go_wp2_with fail;refine Calls.aK (rM w b s 100 #[.string ⟨#[]⟩,.int .i64 0,.int .i64 0,.int .i64 0] p2 s2 #[.string (bs name),.int .i64 0,.int .i64 0,.int .i64 0]) (S3.o.store hb 0 _) ?_;clear k3 f3 S3 W3;intro W3 h3;refine (c3.o W3 h3.rd).mono ?_;rintro e W4 ⟨rfl,r4,q4⟩;have S4:=hid (h3.call hb r4 q4);have k4:=S4.o.own.cell 1;have f4:=S4.o.own.free 1;clear r4 q4 h3;go_wp2_with fail;refine Calls.aK (rM w b s 100 #[.string ⟨#[]⟩,.int .i64 0,.int .i64 0,.int .i64 0] p3 s3 #[.string (bs name),.int .i64 bind,.int .i64 0,.int .i64 0]) (S4.o.store hb 1 _) ?_
 clear k4 f4 S4 W4;intro W4 h4;refine (c4.o W4 h4.rd).mono ?_;rintro e W5 ⟨rfl,r5,q5⟩;have S5:=hid (h4.call hb r5 q5);have k5:=S5.o.own.cell 2;have f5:=S5.o.own.free 2;clear r5 q5 h4;go_wp2_with fail;refine Calls.aK (rM w b s 100 #[.string ⟨#[]⟩,.int .i64 0,.int .i64 0,.int .i64 0] p4 s4 #[.string (bs name),.int .i64 bind,.int .i64 ah,.int .i64 0]) (S5.o.store hb 2 _) ?_;clear k5 f5 S5 W5;intro W5 h5;refine (c5.o W5 h5.rd).mono ?_;rintro e W6 ⟨rfl,r6,q6⟩;have S6:=hid (h5.call hb r6 q6);have k60:=S6.o.own.cell 0;have k61:=S6.o.own.cell 1;have k62:=S6.o.own.cell 2;have k63:=S6.o.own.cell 3;have f63:=S6.o.own.free 3
 have m60:=S6.o.res.cell 0;have m61:=S6.o.res.cell 1;have m62:=S6.o.res.cell 2;have m63:=S6.o.res.cell 3;have n60:=S6.o.res.free 0;have n61:=S6.o.res.free 1;have n62:=S6.o.res.free 2;have n63:=S6.o.res.free 3;clear r6 q6 h5;go_wp2;have F:=((((S6.o.store hb 3 (.int .i64 off)).put hb 0 (.string (bs name))).put hb 1 (.int .i64 bind)).put hb 2 (.int .i64 ah)).put hb 3 (.int .i64 off);refine bodyPost_ret (v:=.agg #[.string (bs name),.int .i64 bind,.int .i64 ah,.int .i64 off]) ?_ rfl ⟨rfl,F.rd,F.gr⟩;have e0:=F.res.cell 0;have e1:=F.res.cell 1;have e2:=F.res.cell 2;have e3:=F.res.cell 3;clear S6 k60 k61 k62 k63 f63 m60 m61 m62 m63 n60 n61 n62 n63
 generalize World.setCell _ _ _=WF at *;simp [results,Tryz.results223,go_sem,e0,e1,e2,e3]
theorem yjc (b:Nat) (s:ByteArray) (p:Nat) (sh:Bool) (w:World) (h:bF w b s p sh)
  (hs:s.size<=1048576) (hp:p<=s.size) :
  Calls Tryz.prog 224 #[.pointer (some ⟨b,0,none⟩)] w fun e w' =>
   e = .returned (.agg #[.int .i64 (Lk.dN (sl s) (p,sh)).1.ah,.int .i64 (Lk.dN (sl s) (p,sh)).1.off,.int .i64 (Lk.dN (sl s) (p,sh)).1.kind,.int .i64 (Lk.dN (sl s) (p,sh)).1.sym,.int .i64 (Lk.dN (sl s) (p,sh)).1.addend]) /\
   bF w' b s (Lk.dN (sl s) (p,sh)).2.1 (Lk.dN (sl s) (p,sh)).2.2/\w.grownBy w' (some b):=by
 have hb:=h.lt;have hlen:=yu s;unfold Lk.dN;simp only;have l1:=yE (sl s) 1 (p,sh) (by rw [hlen]; exact hp);have b1:=yS (sl s) 1 (p,sh);have c1:=fun W h=>yL b s p 1 1 rfl sh W h hs hp (by omega)
 generalize Lk.rdNum (sl s) 1 (p,sh)=x1 at *;obtain ⟨ah,p1,s1⟩:=x1;rw [hlen] at l1;simp only [Int.reducePow] at *;have l2:=yE (sl s) 1 (p1,s1) (by rw [hlen]; exact l1);have b2:=yS (sl s) 1 (p1,s1);have c2:=fun W h=>yL b s p1 1 1 rfl s1 W h hs l1 (by omega)
 generalize Lk.rdNum (sl s) 1 (p1,s1)=x2 at *;obtain ⟨kind,p2,s2⟩:=x2;rw [hlen] at l2;simp only [Int.reducePow] at *;have l3:=yE (sl s) 2 (p2,s2) (by rw [hlen]; exact l2);have b3:=yS (sl s) 2 (p2,s2);have c3:=fun W h=>yL b s p2 2 2 rfl s2 W h hs l2 (by omega)
 generalize Lk.rdNum (sl s) 2 (p2,s2)=x3 at *;obtain ⟨off,p3,s3⟩:=x3;rw [hlen] at l3;simp only [Int.reducePow] at *;have l4:=yE (sl s) 1 (p3,s3) (by rw [hlen]; exact l3);have b4:=yS (sl s) 1 (p3,s3);have c4:=fun W h=>yL b s p3 1 1 rfl s3 W h hs l3 (by omega)
 generalize Lk.rdNum (sl s) 1 (p3,s3)=x4 at *;obtain ⟨sym,p4,s4⟩:=x4;rw [hlen] at l4;simp only [Int.reducePow] at *;have b5:=yS (sl s) 2 (p4,s4);have c5:=fun W h=>yL b s p4 2 2 rfl s4 W h hs l4 (by omega)
 generalize Lk.rdNum (sl s) 2 (p4,s4)=x5 at *;obtain ⟨add,p5,s5⟩:=x5;simp only [Int.reducePow] at *;replace c1:=hid c1;replace c2:=hid c2;replace c3:=hid c3;replace c4:=hid c4;replace c5:=hid c5;have H:=hid h;clear h hlen;go_enter Tryz.func224,Tryz.ntmps224;go_wp2_with fail;refine Calls.aK (rM w b s 102 #[.int .i64 0,.int .i64 0,.int .i64 0,.int .i64 0,.int .i64 0] p sh #[.int .i64 0,.int .i64 0,.int .i64 0,.int .i64 0,.int .i64 0]) (rM.begin H.o) ?_;intro W1 h1;refine (c1.o W1 h1.rd).mono ?_;rintro e V1 ⟨rfl,r1,q1⟩;have S1:=hid (h1.call hb r1 q1);have k1:=S1.o.own.cell 0;have f1:=S1.o.own.free 0
 clear r1 q1 h1;go_wp2_with fail;refine Calls.aK (rM w b s 102 #[.int .i64 0,.int .i64 0,.int .i64 0,.int .i64 0,.int .i64 0] p1 s1 #[.int .i64 ah,.int .i64 0,.int .i64 0,.int .i64 0,.int .i64 0]) (S1.o.store hb 0 _) ?_;clear k1 f1 S1 V1;intro W2 h2;refine (c2.o W2 h2.rd).mono ?_;rintro e V2 ⟨rfl,r2,q2⟩;have S2:=hid (h2.call hb r2 q2);have k2:=S2.o.own.cell 2;have f2:=S2.o.own.free 2;clear r2 q2 h2;go_wp2_with fail;refine Calls.aK (rM w b s 102 #[.int .i64 0,.int .i64 0,.int .i64 0,.int .i64 0,.int .i64 0] p2 s2 #[.int .i64 ah,.int .i64 0,.int .i64 kind,.int .i64 0,.int .i64 0]) (S2.o.store hb 2 _) ?_
 clear k2 f2 S2 V2;intro W3 h3;refine (c3.o W3 h3.rd).mono ?_;rintro e V3 ⟨rfl,r3,q3⟩;have S3:=hid (h3.call hb r3 q3);have k3:=S3.o.own.cell 1;have f3:=S3.o.own.free 1;clear r3 q3 h3;go_wp2_with fail;refine Calls.aK (rM w b s 102 #[.int .i64 0,.int .i64 0,.int .i64 0,.int .i64 0,.int .i64 0] p3 s3 #[.int .i64 ah,.int .i64 off,.int .i64 kind,.int .i64 0,.int .i64 0]) (S3.o.store hb 1 _) ?_;clear k3 f3 S3 V3;intro W4 h4;refine (c4.o W4 h4.rd).mono ?_;rintro e V4 ⟨rfl,r4,q4⟩;have S4:=hid (h4.call hb r4 q4);have k4:=S4.o.own.cell 3;have f4:=S4.o.own.free 3;clear r4 q4 h4;go_wp2_with fail;refine Calls.aK (rM w b s 102 #[.int .i64 0,.int .i64 0,.int .i64 0,.int .i64 0,.int .i64 0] p4 s4 #[.int .i64 ah,.int .i64 off,.int .i64 kind,.int .i64 sym,.int .i64 0]) (S4.o.store hb 3 _) ?_
 clear k4 f4 S4 V4;intro W5 h5;refine (c5.o W5 h5.rd).mono ?_;rintro e V5 ⟨rfl,r5,q5⟩;have S5:=hid (h5.call hb r5 q5);clear r5 q5 h5;have k0:=S5.o.own.cell 0;have k1:=S5.o.own.cell 1;have k2:=S5.o.own.cell 2;have k3:=S5.o.own.cell 3;have k4:=S5.o.own.cell 4;have f4:=S5.o.own.free 4;have m0:=S5.o.res.cell 0;have n0:=S5.o.res.free 0;have m1:=S5.o.res.cell 1;have n1:=S5.o.res.free 1;have m2:=S5.o.res.cell 2;have n2:=S5.o.res.free 2;have m3:=S5.o.res.cell 3;have n3:=S5.o.res.free 3;have m4:=S5.o.res.cell 4;have n4:=S5.o.res.free 4;by_cases hge:32768<=add
 ·have HG:=hid (show Lk.Cg add=(add - 65536) from by unfold Lk.Cg; rw [if_pos hge]);go_wp2;have F:=((((((S5.o.store hb 4 (.int .i64 add)).store hb 4 (.int .i64 (add - 65536))).put hb 0 (.int .i64 ah)).put hb 1 (.int .i64 off)).put hb 2 (.int .i64 kind)).put hb 3 (.int .i64 sym)).put hb 4 (.int .i64 (add - 65536));refine bodyPost_ret (v:=.agg #[.int .i64 ah,.int .i64 off,.int .i64 kind,.int .i64 sym,.int .i64 (add - 65536)]) ?_ rfl ⟨by rw [HG.o],F.rd,F.gr⟩;have e0:=F.res.cell 0;have e1:=F.res.cell 1;have e2:=F.res.cell 2;have e3:=F.res.cell 3;have e4:=F.res.cell 4;clear S5 k0 k1 k2 k3 k4 f4 m0 m1 m2 m3 m4 n0 n1 n2 n3 n4
  generalize World.setCell _ _ _=WF at *;simp [results,Tryz.results224,go_sem,e0,e1,e2,e3,e4]
 ·have HG:=hid (show Lk.Cg add=add from by unfold Lk.Cg; rw [if_neg hge]);go_wp2;have F:=(((((S5.o.store hb 4 (.int .i64 add)).put hb 0 (.int .i64 ah)).put hb 1 (.int .i64 off)).put hb 2 (.int .i64 kind)).put hb 3 (.int .i64 sym)).put hb 4 (.int .i64 add);refine bodyPost_ret (v:=.agg #[.int .i64 ah,.int .i64 off,.int .i64 kind,.int .i64 sym,.int .i64 add]) ?_ rfl ⟨by rw [HG.o],F.rd,F.gr⟩;have e0:=F.res.cell 0;have e1:=F.res.cell 1;have e2:=F.res.cell 2;have e3:=F.res.cell 3;have e4:=F.res.cell 4;clear S5 k0 k1 k2 k3 k4 f4 m0 m1 m2 m3 m4 n0 n1 n2 n3 n4;generalize World.setCell _ _ _=WF at *;simp [results,Tryz.results224,go_sem,e0,e1,e2,e3,e4]
def iB (y:Lk.Sym):List Value:=[.string (bs y.name),.int .i64 y.bind,.int .i64 y.ah,.int .i64 y.off]
def iN (r:Lk.Rel):List Value:=[.int .i64 r.ah,.int .i64 r.off,.int .i64 r.kind,.int .i64 r.sym,.int .i64 r.addend]
theorem Ws (W:World) (o:Obj) (cs:Array Value) (t:TypeId):∀ j u,cs.toList[j]?=some u->((W.alloc o).alloc (.cells cs t)).cell? ((⟨W.heap.size+1,0,none⟩:Addr).add j)=some u:=by
 have h:((W.alloc o).alloc (.cells cs t)).heap[W.heap.size+1]?=some (.cells cs t (0,0)):=by
  have:=heap_alloc_new (W.alloc o) (.cells cs t)
  simpa using this
 exact World.news_of_block h
theorem yku {w wr w1:World} {o o':Obj} {b:Nat} {s:ByteArray} {p:Nat} {sh:Bool} {row:Option Nat} (hb:b < w.heap.size) (hg:w.grownBy wr (some b)) (hr:bF wr b s p sh) (hk:((wr.alloc o).alloc o').grownBy w1 row) (hrow:∀ g,row=some g->w.heap.size<=g) :
  bF w1 b s p sh/\w.grownBy w1 (some b):=by
 have h1:wr.grownBy (wr.alloc o) none:=aH wr o none;exact ymn hb (II hg h1 (by simp)) (hr.grown h1 (by simp)) hk hrow
theorem Vk {α:Type} (l:List UInt8) (f:Lk.St->α×Lk.St) (hf:∀ st,st.1<=l.length->(f st).2.1<=l.length) (c:Nat) (st:Lk.St) (h:st.1<=l.length):(Lk.aM f c st).2.1<=l.length:=by
 induction c generalizing st with
 | zero=>exact h
 | succ c ih =>
  unfold Lk.aM;split
  ·exact h
  ·exact ih _ (hf st h)
theorem ykt (l:List UInt8) (st:Lk.St) (h:st.1<=l.length):(Lk.dR l st).2.1<=l.length:=by
 unfold Lk.dR;exact yE _ _ _ (yE _ _ _ (yE _ _ _ (Li _ _ _ (yE _ _ _ h))))
theorem yks (l:List UInt8) (st:Lk.St) (h:st.1<=l.length):(Lk.dN l st).2.1<=l.length:=by
 simp only [Lk.dN];refine yE _ _ _ ?_;refine yE _ _ _ ?_;refine yE _ _ _ ?_;refine yE _ _ _ ?_;exact yE _ _ _ h
theorem Lh (l:List UInt8) (n c:Nat) (st:Lk.St) (h:st.1<=l.length):(Lk.aR l n c st).2.1<=l.length:=by
 rw [Lk.pX]; exact Vk l _ (fun st h=>yE l n st h) c st h
theorem yhv (b:Nat) (s:ByteArray) (p count:Nat) (sh:Bool) (w:World) (h:bF w b s p sh)
  (hs:s.size<=1048576) (hp:p<=s.size) (hc:count<=65535) :
  Calls Tryz.prog 210 #[.pointer (some ⟨b,0,none⟩),.int .i64 count] w fun e w'=>∃ v,e = .returned v /\
   w'.ownsRow w.heap.size 100 4 v (Lk.aM (Lk.dR (sl s)) count (p,sh)).1.length ((Lk.aM (Lk.dR (sl s)) count (p,sh)).1.flatMap iB) /\
   bF w' b s (Lk.aM (Lk.dR (sl s)) count (p,sh)).2.1 (Lk.aM (Lk.dR (sl s)) count (p,sh)).2.2/\w.grownBy w' (some b):=by
 obtain ⟨i0,hi,hz0,hz1,hz2⟩:=info_parts Tryz.zI;have hb:=h.lt;have H:=hid h;clear h;go_enter Tryz.func210,Tryz.ntmps210;go_wp2_with fail
 go_loopw [5,6] (fun v i wr=>∃ (k:Nat) (acc:List Lk.Sym) (st:Lk.St),k<=count/\i = .int .i64 k/\acc.length=k/\st.1<=s.size /\
   wr.ownsRow w.heap.size 100 4 v acc.length (acc.flatMap iB)/\bF wr b s st.1 st.2/\w.grownBy wr (some b) /\
   Lk.aM (Lk.dR (sl s)) count (p,sh)=(acc ++ (Lk.aM (Lk.dR (sl s)) (count - k) st).1,(Lk.aM (Lk.dR (sl s)) (count - k) st).2)) (fun _ i _=>count - (intOf i).toNat)
 case atStart=>exact ⟨0,[],(p,sh),Nat.zero_le _,rfl,rfl,hp,World.ownsRow_nil _ _ _ _,H.o,World.grownBy.refl _ _,by simp⟩
 case round =>
  obtain ⟨k,acc,st,hk,rfl,hacc,hst,hown,hrd,hgr,heq⟩:=hrel;have HE:=hid heq;have HA:=hid hacc;clear heq;by_cases hlt:k < count
  ·cases hsh:st.2
   ·rw [hsh] at hrd;have hsu:count - k=(count - (k+1))+1:=by omega
    have hle:=ykt (sl s) (st.1,false) (by rw [yu]; exact hst);have cN:=hid (yii b s st.1 false wr hrd hs hst);have HN:=hid (show Lk.aM (Lk.dR (sl s)) (count - k) st=((Lk.dR (sl s) (st.1,false)).1 :: (Lk.aM (Lk.dR (sl s)) (count - (k+1)) (Lk.dR (sl s) (st.1,false)).2).1,(Lk.aM (Lk.dR (sl s)) (count - (k+1)) (Lk.dR (sl s) (st.1,false)).2).2) from by
     rw [hsu];have e:st=(st.1,false):=Prod.ext rfl hsh;rw [e]; rfl)
    rw [yu] at hle;clear hsu hsh;generalize Lk.dR (sl s) (st.1,false)=r at *;obtain ⟨x,st'⟩:=r;simp only at cN HN hle;have cS:=hid (Rp b s st.1 false wr hrd);have HR:=hid hrd;clear hrd;have Db:acc.length<=65535:=by omega
    go_wp2_with fail;refine cS.o.mono ?_;rintro e w1 ⟨rfl,rfl⟩;go_wp2_with fail;refine cN.o.mono ?_;rintro e w2 ⟨rfl,wh,iF⟩;have hown2:=Lc hown hb iF;have qO:=ya hgr iF;have HR2:=hid wh;have HG2:=hid qO;have hsz:=qO.size;clear wh iF qO hown hgr HR cS cN;go_wp2_with (at_builtin; refine wpList_append_own _ rfl _ _ 68 rfl w.heap.size 100 i0 (.agg #[.string ⟨#[]⟩,.int .i64 0,.int .i64 0,.int .i64 0]) 4 40 Tryz.underlying68 hi hz0 hz1 hz2 rfl (by decide) _ _ _ rfl ((hown2.alloc _).alloc _) ⟨w2.heap.size+1,0,none⟩ 1 1 (iB x) rfl rfl (Ws _ _ _ _) (by intro u hu; simp [iB] at hu; rcases hu with rfl | rfl | rfl | rfl <;> rfl) (by unfold maxLen; omega) (by omega) (by simp; omega) ?_; intro v' w3 hown' hgrow _)
    have K:=yku hb HG2.o HR2.o hgrow (fun g hg=>(hown2.lt g hg).1);clear hgrow hown2;go_wp2
    go_roundw
    case rel =>
     refine ⟨k+1,acc ++ [x],st',by omega,by go_num,by simp [HA.o],hle,?_,K.1,K.2,?_⟩
     ·simpa using hown'
     ·rw [HE.o,HN.o]; simp
    case measure=>simp [intOf]; omega
   ·rw [hsh] at hrd;have hfin:Lk.aM (Lk.dR (sl s)) count (p,sh)=(acc,(st.1,true)):=by
     have hsu:count - k=(count - (k+1))+1:=by omega
     rw [HE.o,hsu];have e:st=(st.1,true):=Prod.ext rfl hsh;rw [e];simp [Lk.aM]
    have HF:=hid hfin;clear hfin hsh HE;have cS:=hid (Rp b s st.1 true wr hrd);have HR:=hid hrd;clear hrd;go_wp2_with fail;refine cS.o.mono ?_;rintro e w1 ⟨rfl,rfl⟩;go_wp2;go_ret;rw [HF.o];exact ⟨_,rfl,hown,HR.o,hgr⟩
  ·have hfin:Lk.aM (Lk.dR (sl s)) count (p,sh)=(acc,st):=by
    have hsu:count - k=0:=by omega
    rw [HE.o,hsu];simp [Lk.aM]
   have HF:=hid hfin;clear hfin HE;have HR:=hid hrd;clear hrd;have hd:decide ((k:Int) < (count:Int))=false:=by simp; omega
   go_wp2;go_ret;rw [HF.o];exact ⟨_,rfl,hown,HR.o,hgr⟩
theorem yig (b:Nat) (s:ByteArray) (p count:Nat) (sh:Bool) (w:World) (h:bF w b s p sh)
  (hs:s.size<=1048576) (hp:p<=s.size) (hc:count<=65535) :
  Calls Tryz.prog 211 #[.pointer (some ⟨b,0,none⟩),.int .i64 count] w fun e w'=>∃ v,e = .returned v /\
   w'.ownsRow w.heap.size 102 5 v (Lk.aM (Lk.dN (sl s)) count (p,sh)).1.length ((Lk.aM (Lk.dN (sl s)) count (p,sh)).1.flatMap iN) /\
   bF w' b s (Lk.aM (Lk.dN (sl s)) count (p,sh)).2.1 (Lk.aM (Lk.dN (sl s)) count (p,sh)).2.2/\w.grownBy w' (some b):=by
 obtain ⟨i0,hi,hz0,hz1,hz2⟩:=info_parts Tryz.uw;have hb:=h.lt;have H:=hid h;clear h;go_enter Tryz.func211,Tryz.ntmps211;go_wp2_with fail
 go_loopw [5,6] (fun v i wr=>∃ (k:Nat) (acc:List Lk.Rel) (st:Lk.St),k<=count/\i = .int .i64 k/\acc.length=k/\st.1<=s.size /\
   wr.ownsRow w.heap.size 102 5 v acc.length (acc.flatMap iN)/\bF wr b s st.1 st.2/\w.grownBy wr (some b) /\
   Lk.aM (Lk.dN (sl s)) count (p,sh)=(acc ++ (Lk.aM (Lk.dN (sl s)) (count - k) st).1,(Lk.aM (Lk.dN (sl s)) (count - k) st).2)) (fun _ i _=>count - (intOf i).toNat)
 case atStart=>exact ⟨0,[],(p,sh),Nat.zero_le _,rfl,rfl,hp,World.ownsRow_nil _ _ _ _,H.o,World.grownBy.refl _ _,by simp⟩
 case round =>
  obtain ⟨k,acc,st,hk,rfl,hacc,hst,hown,hrd,hgr,heq⟩:=hrel;have HE:=hid heq;have HA:=hid hacc;clear heq;by_cases hlt:k < count
  ·cases hsh:st.2
   ·rw [hsh] at hrd;have hsu:count - k=(count - (k+1))+1:=by omega
    have hle:=yks (sl s) (st.1,false) (by rw [yu]; exact hst);have cN:=hid (yjc b s st.1 false wr hrd hs hst);have HN:=hid (show Lk.aM (Lk.dN (sl s)) (count - k) st=((Lk.dN (sl s) (st.1,false)).1 :: (Lk.aM (Lk.dN (sl s)) (count - (k+1)) (Lk.dN (sl s) (st.1,false)).2).1,(Lk.aM (Lk.dN (sl s)) (count - (k+1)) (Lk.dN (sl s) (st.1,false)).2).2) from by
     rw [hsu];have e:st=(st.1,false):=Prod.ext rfl hsh;rw [e]; rfl)
    rw [yu] at hle;clear hsu hsh;generalize Lk.dN (sl s) (st.1,false)=r at *;obtain ⟨x,st'⟩:=r;simp only at cN HN hle;have cS:=hid (Rp b s st.1 false wr hrd);have HR:=hid hrd;clear hrd;have Db:acc.length<=65535:=by omega
    go_wp2_with fail;refine cS.o.mono ?_;rintro e w1 ⟨rfl,rfl⟩;go_wp2_with fail;refine cN.o.mono ?_;rintro e w2 ⟨rfl,wh,iF⟩;have hown2:=Lc hown hb iF;have qO:=ya hgr iF;have HR2:=hid wh;have HG2:=hid qO;have hsz:=qO.size;clear wh iF qO hown hgr HR cS cN;go_wp2_with (at_builtin; refine wpList_append_own _ rfl _ _ 69 rfl w.heap.size 102 i0 (.agg #[.int .i64 0,.int .i64 0,.int .i64 0,.int .i64 0,.int .i64 0]) 5 40 Tryz.underlying69 hi hz0 hz1 hz2 rfl (by decide) _ _ _ rfl ((hown2.alloc _).alloc _) ⟨w2.heap.size+1,0,none⟩ 1 1 (iN x) rfl rfl (Ws _ _ _ _) (by intro u hu; simp [iN] at hu; rcases hu with rfl | rfl | rfl | rfl | rfl <;> rfl) (by unfold maxLen; omega) (by omega) (by simp; omega) ?_; intro v' w3 hown' hgrow _)
    have K:=yku hb HG2.o HR2.o hgrow (fun g hg=>(hown2.lt g hg).1);clear hgrow hown2;go_wp2
    go_roundw
    case rel =>
     refine ⟨k+1,acc ++ [x],st',by omega,by go_num,by simp [HA.o],hle,?_,K.1,K.2,?_⟩
     ·simpa using hown'
     ·rw [HE.o,HN.o]; simp
    case measure=>simp [intOf]; omega
   ·rw [hsh] at hrd;have hfin:Lk.aM (Lk.dN (sl s)) count (p,sh)=(acc,(st.1,true)):=by
     have hsu:count - k=(count - (k+1))+1:=by omega
     rw [HE.o,hsu];have e:st=(st.1,true):=Prod.ext rfl hsh;rw [e];simp [Lk.aM]
    have HF:=hid hfin;clear hfin hsh HE;have cS:=hid (Rp b s st.1 true wr hrd);have HR:=hid hrd;clear hrd;go_wp2_with fail;refine cS.o.mono ?_;rintro e w1 ⟨rfl,rfl⟩;go_wp2;go_ret;rw [HF.o];exact ⟨_,rfl,hown,HR.o,hgr⟩
  ·have hfin:Lk.aM (Lk.dN (sl s)) count (p,sh)=(acc,st):=by
    have hsu:count - k=0:=by omega
    rw [HE.o,hsu];simp [Lk.aM]
   have HF:=hid hfin;clear hfin HE;have HR:=hid hrd;clear hrd;have hd:decide ((k:Int) < (count:Int))=false:=by simp; omega
   go_wp2;go_ret;rw [HF.o];exact ⟨_,rfl,hown,HR.o,hgr⟩
end Go.Proofs.YtpgklkhgfcjceaaGreatDoor
