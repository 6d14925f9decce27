
import Derived.OrdersHeld
import Derived.KernelRfl
import Derived.Test.YtnkkepfcpjllmaaGreatDoorRows
import Derived.WalkKit
import Derived.WalkSpells
import Derived.WalkLawsBesides
import Derived.Deep.QuietTactic
import Derived.BigQuiet
import Derived.Lib.Strings
import Derived.Deep.AppendLies
import Derived.Deep.RegionHeld3
set_option maxHeartbeats 16000000
set_option maxRecDepth 100000
namespace Go.Proofs.YtnkkepfcpjllmaaGreatDoor.Lk
structure Sym where
 name:List UInt8
 bind:Int
 ah:Int
 off:Int
structure Rel where
 ah:Int
 off:Int
 kind:Int
 sym:Int
 addend:Int
structure Obj where
 text:List Int
 far:List Int
 data:List Int
 bss:Int
 align:List Int
 syms:List Sym
 aj:List Rel
def le (v:Int):Nat->List UInt8
 | 0=>[]
 | n+1=>UInt8.ofNat (v % 256).toNat :: le (v / 256) n
theorem bn (v:Int) (n:Nat):(le v n).length=n:=by
 induction n generalizing v with
 | zero=>rfl
 | succ n ih=>simp [le,ih]
def lJ (y:Sym):List UInt8:=le y.name.length 1 ++ (y.name ++ (le y.bind 1 ++ (le y.ah 1 ++ le y.off 2)))
def mI (r:Rel):List UInt8:=le r.ah 1 ++ (le r.kind 1 ++ (le r.off 2 ++ (le r.sym 1 ++ le r.addend 2)))
def nums (l:List Int) (n:Nat):List UInt8:=l.flatMap (le · n)
def uq (o:Obj):List UInt8 :=
 [76,75] ++ (le o.text.length 2 ++ (le o.far.length 2 ++ (le o.data.length 2 ++ (le o.bss 2 ++ (nums o.align 1 ++ (le o.syms.length 1 ++ (le o.aj.length 1 ++
  (o.syms.flatMap lJ ++ (o.aj.flatMap mI ++ (nums o.text 4 ++ (nums o.far 4 ++ nums o.data 4)))))))))))
def vP (y:Sym):Prop:=y.name.length < 256/\(0<=y.bind/\y.bind < 256)/\(0<=y.ah/\y.ah < 256)/\0<=y.off/\y.off < 65536
def AU (r:Rel):Prop:=(0<=r.ah/\r.ah < 256)/\(0<=r.kind/\r.kind < 256)/\(0<=r.off/\r.off < 65536)/\(0<=r.sym/\r.sym < 256)/\-32768<=r.addend/\r.addend < 32768
def kT (n:Nat) (xs:List Int):Prop:=∀ x∈xs,0<=x/\x < (256:Int) ^ n
def vO (o:Obj):Prop :=
 o.text.length < 65536/\o.far.length < 65536/\o.data.length < 65536/\(0<=o.bss/\o.bss < 65536)/\o.align.length=4/\kT 1 o.align /\
 o.syms.length < 256/\o.aj.length < 256/\(∀ y∈o.syms,vP y)/\(∀ r∈o.aj,AU r)/\kT 4 o.text/\kT 4 o.far/\kT 4 o.data
end Go.Proofs.YtnkkepfcpjllmaaGreatDoor.Lk

namespace Go.Proofs.YtnkkepfcpjllmaaGreatDoor
open Go.RowKit
theorem jG {P:Program} {md:Region.Mode} {ops:Array Oper} {Q:Exit->Act->World->Prop} {S:World->Prop} {i:Nat} {oi:Oper} {v:Value} {fuel:Nat} {listed:Array Bool} {a:Act} {w:World} (hi:ops[i]?=some oi) (hy:∀ w,S w->(execOp a.eval oi).run P w = .ok (.value v) w) (hS:S w) (h:wpAnyH P md ops Q S fuel (listed.setIfInBounds i true) (a.put oi.dst v) w) (hs:Region.noSelect ops=true:=by kernel_rfl) (hf:Region.free md ops listed i=true:=by kernel_rfl) (hr:(Region.ready md ops listed).contains i=true:=by kernel_rfl) (hw:Region.wanted oi (yielded ops a.tmps)=true:=by kernel_rfl) (hQ:∀ c a w,Q (.panic c) (a.put oi.dst v) w->Q (.panic c) a w:=by exact fun _ _ _ h=>h):wpAnyH P md ops Q S (fuel+1) listed a w:=wpAnyH_take hi hs hf hr hQ (Or.inl ⟨hw,hy⟩) hS h
theorem zn {P:Program} {md:Region.Mode} {ops:Array Oper} {Q:Exit->Act->World->Prop} {S:World->Prop} {i:Nat} {oi:Oper} {fuel:Nat} {listed:Array Bool} {a:Act} {w:World} (hi:ops[i]?=some oi) (hS:S w) (h:wpAnyH P md ops Q S fuel (listed.setIfInBounds i true) (a.put oi.dst undef) w) (hs:Region.noSelect ops=true:=by kernel_rfl) (hf:Region.free md ops listed i=true:=by kernel_rfl) (hr:(Region.ready md ops listed).contains i=true:=by kernel_rfl) (hw:Region.wanted oi (yielded ops a.tmps)=false:=by kernel_rfl) (hQ:∀ c a w,Q (.panic c) (a.put oi.dst undef) w->Q (.panic c) a w:=by exact fun _ _ _ h=>h):wpAnyH P md ops Q S (fuel+1) listed a w:=wpAnyH_take hi hs hf hr hQ (Or.inr ⟨hw,rfl⟩) hS h
theorem bf:type_of% @List.getElem?_cons_zero:=@List.getElem?_cons_zero
theorem bB:type_of% @List.getElem?_toArray:=@List.getElem?_toArray
theorem yml:type_of% @List.getElem?_cons_succ:=@List.getElem?_cons_succ
theorem iR:type_of% @List.set_cons_succ:=@List.set_cons_succ
theorem iT:type_of% @List.set_cons_zero:=@List.set_cons_zero
theorem iW:type_of% @List.setIfInBounds_toArray:=@List.setIfInBounds_toArray
theorem aW:type_of% @Go.World.grownBy_alloc:=@Go.World.grownBy_alloc
theorem iA:type_of% @List.length_append:=@List.length_append
theorem lM:type_of% @List.getElem_mem:=@List.getElem_mem
theorem Gn:type_of% @List.length_cons:=@List.length_cons
theorem kg:type_of% @List.getElem?_eq_getElem:=@List.getElem?_eq_getElem
theorem Js:type_of% @List.drop_eq_getElem_cons:=@List.drop_eq_getElem_cons
theorem oq:type_of% @List.getElem_cons_succ:=@List.getElem_cons_succ
theorem oD:type_of% @List.getElem_cons_zero:=@List.getElem_cons_zero
theorem oF:type_of% @List.getElem_toArray:=@List.getElem_toArray
theorem jA:type_of% @List.foldl_cons:=@List.foldl_cons
theorem jE:type_of% @List.foldl_nil:=@List.foldl_nil
theorem mP:type_of% @List.getD_eq_getElem?_getD:=@List.getD_eq_getElem?_getD
def Hd (p:Prop):Prop:=p
theorem Hd.o {p:Prop} (h:Hd p):p:=h
def sl (s:ByteArray):List UInt8:=s.data.toList
def bs (l:List UInt8):ByteArray:=⟨l.toArray⟩
theorem yx (s:ByteArray):(sl s).length=s.size:=by unfold sl; rw [Array.length_toList]; rfl
theorem zw (l:List UInt8):(bs l).size=l.length:=by simp [bs,ByteArray.size]
theorem OT (l:List UInt8):sl (bs l)=l:=by simp [sl,bs]
theorem U6 (s:ByteArray):bs (sl s)=s:=by simp [sl,bs]
theorem KD (s:ByteArray) (a b:Nat):s.extract a b=bs (((sl s).drop a).take (b - a)):=Lib.extract_eq s a b
theorem Ay {k:IntKind} {a b:Int} (h:a=b):Ending.returned (.int k a) = .returned (.int k b):=by rw [h]
theorem ykP {a b:ByteArray} (h:a=b):Ending.returned (.string a) = .returned (.string b):=by rw [h]
theorem hid {p:Prop} (h:p):Hd p:=h
theorem yH {P:Program} {ops:Array Oper} {Q:Exit->Act->World->Prop} {md:Region.Mode} {S:World->Prop} {oi:Oper} {v:Value} {fuel:Nat} {listed:Array Bool} {a:Act} {w:World} (hi:ops[ops.size - (fuel+1)]?=some oi)
  (hc:(Region.noSelect ops && (Region.free md ops listed (ops.size - (fuel+1)) && ((Region.ready md ops listed).contains (ops.size - (fuel+1)) && Region.wanted oi (yielded ops a.tmps))))=true)
  (hQ:∀ c a w,Q (.panic c) (a.put oi.dst v) w->Q (.panic c) a w) (hS:S w) (hv:∀ w,S w->(execOp a.eval oi).run P w = .ok (.value v) w)
  (h:wpAnyH P md ops Q S fuel (listed.setIfInBounds (ops.size - (fuel+1)) true) (a.put oi.dst v) w):wpAnyH P md ops Q S (fuel+1) listed a w:=by
 simp only [Bool.and_eq_true] at hc;exact wpAnyH_take hi hc.1 hc.2.1 hc.2.2.1 hQ (Or.inl ⟨hc.2.2.2,hv⟩) hS h
theorem ya {a b c:World} {row:Option Nat} (h:a.grownBy b row) (k:b.grownBy c row):a.grownBy c row :=
 ⟨k.os.trans h.os,k.tape.trans h.tape,k.output.trans h.output,Nat.le_trans h.size k.size,fun i hi hr=>(k.block i (Nat.lt_of_lt_of_le hi h.size) hr).trans (h.block i hi hr)⟩
theorem Xy {a b:World} {row:Option Nat} (h:a.grownBy b none):a.grownBy b row:=⟨h.os,h.tape,h.output,h.size,fun i hi _=>h.block i hi (by simp)⟩
theorem yc {a b:World} {row:Option Nat} (h:a.grownBy b row) (n:Nat):a.grownBy (b.drewN n) row:=by
 induction n with
 | zero=>exact h
 | succ n ih=>exact ⟨ih.os,ih.tape,ih.output,ih.size,ih.block⟩
theorem WG {a b:World} {row:Option Nat} (h:a.grownBy b row) {B:Nat} (hB:B<=a.heap.size) (hr:∀ k,row=some k->B<=k):Below B a b :=
 (Below.refl B a).grown h hB hr
theorem yy (w:World) (b o:Nat) (v:Value):w.grownBy (w.setCell ⟨b,o,none⟩ v) (some b) :=
 ⟨rfl,rfl,rfl,by simp [World.setCell],fun k _ hr=>Below.heap_setCell _ _ _ _ (by simpa using hr)⟩
theorem yiz (w:World) (n:Nat):(w.drewN n).heap=w.heap:=by
 induction n with
 | zero=>rfl
 | succ n ih=>exact ih
theorem WW {w:World} {b o:Nat} {cs:Array Value} {t:TypeId} (h:w.heap[b]?=some (.cells cs t (0,0))) (v:Value) :
  (w.setCell ⟨b,o,none⟩ v).heap[b]?=some (.cells (cs.setIfInBounds o v) t (0,0)):=by
 simp [World.setCell,Array.getElem?_modify,h]
theorem Tryz.iC:(Tryz.prog.info? 3).map (fun i=>(i.zero,i.size,i.bytes))=some (some (.int .i64 0),1,8):=by kernel_rfl
theorem Tryz.AZ:(Tryz.prog.info? 50).map (fun i=>(i.zero,i.size,i.bytes))=some (some (.agg #[.string ⟨#[]⟩,.int .i64 0,.int .i64 0,.int .i64 0]),4,40):=by kernel_rfl
theorem Tryz.q8:(Tryz.prog.info? 54).map (fun i=>(i.zero,i.size,i.bytes))=some (some (.agg #[.int .i64 0,.int .i64 0,.int .i64 0,.int .i64 0,.int .i64 0]),5,40):=by kernel_rfl
def yd (w:World) (g:Nat) (cs:Array Value) (t:TypeId):Prop:=w.heap[g]?=some (.cells cs t (0,0))
section
variable {w w':World} {g:Nat} {cs:Array Value} {t:TypeId}
theorem yd.lt (h:yd w g cs t):g < w.heap.size:=(Array.getElem?_eq_some_iff.1 h).1
theorem yd.cell (h:yd w g cs t) (o:Nat):w.cell? ⟨g,o,none⟩=cs[o]?:=by simp [World.cell?,show w.heap[g]?=_ from h]
theorem yd.free (h:yd w g cs t) (o:Nat):w.frozen? ⟨g,o,none⟩=false:=by simp [World.frozen?,show w.heap[g]?=_ from h]
theorem yd.set (h:yd w g cs t) (o:Nat) (v:Value):yd (w.setCell ⟨g,o,none⟩ v) g (cs.setIfInBounds o v) t:=WW h v
theorem yd.grown (h:yd w g cs t) {row:Option Nat} (hg:w.grownBy w' row) (hne:some g≠row):yd w' g cs t:=(hg.block g h.lt hne).trans h
theorem yd.new (w:World) (cs:Array Value) (t:TypeId):yd (w.alloc (.cells cs t)) w.heap.size cs t:=heap_alloc_new w _
theorem yd.drewN (h:yd w g cs t) (n:Nat):yd (w.drewN n) g cs t:=by unfold yd; rw [yiz]; exact h
end
theorem Calls.fO {P:Program} {f:Nat} {args:Array Value} {w:World} {K:Ending->World->Prop} (R:World->Prop) (hR:R w) (h:∀ w,R w->Calls P f args w K):Calls P f args w K:=h w hR
def iF (y:Lk.Sym):List Value:=[.string (bs y.name),.int .i64 y.bind,.int .i64 y.ah,.int .i64 y.off]
def dK (r:Lk.Rel):List Value:=[.int .i64 r.ah,.int .i64 r.off,.int .i64 r.kind,.int .i64 r.sym,.int .i64 r.addend]
theorem U3 (W:World) (o:Obj) (cs:Array Value) (t:TypeId):∀ j u,cs.toList[j]?=some u->((W.alloc o).alloc (.cells cs t)).cell? ((⟨W.heap.size+1,0,none⟩:Addr).add j)=some u:=by
 have h:((W.alloc o).alloc (.cells cs t)).heap[W.heap.size+1]?=some (.cells cs t (0,0)):=by
  have:=heap_alloc_new (W.alloc o) (.cells cs t)
  simpa using this
 exact World.news_of_block h
theorem yA (l:List UInt8):(bs l).toList=l:=by
 rw [ByteArray.toList_eq]; simp [bs]
theorem Iu {w:World} {base base':Nat} {e:TypeId} {size:Nat} {v:Value} {n:Nat} {xs:List Value} (h:w.ownsRow base e size v n xs) (hb:base'<=base):w.ownsRow base' e size v n xs:=by
 refine ⟨h.1,?_⟩;rcases h.2 with h2 | ⟨g,cap,cur,hv,hg,r⟩
 ·exact .inl h2
 ·exact .inr ⟨g,cap,cur,hv,by omega,r⟩
theorem yi {w:World} {base:Nat} {e:TypeId} {size:Nat} {v:Value} {n:Nat} {xs:List Value} (h:w.ownsRow base e size v n xs):∃ ao cap,v = .slice ao n cap:=by
 rcases h.2 with ⟨h1,h2⟩ | ⟨g,cap,cur,hv,_⟩
 ·exact ⟨none,0,by rw [h1,h2]⟩
 ·exact ⟨_,cap,hv⟩
def yw (W:World) (g:Nat) (o:Lk.Obj):Prop :=
 ∃ vt vf vd va vs vr,yd W g #[vt,vf,vd,.int .i64 o.bss,va,vs,vr] 40 /\
  W.ownsRow 0 3 1 vt o.text.length (o.text.map (Value.int .i64))/\W.ownsRow 0 3 1 vf o.far.length (o.far.map (Value.int .i64)) /\
  W.ownsRow 0 3 1 vd o.data.length (o.data.map (Value.int .i64))/\W.ownsRow 0 3 1 va o.align.length (o.align.map (Value.int .i64)) /\
  W.ownsRow 0 50 4 vs o.syms.length (o.syms.flatMap iF)/\W.ownsRow 0 54 5 vr o.aj.length (o.aj.flatMap dK)
def yn (w:World) (ao:Option Addr) (xs:List Int):Prop :=
 0 < xs.length->∃ g off,ao=some ⟨g,off,none⟩/\∀ i (h:i < xs.length),w.cell? ⟨g,off+i,none⟩=some (.int .i64 xs[i])
theorem yn.aF {w:World} {base:Nat} {ao:Option Addr} {n cap:Nat} {xs:List Int} (h:w.ownsRow base 3 1 (.slice ao n cap) n (xs.map (Value.int .i64))):yn w ao xs:=by
 intro h0;have hn:xs.length=n:=by have:=h.1; simpa using this
 rcases h.2 with ⟨h1,h2⟩ | ⟨g,cap',cur,hv,_⟩
 ·simp at h1; omega
 ·simp only [Value.slice.injEq] at hv;obtain ⟨rfl,_,rfl⟩:=hv;refine ⟨g,0,rfl,fun i hi=>?_⟩
  have:=h.cellAt i (by omega)
  rw [Nat.zero_add,this];simp [hi]
theorem yn.kept {w w':World} {ao:Option Addr} {xs:List Int} (h:yn w ao xs) (hc:∀ a v,w.cell? a=some v->w'.cell? a=some v):yn w' ao xs:=by
 intro h0;obtain ⟨g,off,h1,h2⟩:=h h0;exact ⟨g,off,h1,fun i hi=>hc _ _ (h2 i hi)⟩
def mO (xs:List Int):Prop:=∀ i (h:i < xs.length),0<=xs[i]/\xs[i]<=4294967295
def rD (xs:List Int):Prop:=xs.length=4/\∀ i (h:i < xs.length),2<=xs[i]/\xs[i]<=4
def ye (e:Ending) (P:Prop):Prop:=∃ b,e = .returned (.bool b)/\(b=true↔P)
theorem ye.yes {P:Prop} (h:P):ye (.returned (.bool true)) P:=⟨true,rfl,by simp [h]⟩
theorem ye.no {P:Prop} (h:¬ P):ye (.returned (.bool false)) P:=⟨false,rfl,by simp [h]⟩
theorem ye.of {P:Prop} {b:Bool} (h:b=true↔P):ye (.returned (.bool b)) P:=⟨b,rfl,h⟩
theorem ye.split {e:Ending} {P:Prop} (h:ye e P):(e = .returned (.bool false)/\Hd (¬ P))\/(e = .returned (.bool true)/\Hd P):=by
 obtain ⟨b,rfl,h2⟩:=h
 cases b
 ·exact .inl ⟨rfl,fun hp=>by have:=h2.2 hp; simp at this⟩
 ·exact .inr ⟨rfl,h2.1 rfl⟩
theorem ye.iff {e:Ending} {P Q:Prop} (h:ye e P) (k:P↔Q):ye e Q:=by
 obtain ⟨b,h1,h2⟩:=h;exact ⟨b,h1,h2.trans k⟩
theorem Uh (ao:Option Addr) (cap:Nat) (xs:List Int) (w:World) (h:yn w ao xs) (hn:xs.length<=65535) :
  Calls Tryz.prog 120 #[.slice ao xs.length cap] w fun e w'=>ye e (mO xs)/\w'=w:=by
 have H:=hid h;clear h;go_enter Tryz.func120,Tryz.ntmps120;go_wp2
 go_loop [7] (fun i=>∃ k:Nat,k<=xs.length/\i = .int .i64 k/\∀ j (hj:j < xs.length),j < k->0<=xs[j]/\xs[j]<=4294967295) (fun i=>xs.length - (intOf i).toNat)
 case atStart=>exact ⟨0,Nat.zero_le _,rfl,fun j _ hj=>absurd hj (Nat.not_lt_zero j)⟩
 case round =>
  obtain ⟨k,hk,rfl,hall⟩:=hrel;have HA:=hid hall;clear hall;by_cases hlt:k < xs.length
  ·obtain ⟨g,off,rfl,hc⟩:=H.o (by omega);have hck:=hc k hlt;clear hc;by_cases h1:0<=xs[k]
   ·by_cases h2:xs[k]<=4294967295
    ·go_wp2
     go_round
     case rel=>exact ⟨k+1,by omega,by go_num,fun j hj hjk=>(Nat.lt_succ_iff_lt_or_eq.1 hjk).elim (fun h=>HA.o j hj h) (fun h=>by subst h; exact ⟨h1,h2⟩)⟩
     case measure=>simp [intOf]; omega
    ·have h3:4294967295 < xs[k]:=by omega
     have N:=hid (show ¬ mO xs from fun hw=>h2 (hw k hlt).2);clear h2;go_wp2;go_ret;exact ⟨ye.no N.o,rfl⟩
   ·have h3:xs[k] < 0:=by omega
    have N:=hid (show ¬ mO xs from fun hw=>h1 (hw k hlt).1);clear h1;go_wp2;go_ret;exact ⟨ye.no N.o,rfl⟩
  ·go_wp2;go_ret;exact ⟨ye.yes fun i hi=>HA.o i hi (by omega),rfl⟩
theorem yfj (ao:Option Addr) (cap:Nat) (xs:List Int) (w:World) (h:yn w ao xs) (hn:xs.length<=65535) :
  Calls Tryz.prog 68 #[.slice ao xs.length cap] w fun e w'=>ye e (rD xs)/\w'=w:=by
 have H:=hid h;clear h;by_cases h4:xs.length=4
 ·have H4:=hid h4;have hb4:((xs.length:Int) == 4)=true:=by rw [beq_iff_eq]; omega
  clear h4;go_enter Tryz.func68,Tryz.ntmps68;go_wp2
  go_loop [10] (fun i=>∃ k:Nat,k<=xs.length/\i = .int .i64 k/\∀ j (hj:j < xs.length),j < k->2<=xs[j]/\xs[j]<=4) (fun i=>xs.length - (intOf i).toNat)
  case atStart=>exact ⟨0,Nat.zero_le _,rfl,fun j _ hj=>absurd hj (Nat.not_lt_zero j)⟩
  case round =>
   obtain ⟨k,hk,rfl,hall⟩:=hrel;have HA:=hid hall;clear hall;by_cases hlt:k < xs.length
   ·obtain ⟨g,off,rfl,hc⟩:=H.o (by omega);have hck:=hc k hlt;clear hc;by_cases h1:2<=xs[k]
    ·by_cases h2:xs[k]<=4
     ·go_wp2
      go_round
      case rel=>exact ⟨u2,.int .i64 xs[k],.int .i64 (k+1),⟨k+1,by omega,by go_num,fun j hj hjk=>(Nat.lt_succ_iff_lt_or_eq.1 hjk).elim (fun h=>HA.o j hj h) (fun h=>by subst h; exact ⟨h1,h2⟩)⟩,rfl,rfl,rfl⟩
      case measure=>simp [intOf]; omega
     ·have h3:4 < xs[k]:=by omega
      have N:=hid (show ¬ rD xs from fun hw=>h2 (hw.2 k hlt).2);clear h2;go_wp2;go_ret;exact ⟨ye.no N.o,rfl⟩
    ·have h3:xs[k] < 2:=by omega
     have N:=hid (show ¬ rD xs from fun hw=>h1 (hw.2 k hlt).1);clear h1;go_wp2;go_ret;exact ⟨ye.no N.o,rfl⟩
   ·go_wp2;go_ret;exact ⟨ye.yes ⟨H4.o,fun i hi=>HA.o i hi (by omega)⟩,rfl⟩
 ·have N:=hid (show ¬ rD xs from fun hw=>h4 hw.1);have hb4:((xs.length:Int) == 4)=false:=by rw [beq_eq_false_iff_ne]; omega
  clear h4;go_enter Tryz.func68,Tryz.ntmps68;go_wp2;go_ret;exact ⟨ye.no N.o,rfl⟩
theorem yw.kept {W W':World} {g:Nat} {o:Lk.Obj} (h:yw W g o) (hg:W.grownBy W' none):yw W' g o:=by
 obtain ⟨vt,vf,vd,va,vs,vr,hb,h1,h2,h3,h4,h5,h6⟩:=h;have k:∀ {e:TypeId} {size:Nat} {v:Value} {n:Nat} {xs:List Value},W.ownsRow 0 e size v n xs->W'.ownsRow 0 e size v n xs:=by
  intro e size v n xs h;refine h.kept hg ?_
  cases v.ownBlock <;> simp
 exact ⟨vt,vf,vd,va,vs,vr,hb.grown hg (by simp),k h1,k h2,k h3,k h4,k h5,k h6⟩
theorem yw.open {W:World} {g:Nat} {o:Lk.Obj} (h:yw W g o):∃ at_ ct af cf ad cd aa ca gu cs ar cr,
  yd W g #[.slice at_ o.text.length ct,.slice af o.far.length cf,.slice ad o.data.length cd,.int .i64 o.bss,.slice aa o.align.length ca,.slice gu o.syms.length cs,.slice ar o.aj.length cr] 40 /\
  W.ownsRow 0 3 1 (.slice at_ o.text.length ct) o.text.length (o.text.map (Value.int .i64))/\W.ownsRow 0 3 1 (.slice af o.far.length cf) o.far.length (o.far.map (Value.int .i64)) /\
  W.ownsRow 0 3 1 (.slice ad o.data.length cd) o.data.length (o.data.map (Value.int .i64))/\W.ownsRow 0 3 1 (.slice aa o.align.length ca) o.align.length (o.align.map (Value.int .i64)) /\
  W.ownsRow 0 50 4 (.slice gu o.syms.length cs) o.syms.length (o.syms.flatMap iF)/\W.ownsRow 0 54 5 (.slice ar o.aj.length cr) o.aj.length (o.aj.flatMap dK):=by
 obtain ⟨vt,vf,vd,va,vs,vr,hb,h1,h2,h3,h4,h5,h6⟩:=h;obtain ⟨at_,ct,rfl⟩:=yi h1;obtain ⟨af,cf,rfl⟩:=yi h2;obtain ⟨ad,cd,rfl⟩:=yi h3;obtain ⟨aa,ca,rfl⟩:=yi h4;obtain ⟨gu,cs,rfl⟩:=yi h5;obtain ⟨ar,cr,rfl⟩:=yi h6;exact ⟨at_,ct,af,cf,ad,cd,aa,ca,gu,cs,ar,cr,hb,h1,h2,h3,h4,h5,h6⟩
def Jp (o:Lk.Obj):Prop:=(o.text.length<=1200/\o.far.length<=1200/\o.data.length<=64)/\(0<=o.bss/\o.bss<=64)/\o.syms.length<=16/\o.aj.length<=32
def ou (o:Lk.Obj):Prop:=o.text.length<=65535/\o.far.length<=65535/\o.data.length<=65535/\o.align.length<=65535/\o.syms.length<=65535/\o.aj.length<=65535
theorem ygh (g:Nat) (o:Lk.Obj) (w:World) (h:yw w g o) (hn:ou o) :
  Calls Tryz.prog 67 #[.pointer (some ⟨g,0,none⟩)] w fun e w'=>ye e (Jp o)/\w'=w:=by
 obtain ⟨at_,ct,af,cf,ad,cd,aa,ca,gu,cs,ar,cr,hb,-⟩:=h.open;have k0:=hb.cell 0;have k1:=hb.cell 1;have k2:=hb.cell 2;have k3:=hb.cell 3;have k5:=hb.cell 5;have k6:=hb.cell 6;obtain ⟨n1,n2,n3,n4,n5,n6⟩:=hn;clear h hb;unfold Jp;generalize o.text.length=lt at *;generalize o.far.length=lf at *;generalize o.data.length=ld at *;generalize o.syms.length=ls at *;generalize o.aj.length=lr at *;generalize o.bss=z at *;by_cases c1:lt<=1200
 rotate_left
 ·have D:decide ((1200:Int) < (lt:Int))=true:=by simp; omega
  go_enter Tryz.func67,Tryz.ntmps67;go_wp2;go_ret;exact ⟨ye.no (by omega),rfl⟩
 have d1:decide ((1200:Int) < (lt:Int))=false:=by simp; omega
 by_cases c2:lf<=1200
 rotate_left
 ·have D:decide ((1200:Int) < (lf:Int))=true:=by simp; omega
  go_enter Tryz.func67,Tryz.ntmps67;go_wp2;go_ret;exact ⟨ye.no (by omega),rfl⟩
 have d2:decide ((1200:Int) < (lf:Int))=false:=by simp; omega
 by_cases c3:ld<=64
 rotate_left
 ·have D:decide ((64:Int) < (ld:Int))=true:=by simp; omega
  go_enter Tryz.func67,Tryz.ntmps67;go_wp2;go_ret;exact ⟨ye.no (by omega),rfl⟩
 have d3:decide ((64:Int) < (ld:Int))=false:=by simp; omega
 by_cases c4:0<=z
 rotate_left
 ·have D:decide (z < 0)=true:=by simp; omega
  go_enter Tryz.func67,Tryz.ntmps67;go_wp2;go_ret;exact ⟨ye.no (by omega),rfl⟩
 have d4:decide (z < 0)=false:=by simp; omega
 by_cases c5:z<=64
 rotate_left
 ·have D:decide ((64:Int) < z)=true:=by simp; omega
  go_enter Tryz.func67,Tryz.ntmps67;go_wp2;go_ret;exact ⟨ye.no (by omega),rfl⟩
 have d5:decide ((64:Int) < z)=false:=by simp; omega
 by_cases c6:ls<=16
 rotate_left
 ·have D:decide ((ls:Int)<=16)=false:=by simp; omega
  go_enter Tryz.func67,Tryz.ntmps67;go_wp2;go_ret;exact ⟨ye.no (by omega),rfl⟩
 have d6:decide ((ls:Int)<=16)=true:=by simp; omega
 by_cases c7:lr<=32
 rotate_left
 ·have D:decide ((lr:Int)<=32)=false:=by simp; omega
  go_enter Tryz.func67,Tryz.ntmps67;go_wp2;go_ret;exact ⟨ye.no (by omega),rfl⟩
 have d7:decide ((lr:Int)<=32)=true:=by simp; omega
 go_enter Tryz.func67,Tryz.ntmps67;go_wp2;go_ret;exact ⟨ye.yes (by omega),rfl⟩
def tN (o:Lk.Obj):Prop:=mO o.text/\mO o.far/\mO o.data
theorem ygj (g:Nat) (o:Lk.Obj) (w:World) (h:yw w g o) (hn:ou o) :
  Calls Tryz.prog 69 #[.pointer (some ⟨g,0,none⟩)] w fun e w'=>ye e (tN o)/\w'=w:=by
 obtain ⟨at_,ct,af,cf,ad,cd,aa,ca,gu,cs,ar,cr,hb,h1,h2,h3,-⟩:=h.open;have k0:=hb.cell 0;have k1:=hb.cell 1;have k2:=hb.cell 2;obtain ⟨n1,n2,n3,n4,n5,n6⟩:=hn;have c1:=hid (Uh at_ ct o.text w (yn.aF h1) n1);have c2:=hid (Uh af cf o.far w (yn.aF h2) n2);have c3:=hid (Uh ad cd o.data w (yn.aF h3) n3);clear h hb h1 h2 h3;unfold tN;generalize o.text.length=l1 at *;generalize o.far.length=l2 at *;generalize o.data.length=l3 at *;generalize mO o.text=P1 at *;generalize mO o.far=P2 at *;generalize mO o.data=P3 at *;go_enter Tryz.func69,Tryz.ntmps69;go_wp2_with fail;refine c1.o.mono ?_;rintro e w1 ⟨t1,rfl⟩
 rcases t1.split with ⟨rfl,p1⟩ | ⟨rfl,p1⟩ <;> clear t1 c1
 ·go_wp2;go_ret;exact ⟨ye.no (fun hp=>p1.o hp.1),rfl⟩
 go_wp2_with fail;refine c2.o.mono ?_;rintro e w2 ⟨t2,rfl⟩;rcases t2.split with ⟨rfl,p2⟩ | ⟨rfl,p2⟩ <;> clear t2 c2
 ·go_wp2;go_ret;exact ⟨ye.no (fun hp=>p2.o hp.2.1),rfl⟩
 go_wp2_with fail;refine c3.o.mono ?_;rintro e w3 ⟨t3,rfl⟩;rcases t3.split with ⟨rfl,p3⟩ | ⟨rfl,p3⟩ <;> clear t3 c3
 ·go_wp2;go_ret;exact ⟨ye.no (fun hp=>p3.o hp.2.2),rfl⟩
 go_wp2;go_ret;exact ⟨ye.yes ⟨p1.o,p2.o,p3.o⟩,rfl⟩
theorem Uk (c:Int) (w:World) (h1:48<=c) (h2:c<=57) :
  Calls Tryz.prog 91 #[.int .u8 c] w fun e w'=>e = .returned (.bool true)/\w'=w:=by
 go_enter Tryz.func91,Tryz.ntmps91;go_wp2;go_ret;exact ⟨by simp,rfl⟩
theorem Lv (c:Int) (w:World) (h:c < 48\/57 < c) :
  Calls Tryz.prog 91 #[.int .u8 c] w fun e w'=>e = .returned (.bool false)/\w'=w:=by
 by_cases h1:48<=c
 ·have h2:57 < c:=by omega
  clear h;go_enter Tryz.func91,Tryz.ntmps91;go_wp2;go_ret;exact ⟨by simp; omega,rfl⟩
 ·have h2:decide (48<=c)=false:=by simp; omega
  clear h;go_enter Tryz.func91,Tryz.ntmps91;go_wp2;go_ret;exact ⟨rfl,rfl⟩
theorem yZ {w:World} {base:Nat} {e:TypeId} {size:Nat} {ao:Option Addr} {n cap:Nat} {xs:List Value} (h:w.ownsRow base e size (.slice ao n cap) n xs):n<=cap/\cap<=maxLen:=by
 rcases h.2 with ⟨h1,h2⟩ | ⟨g,cap',cur,hv,_,_,h3,h4,_⟩
 ·simp at h1; omega
 ·simp only [Value.slice.injEq] at hv;obtain ⟨_,_,rfl⟩:=hv;exact ⟨h3,h4⟩
def ym (o:Lk.Obj) (ah:Int):List Int:=if ah=1 then o.text else if ah=2 then o.far else if ah=3 then o.data else []
theorem Ul (g:Nat) (o:Lk.Obj) (ah:Int) (w:World) (h:yw w g o) :
  Calls Tryz.prog 98 #[.pointer (some ⟨g,0,none⟩),.int .i64 ah] w fun e w'=>∃ ao cap,e = .returned (.slice ao (ym o ah).length cap)/\(yn w ao (ym o ah)/\(ym o ah).length<=cap/\cap<=maxLen)/\w'=w:=by
 obtain ⟨at_,ct,af,cf,ad,cd,aa,ca,gu,cs,ar,cr,hb,h1,h2,h3,-⟩:=h.open;have k0:=hb.cell 0;have k1:=hb.cell 1;have k2:=hb.cell 2;have q1:=hid (yn.aF h1);have q2:=hid (yn.aF h2);have q3:=hid (yn.aF h3);have z1:=hid (yZ h1);have z2:=hid (yZ h2);have z3:=hid (yZ h3);clear h hb h1 h2 h3;unfold ym;by_cases e1:ah=1
 ·subst e1;go_enter Tryz.func98,Tryz.ntmps98;go_wp2;go_ret;exact ⟨at_,ct,rfl,⟨q1.o,z1.o⟩,rfl⟩
 by_cases e2:ah=2
 ·subst e2;go_enter Tryz.func98,Tryz.ntmps98;go_wp2;go_ret;exact ⟨af,cf,rfl,⟨q2.o,z2.o⟩,rfl⟩
 by_cases e3:ah=3
 ·subst e3;go_enter Tryz.func98,Tryz.ntmps98;go_wp2;go_ret;exact ⟨ad,cd,rfl,⟨q3.o,z3.o⟩,rfl⟩
 ·rw [if_neg e1,if_neg e2,if_neg e3];have d1:(ah == 1)=false:=beq_eq_false_iff_ne.2 e1;have d2:(ah == 2)=false:=beq_eq_false_iff_ne.2 e2;have d3:(ah == 3)=false:=beq_eq_false_iff_ne.2 e3;clear e1 e2 e3;go_enter Tryz.func98,Tryz.ntmps98;go_wp2;go_ret;exact ⟨none,0,rfl,⟨fun h=>by simp at h,by simp,by simp⟩,rfl⟩
def nC (o:Lk.Obj) (ah:Int):Int:=if ah=4 then o.bss else (ym o ah).length
theorem yB {o:Lk.Obj} (h:ou o) (ah:Int):(ym o ah).length<=65535:=by
 obtain ⟨n1,n2,n3,n4,n5,n6⟩:=h;unfold ym;split
 ·exact n1
 split
 ·exact n2
 split
 ·exact n3
 ·simp
theorem yet (g:Nat) (o:Lk.Obj) (ah:Int) (w:World) (h:yw w g o) (hn:ou o) (hz:0<=o.bss/\o.bss<=64) :
  Calls Tryz.prog 61 #[.pointer (some ⟨g,0,none⟩),.int .i64 ah] w fun e w'=>e = .returned (.int .i64 (4 * nC o ah))/\w'=w:=by
 have c:=hid (Ul g o ah w h);have hl:=yB hn ah;obtain ⟨at_,ct,af,cf,ad,cd,aa,ca,gu,cs,ar,cr,hb,-⟩:=h.open;have k3:=hb.cell 3;clear h hb hn;unfold nC;by_cases e1:ah=4
 ·subst e1;obtain ⟨z1,z2⟩:=hz;go_enter Tryz.func61,Tryz.ntmps61;go_wp2;go_ret;exact ⟨by simp,rfl⟩
 ·rw [if_neg e1];have d1:(ah == 4)=false:=beq_eq_false_iff_ne.2 e1;clear e1;generalize ym o ah=ws at *;go_enter Tryz.func61,Tryz.ntmps61;go_wp2_with fail;refine c.o.mono ?_;rintro e w1 ⟨ao,cap,rfl,-,rfl⟩;go_wp2;go_ret;exact ⟨rfl,rfl⟩
def lU (c:Int):Prop:=c=95\/(48<=c/\c<=57)\/(97<=c/\c<=122)
def vF (s:ByteArray):Prop:=1<=s.size/\s.size<=6/\(∀ h:0 < s.size,¬ (48<=(s[0].toNat:Int)/\(s[0].toNat:Int)<=57))/\∀ i (h:i < s.size),lU (s[i].toNat:Int)
theorem WK (c:Int) (w:World) (h0:0<=c) :
  Calls Tryz.prog 127 #[.int .u8 c] w fun e w'=>ye e (lU c)/\w'=w:=by
 rcases (show c<=47\/(48<=c/\c<=57)\/(58<=c/\c<=94)\/(95<=c/\c<=95)\/(96<=c/\c<=96)\/(97<=c/\c<=122)\/123<=c from by omega) with r | ⟨r1,r2⟩ | ⟨r1,r2⟩ | ⟨r1,r2⟩ | ⟨r1,r2⟩ | ⟨r1,r2⟩ | r
 ·have N:=hid (show ¬ lU c from fun h=>by unfold lU at h; omega);have d1:decide (97<=c)=false:=by simp; omega
  have d2:(c == 95)=false:=by simp; omega
  have cD:=hid (Lv c w (by omega));go_enter Tryz.func127,Tryz.ntmps127;go_wp2_with fail;refine cD.o.mono ?_;rintro e w1 ⟨rfl,rfl⟩;go_wp2;go_ret;exact ⟨ye.no N.o,rfl⟩
 ·have N:=hid (show lU c from by unfold lU; omega);have d1:decide (97<=c)=false:=by simp; omega
  have d2:(c == 95)=false:=by simp; omega
  have cD:=hid (Uk c w r1 r2);go_enter Tryz.func127,Tryz.ntmps127;go_wp2_with fail;refine cD.o.mono ?_;rintro e w1 ⟨rfl,rfl⟩;go_wp2;go_ret;exact ⟨ye.yes N.o,rfl⟩
 ·have N:=hid (show ¬ lU c from fun h=>by unfold lU at h; omega);have d1:decide (97<=c)=false:=by simp; omega
  have d2:(c == 95)=false:=by simp; omega
  have cD:=hid (Lv c w (by omega));go_enter Tryz.func127,Tryz.ntmps127;go_wp2_with fail;refine cD.o.mono ?_;rintro e w1 ⟨rfl,rfl⟩;go_wp2;go_ret;exact ⟨ye.no N.o,rfl⟩
 ·obtain rfl:c=95:=by omega
  go_enter Tryz.func127,Tryz.ntmps127;go_wp2;go_ret;exact ⟨ye.yes (by unfold lU; omega),rfl⟩
 ·obtain rfl:c=96:=by omega
  have cD:=hid (Lv 96 w (by omega));go_enter Tryz.func127,Tryz.ntmps127;go_wp2_with fail;refine cD.o.mono ?_;rintro e w1 ⟨rfl,rfl⟩;go_wp2;go_ret;exact ⟨ye.no (fun h=>by unfold lU at h; omega),rfl⟩
 ·have N:=hid (show lU c from by unfold lU; omega);have d1:decide (97<=c)=true:=by simp; omega
  have d2:decide (c<=122)=true:=by simp; omega
  go_enter Tryz.func127,Tryz.ntmps127;go_wp2;go_ret;exact ⟨ye.yes N.o,rfl⟩
 ·have N:=hid (show ¬ lU c from fun h=>by unfold lU at h; omega);have d1:decide (97<=c)=true:=by simp; omega
  have d3:decide (c<=122)=false:=by simp; omega
  have d2:(c == 95)=false:=by simp; omega
  have cD:=hid (Lv c w (by omega));go_enter Tryz.func127,Tryz.ntmps127;go_wp2_with fail;refine cD.o.mono ?_;rintro e w1 ⟨rfl,rfl⟩;go_wp2;go_ret;exact ⟨ye.no N.o,rfl⟩
theorem yiB (s:ByteArray) (w:World) (hs:s.size<=1048576) :
  Calls Tryz.prog 144 #[.string s] w fun e w'=>ye e (vF s)/\w'=w:=by
 by_cases c1:s.size < 1
 ·have N:=hid (show ¬ vF s from fun h=>by have:=h.1; omega);have D:decide ((s.size:Int) < 1)=true:=by simp; omega
  go_enter Tryz.func144,Tryz.ntmps144;go_wp2;go_ret;exact ⟨ye.no N.o,rfl⟩
 by_cases c2:6 < s.size
 ·have N:=hid (show ¬ vF s from fun h=>by have:=h.2.1; omega);have D1:decide ((s.size:Int) < 1)=false:=by simp; omega
  have D:decide ((6:Int) < (s.size:Int))=true:=by simp; omega
  go_enter Tryz.func144,Tryz.ntmps144;go_wp2;go_ret;exact ⟨ye.no N.o,rfl⟩
 have D1:decide ((s.size:Int) < 1)=false:=by simp; omega
 have D2:decide ((6:Int) < (s.size:Int))=false:=by simp; omega
 have h0:0 < s.size:=by omega
 by_cases c3:48<=(s[0].toNat:Int)/\(s[0].toNat:Int)<=57
 ·have N:=hid (show ¬ vF s from fun h=>h.2.2.1 h0 c3);have cD:=hid (fun w=>Uk (s[0].toNat:Int) w c3.1 c3.2);clear c3;go_enter Tryz.func144,Tryz.ntmps144;go_wp2_with fail;refine (cD.o _).mono ?_;rintro e w1 ⟨rfl,rfl⟩;go_wp2;go_ret;exact ⟨ye.no N.o,rfl⟩
 have C3:=hid c3;have cD:=hid (fun w=>Lv (s[0].toNat:Int) w (by omega));clear c3;go_enter Tryz.func144,Tryz.ntmps144;go_wp2_with fail;refine (cD.o _).mono ?_;rintro e w1 ⟨rfl,rfl⟩;go_wp2_with fail
 go_loop [3] (fun i=>∃ k:Nat,k<=s.size/\i = .int .i64 k/\∀ j (hj:j < s.size),j < k->lU (s[j].toNat:Int)) (fun i=>s.size - (intOf i).toNat)
 case atStart=>exact ⟨0,Nat.zero_le _,rfl,fun j _ hj=>absurd hj (Nat.not_lt_zero j)⟩
 case round =>
  obtain ⟨k,hk,rfl,hall⟩:=hrel;have HA:=hid hall;clear hall;by_cases hlt:k < s.size
  ·have cM:=hid (fun w=>WK (s[k].toNat:Int) w (by omega));go_wp2_with fail;refine (cM.o _).mono ?_;rintro e w1 ⟨t1,rfl⟩;rcases t1.split with ⟨rfl,p1⟩ | ⟨rfl,p1⟩ <;> clear t1 cM
   ·have N:=hid (show ¬ vF s from fun h=>p1.o (h.2.2.2 k hlt));go_wp2;go_ret;exact ⟨ye.no N.o,rfl⟩
   ·go_wp2
    go_round
    case rel=>exact ⟨k+1,by omega,by go_num,fun j hj hjk=>(Nat.lt_succ_iff_lt_or_eq.1 hjk).elim (fun h=>HA.o j hj h) (fun h=>by subst h; exact p1.o)⟩
    case measure=>simp [intOf]; omega
  ·go_wp2;go_ret;exact ⟨ye.yes ⟨by omega,by omega,fun _=>C3.o,fun i hi=>HA.o i hi (by omega)⟩,rfl⟩
def nS (w:World) (ao:Option Addr) (ys:List Lk.Sym):Prop :=
 0 < ys.length->∃ g,ao=some ⟨g,0,none⟩/\g < w.heap.size/\∀ i (h:i < ys.length),w.cell? ⟨g,i * 4,none⟩=some (.string (bs ys[i].name))/\w.cell? ⟨g,i * 4+1,none⟩=some (.int .i64 ys[i].bind) /\
  w.cell? ⟨g,i * 4+2,none⟩=some (.int .i64 ys[i].ah)/\w.cell? ⟨g,i * 4+3,none⟩=some (.int .i64 ys[i].off)
theorem OL {α:Type} (f:α->List Value) (size:Nat) (hf:∀ x,(f x).length=size) (l:List α) (i j:Nat) (hi:i < l.length) (hj:j < size):(l.flatMap f)[i * size+j]?=(f l[i])[j]?:=by
 induction l generalizing i with
 | nil=>simp at hi
 | cons x t ih =>
  rw [List.flatMap_cons]
  cases i with
  | zero =>
   rw [List.getElem?_append_left (by rw [hf]; omega)];simp
  | succ i =>
   rw [List.getElem?_append_right (by rw [hf,Nat.succ_mul]; omega),hf]
   have:(i+1) * size+j - size=i * size+j:=by rw [Nat.succ_mul]; omega
   rw [this,ih i (by simpa using hi)];simp
theorem nS.aF {w:World} {base:Nat} {ao:Option Addr} {n cap:Nat} {ys:List Lk.Sym} (h:w.ownsRow base 50 4 (.slice ao n cap) n (ys.flatMap iF)):nS w ao ys:=by
 intro h0;have hl:(ys.flatMap iF).length=ys.length * 4:=by
  clear h h0
  induction ys with
  | nil=>rfl
  | cons y t ih=>rw [List.flatMap_cons,iA,ih]; simp [iF]; omega
 have hn:ys.length=n:=by have:=h.1; omega
 have hlt:=h.lt;rcases h.2 with ⟨h1,h2⟩ | ⟨g,cap',cur,hv,_⟩
 ·simp at h1; omega
 ·simp only [Value.slice.injEq] at hv;obtain ⟨rfl,_,rfl⟩:=hv;refine ⟨g,rfl,(hlt g rfl).2,fun i hi=>?_⟩;have q:=fun j (hj:j < 4)=>(h.cellAt (i * 4+j) (by omega)).trans (OL iF 4 (fun _=>rfl) ys i j hi hj)
  exact ⟨q 0 (by omega),q 1 (by omega),q 2 (by omega),q 3 (by omega)⟩
theorem nS.grown {w w':World} {ao:Option Addr} {ys:List Lk.Sym} (h:nS w ao ys) (hg:w.grownBy w' none):nS w' ao ys:=by
 intro h0;obtain ⟨g,h1,h2,h3⟩:=h h0;refine ⟨g,h1,Nat.lt_of_lt_of_le h2 hg.size,fun i hi=>?_⟩;obtain ⟨a,b,c,d⟩:=h3 i hi;exact ⟨hg.cell a (by simp),hg.cell b (by simp),hg.cell c (by simp),hg.cell d (by simp)⟩
theorem yji (ao:Option Addr) (cap:Nat) (ys:List Lk.Sym) (nm:List UInt8) (w:World) (h:nS w ao ys) (hn:ys.length<=65535) :
  Calls Tryz.prog 122 #[.slice ao ys.length cap,.string (bs nm)] w fun e w'=>ye e (∃ i,∃ h:i < ys.length,ys[i].name=nm)/\w.grownBy w' none:=by
 have H:=hid h;clear h;go_enter Tryz.func122,Tryz.ntmps122;go_wp2
 go_loopw [9] (fun i wr=>∃ k:Nat,k<=ys.length/\i = .int .i64 k/\(∀ j (hj:j < ys.length),j < k->ys[j].name≠nm)/\w.grownBy wr none) (fun i _=>ys.length - (intOf i).toNat)
 case atStart=>exact ⟨0,Nat.zero_le _,rfl,fun j _ hj=>absurd hj (Nat.not_lt_zero j),World.grownBy.refl _ _⟩
 case round =>
  obtain ⟨k,hk,rfl,hall,hgr⟩:=hrel;have HA:=hid hall;have HG:=hid hgr;clear hall hgr;by_cases hlt:k < ys.length
  ·obtain ⟨g,rfl,hgs,hc⟩:=H.o.grown HG.o (by omega);obtain ⟨k0,k1,k2,k3⟩:=hc k hlt;clear hc;by_cases e1:ys[k].name=nm
   ·have E:=hid e1;have b1:((bs ys[k].name).toList == (bs nm).toList)=true:=by rw [e1]; simp
    clear e1;go_wp2;go_ret;exact ⟨ye.yes ⟨k,hlt,E.o⟩,ya HG.o (aW _ _ _)⟩
   ·have E:=hid e1;have b1:((bs ys[k].name).toList == (bs nm).toList)=false:=by rw [yA,yA]; simpa using e1
    clear e1;go_wp2
    go_roundw
    case rel=>exact ⟨k+1,by omega,by go_num,fun j hj hjk=>(Nat.lt_succ_iff_lt_or_eq.1 hjk).elim (fun h=>HA.o j hj h) (fun h=>by subst h; exact E.o),ya HG.o (aW _ _ _)⟩
    case measure=>simp [intOf]; omega
  ·go_wp2;go_ret;exact ⟨ye.no (fun ⟨i,hi,h⟩=>HA.o i hi (by omega) h),HG.o⟩
def F7 (o:Lk.Obj) (y:Lk.Sym):Prop :=
 vF (bs y.name)/\(0<=y.bind/\y.bind<=2)/\(0<=y.ah/\y.ah<=4)/\¬ (y.ah=0/\y.bind=0)/\0<=y.off/\y.off % 4=0/\y.off<=4 * nC o y.ah
theorem yw.drewN {W:World} {g:Nat} {o:Lk.Obj} (h:yw W g o) (n:Nat):yw (W.drewN n) g o:=h.kept (yc (World.grownBy.refl _ _) n)
theorem Wv (g:Nat) (o:Lk.Obj) (y:Lk.Sym) (w:World) (h:yw w g o) (hn:ou o) (hz:0<=o.bss/\o.bss<=64) (hl:y.name.length<=255) :
  Calls Tryz.prog 121 #[.pointer (some ⟨g,0,none⟩),.agg #[.string (bs y.name),.int .i64 y.bind,.int .i64 y.ah,.int .i64 y.off]] w fun e w'=>ye e (F7 o y)/\w.grownBy w' none:=by
 have hlen:0<=nC o y.ah/\nC o y.ah<=65535:=by
  have:=yB hn y.ah
  unfold nC; split <;> omega
 have cL:=hid (fun W (h:yw W g o)=>yet g o y.ah W h hn hz);have cN:=hid (fun W=>yiB (bs y.name) W (by rw [zw]; omega));have H:=hid h;have HQ:=hid (show F7 o y↔vF (bs y.name)/\(0<=y.bind/\y.bind<=2)/\(0<=y.ah/\y.ah<=4)/\¬ (y.ah=0/\y.bind=0)/\0<=y.off/\y.off % 4=0/\y.off<=4 * nC o y.ah from Iff.rfl);clear h hn hz hl;generalize F7 o y=Q at *;generalize nC o y.ah=L at *;generalize bs y.name=nm at *;generalize vF nm=P at *;obtain ⟨_,bind,ah,off⟩:=y;simp only at *;have G:=hid (fun o:Obj=>aW w o none);have no:Hd (∀ W,(¬ Q)->w.grownBy W none->ye (.returned (.bool false)) Q/\w.grownBy W none):=fun W a b=>⟨ye.no a,b⟩
 go_enter Tryz.func121,Tryz.ntmps121;go_wp2_with fail;refine (cN.o _).mono ?_;rintro e w1 ⟨t,rfl⟩;rcases t.split with ⟨rfl,p1⟩ | ⟨rfl,p1⟩ <;> clear t
 ·go_wp2;go_ret;exact no.o _ (fun hq=>p1.o (HQ.o.1 hq).1) (G.o _)
 by_cases r1:bind < 0
 ·have d:decide (bind < 0)=true:=by simp; omega
  go_wp2;go_ret;exact no.o _ (fun hq=>by have:=(HQ.o.1 hq).2.1.1; omega) (G.o _)
 have d1:decide (bind < 0)=false:=by simp; omega
 by_cases r2:2 < bind
 ·have d:decide (2 < bind)=true:=by simp; omega
  go_wp2;go_ret;exact no.o _ (fun hq=>by have:=(HQ.o.1 hq).2.1.2; omega) (G.o _)
 have d2:decide (2 < bind)=false:=by simp; omega
 by_cases r3:ah < 0
 ·have d:decide (ah < 0)=true:=by simp; omega
  go_wp2;go_ret;exact no.o _ (fun hq=>by have:=(HQ.o.1 hq).2.2.1.1; omega) (G.o _)
 have d3:decide (ah < 0)=false:=by simp; omega
 by_cases r4:4 < ah
 ·have d:decide (4 < ah)=true:=by simp; omega
  go_wp2;go_ret;exact no.o _ (fun hq=>by have:=(HQ.o.1 hq).2.2.1.2; omega) (G.o _)
 have d4:decide (4 < ah)=false:=by simp; omega
 by_cases r5:ah=0/\bind=0
 ·have q1:ah<=0:=by omega
  have q2:bind<=0:=by omega
  have R5:=hid r5;clear r5;go_wp2;go_ret;exact no.o _ (fun hq=>(HQ.o.1 hq).2.2.2.1 R5.o) (G.o _)
 have R5:=hid r5;rcases (show 1<=ah\/(ah=0/\1<=bind) from by omega) with q1 | ⟨rfl,q2⟩ <;> clear r5
 all_goals
  by_cases r6:off < 0
  ·have d:decide (0<=off)=false:=by simp; omega
   go_wp2
   go_quiet (fail)
   go_wp2;go_ret;exact no.o _ (fun hq=>by have:=(HQ.o.1 hq).2.2.2.2.1; omega) (yc (G.o _) _)
  have d6:decide (0<=off)=true:=by simp; omega
  have VP:0<=off:=by omega
  by_cases r7:off % 4=0
  rotate_left
  ·have d:(off % 4 == 0)=false:=beq_eq_false_iff_ne.2 r7;have R7:=hid r7;clear r7;go_wp2
   go_quiet (fail)
   go_wp2;go_ret;exact no.o _ (fun hq=>R7.o (HQ.o.1 hq).2.2.2.2.2.1) (yc (G.o _) _)
  have d7:(off % 4 == 0)=true:=beq_iff_eq.2 r7;have R7:=hid r7;clear r7;go_wp2
  go_quiet ((go_at_call 61; exact Calls.quiet_of_same (cL.o _ ((H.o.kept (G.o _)).drewN _))))
  go_wp2;go_ret;refine ⟨ye.of ?_,yc (G.o _) _⟩;rw [HQ.o,decide_eq_true_iff];exact ⟨fun h=>⟨p1.o,⟨by omega,by omega⟩,⟨by omega,by omega⟩,R5.o,VP,R7.o,h⟩,fun h=>h.2.2.2.2.2.2⟩
def KV (o:Lk.Obj):Prop:=∀ i (h:i < o.syms.length),F7 o o.syms[i]/\¬ ∃ j,∃ hj:j < o.syms.length,j < i/\o.syms[j].name=o.syms[i].name
theorem yfN (g:Nat) (o:Lk.Obj) (y:Lk.Sym) (w:World) (h:yw w g o) (hn:ou o) (hz:0<=o.bss/\o.bss<=64) (hl:y.name.length<=255) (hy:F7 o y) :
  Calls Tryz.prog 121 #[.pointer (some ⟨g,0,none⟩),.agg #[.string (bs y.name),.int .i64 y.bind,.int .i64 y.ah,.int .i64 y.off]] w fun e w'=>e = .returned (.bool true)/\w.grownBy w' none :=
 (Wv g o y w h hn hz hl).mono fun e w' ⟨t,k⟩=>by
  rcases t.split with ⟨_,p⟩ | ⟨rfl,_⟩
  ·exact absurd hy p.o
  ·exact ⟨rfl,k⟩
theorem ygi (g:Nat) (o:Lk.Obj) (y:Lk.Sym) (w:World) (h:yw w g o) (hn:ou o) (hz:0<=o.bss/\o.bss<=64) (hl:y.name.length<=255) (hy:¬ F7 o y) :
  Calls Tryz.prog 121 #[.pointer (some ⟨g,0,none⟩),.agg #[.string (bs y.name),.int .i64 y.bind,.int .i64 y.ah,.int .i64 y.off]] w fun e w'=>e = .returned (.bool false)/\w.grownBy w' none :=
 (Wv g o y w h hn hz hl).mono fun e w' ⟨t,k⟩=>by
  rcases t.split with ⟨rfl,_⟩ | ⟨_,p⟩
  ·exact ⟨rfl,k⟩
  ·exact absurd p.o hy
theorem yiM (ys:List Lk.Sym) (k:Nat) (hk:k < ys.length) (nm:List UInt8):(∃ i,∃ h:i < (ys.take k).length,(ys.take k)[i].name=nm)↔∃ j,∃ hj:j < ys.length,j < k/\ys[j].name=nm:=by
 constructor
 ·rintro ⟨i,h,e⟩;simp only [List.length_take] at h;refine ⟨i,by omega,by omega,?_⟩;rw [List.getElem_take] at e;exact e
 ·rintro ⟨j,hj,hk',e⟩;refine ⟨j,by simp; omega,?_⟩;rw [List.getElem_take];exact e
theorem nS.take {w:World} {ao:Option Addr} {ys:List Lk.Sym} (h:nS w ao ys) (k:Nat):nS w ao (ys.take k):=by
 intro h0;simp only [List.length_take] at h0;obtain ⟨g,h1,h2,h3⟩:=h (by omega);refine ⟨g,h1,h2,fun i hi=>?_⟩;have hi':i < ys.length:=by simp at hi; omega
 have:=h3 i hi'
 simpa [List.getElem_take] using this
theorem WZ (ao:Option Addr) (cap k:Nat) (ys:List Lk.Sym) (nm:List UInt8) (w:World) (h:nS w ao ys) (hn:ys.length<=65535) (hk:k < ys.length) :
  Calls Tryz.prog 122 #[.slice ao k cap,.string (bs nm)] w fun e w'=>ye e (∃ j,∃ hj:j < ys.length,j < k/\ys[j].name=nm)/\w.grownBy w' none:=by
 have hl:(ys.take k).length=k:=by simp; omega
 have c:=(yji ao cap (ys.take k) nm w (h.take k) (by omega)).mono fun e w' (hh:_/\_)=>(⟨hh.1.iff (yiM ys k hk nm),hh.2⟩:ye e (∃ j,∃ hj:j < ys.length,j < k/\ys[j].name=nm)/\w.grownBy w' none)
 rw [hl] at c;exact c
theorem yjj (ao:Option Addr) (cap k:Nat) (ys:List Lk.Sym) (nm:List UInt8) (w:World) (h:nS w ao ys) (hn:ys.length<=65535) (hk:k < ys.length) (hy:∃ j,∃ hj:j < ys.length,j < k/\ys[j].name=nm) :
  Calls Tryz.prog 122 #[.slice ao k cap,.string (bs nm)] w fun e w'=>e = .returned (.bool true)/\w.grownBy w' none :=
 (WZ ao cap k ys nm w h hn hk).mono fun e w' ⟨t,q⟩=>by
  rcases t.split with ⟨_,p⟩ | ⟨rfl,_⟩
  ·exact absurd hy p.o
  ·exact ⟨rfl,q⟩
theorem yjX (ao:Option Addr) (cap k:Nat) (ys:List Lk.Sym) (nm:List UInt8) (w:World) (h:nS w ao ys) (hn:ys.length<=65535) (hk:k < ys.length) (hy:¬ ∃ j,∃ hj:j < ys.length,j < k/\ys[j].name=nm) :
  Calls Tryz.prog 122 #[.slice ao k cap,.string (bs nm)] w fun e w'=>e = .returned (.bool false)/\w.grownBy w' none :=
 (WZ ao cap k ys nm w h hn hk).mono fun e w' ⟨t,q⟩=>by
  rcases t.split with ⟨rfl,_⟩ | ⟨_,p⟩
  ·exact ⟨rfl,q⟩
  ·exact absurd p.o hy
theorem yw.drew {W:World} {g:Nat} {o:Lk.Obj} (h:yw W g o):yw W.drew g o:=h.kept ⟨rfl,rfl,rfl,Nat.le_refl _,fun _ _ _=>rfl⟩
theorem oC (t:Array Value) (ds:List Deferred) (i:Tmp) (v:Value):Act.put ⟨t,ds⟩ (some i) v=⟨t.setIfInBounds i v,ds⟩:=rfl
theorem yg {a b:World} {row:Option Nat} (h:a.grownBy b row):a.grownBy b.drew row:=⟨h.os,h.tape,h.output,h.size,h.block⟩
theorem yb {w w':World} {a:Addr} {v:Value} (h:w.cell? a=some v) (hg:w.grownBy w' none):w'.cell? a=some v:=hg.cell h (by simp)
theorem yfk (g:Nat) (o:Lk.Obj) (w:World) (h:yw w g o) (hn:ou o) (hz:0<=o.bss/\o.bss<=64) (hl:∀ y∈o.syms,y.name.length<=255) :
  Calls Tryz.prog 70 #[.pointer (some ⟨g,0,none⟩)] w fun e w'=>ye e (KV o)/\w.grownBy w' none:=by
 obtain ⟨at_,ct,af,cf,ad,cd,aa,ca,gu,cs,ar,cr,hb,h1,h2,h3,h4,h5,h6⟩:=h.open;have k5:=hb.cell 5;have S:=hid (nS.aF h5);have hcap:=yZ h5;have hns:=hn.2.2.2.2.1;have HZ:=hid hz;have HL:=hid hl;have HO:=hid h;have HN:=hid hn;have HB:=hid hb;have hgw:=hb.lt;clear h hn hl hb h1 h2 h3 h4 h5 h6 hz;have hcap1:=hcap.1;have hcap2:=hcap.2;unfold maxLen at hcap2;clear hcap;go_enter Tryz.func70,Tryz.ntmps70;go_wp2
 go_loopw [10] (fun i wr=>∃ k:Nat,k<=o.syms.length/\i = .int .i64 k/\(∀ i (h:i < o.syms.length),i < k->F7 o o.syms[i]/\¬ ∃ j,∃ hj:j < o.syms.length,j < i/\o.syms[j].name=o.syms[i].name)/\w.grownBy wr none) (fun i _=>o.syms.length - (intOf i).toNat)
 case atStart=>exact ⟨0,Nat.zero_le _,rfl,fun j _ hj=>absurd hj (Nat.not_lt_zero j),World.grownBy.refl _ _⟩
 case round =>
  obtain ⟨k,hk,rfl,hall,hgr⟩:=hrel;have HA:=hid hall;have HG:=hid hgr;clear hall hgr;by_cases hlt:k < o.syms.length
  ·obtain ⟨sg,hao,hgs,hc⟩:=S.o.grown HG.o (by omega);have mQ:=hid hao;subst hao;obtain ⟨q0,q1,q2,q3⟩:=hc k hlt;clear hc;have hl:=HL.o o.syms[k] (lM hlt);have hgl:g < wr.heap.size:=(HB.o.grown HG.o (by simp)).lt;have hgc:=(HB.o.grown HG.o (by simp)).cell 5;have hne:=World.new_ne wr ⟨g,5,none⟩ (by simpa using hgc);have hgrow:=aW wr (.cells #[.string (bs o.syms[k].name),.int .i64 o.syms[k].bind,.int .i64 o.syms[k].ah,.int .i64 o.syms[k].off] 50) none;have hblk:=yd.new wr #[.string (bs o.syms[k].name),.int .i64 o.syms[k].bind,.int .i64 o.syms[k].ah,.int .i64 o.syms[k].off] 50;have c0:Hd (((wr.alloc (.cells #[.string (bs o.syms[k].name),.int .i64 o.syms[k].bind,.int .i64 o.syms[k].ah,.int .i64 o.syms[k].off] 50)).drew).cell? ⟨wr.heap.size,0,none⟩=some (.string (bs o.syms[k].name))):=hblk.cell 0
   have c1:Hd (((wr.alloc (.cells #[.string (bs o.syms[k].name),.int .i64 o.syms[k].bind,.int .i64 o.syms[k].ah,.int .i64 o.syms[k].off] 50)).drew).cell? ⟨wr.heap.size,1,none⟩=some (.int .i64 o.syms[k].bind)):=hblk.cell 1;have c2:Hd (((wr.alloc (.cells #[.string (bs o.syms[k].name),.int .i64 o.syms[k].bind,.int .i64 o.syms[k].ah,.int .i64 o.syms[k].off] 50)).drew).cell? ⟨wr.heap.size,2,none⟩=some (.int .i64 o.syms[k].ah)):=hblk.cell 2;have c3:Hd (((wr.alloc (.cells #[.string (bs o.syms[k].name),.int .i64 o.syms[k].bind,.int .i64 o.syms[k].ah,.int .i64 o.syms[k].off] 50)).drew).cell? ⟨wr.heap.size,3,none⟩=some (.int .i64 o.syms[k].off)):=hblk.cell 3
   have c4:Hd (((wr.alloc (.cells #[.string (bs o.syms[k].name),.int .i64 o.syms[k].bind,.int .i64 o.syms[k].ah,.int .i64 o.syms[k].off] 50)).drew).cell? ⟨g,5,none⟩=some (.slice (some ⟨sg,0,none⟩) o.syms.length cs)):=yb (show wr.cell? ⟨g,5,none⟩=some (.slice (some ⟨sg,0,none⟩) o.syms.length cs) from by simpa using hgc) (yg hgrow);clear hgrow hblk;have hk1:(0:Int)<=(k:Int):=by omega
   have hk2:(k:Int)<=(cs:Int):=by omega
   by_cases hS:F7 o o.syms[k]
   ·have cV:=hid (fun W (hW:yw W g o)=>yfN g o o.syms[k] W hW HN.o HZ.o hl hS);have HS:=hid hS;clear hS;by_cases hN:∃ j,∃ hj:j < o.syms.length,j < k/\o.syms[j].name=o.syms[k].name
    ·have cN:=hid (fun W (hW:nS W (some ⟨sg,0,none⟩) o.syms)=>yjj (some ⟨sg,0,none⟩) cs k o.syms o.syms[k].name W hW hns hlt hN);have NN:=hid hN;clear hN;go_wp2
     go_region_held3 (fun w'=>w'.cell? ⟨wr.heap.size,0,none⟩=some (.string (bs o.syms[k].name))/\w'.cell? ⟨wr.heap.size,1,none⟩=some (.int .i64 o.syms[k].bind)/\w'.cell? ⟨wr.heap.size,2,none⟩=some (.int .i64 o.syms[k].ah)/\w'.cell? ⟨wr.heap.size,3,none⟩=some (.int .i64 o.syms[k].off)/\w'.cell? ⟨g,5,none⟩=some (.slice (some ⟨sg,0,none⟩) o.syms.length cs))
      (go_keep)
      (first | (go_at_call 121; refine (cV.o _ (yw.drew (yw.kept (HO.o.kept HG.o) (aW _ _ _)))).mono ?_; rintro e w' ⟨rfl,hq⟩; have s0:=yb c0.o hq; have s1:=yb c1.o hq; have s2:=yb c2.o hq; have s3:=yb c3.o hq; have s4:=yb c4.o hq) | (go_at_call 122; refine (cN.o _ ?_).mono ?_; (exact ((S.o.grown HG.o).grown (yg (aW _ _ _))).grown hq); rintro e w'' ⟨rfl,hq2⟩; have z0:=yb s0 hq2; have z1:=yb s1 hq2; have z2:=yb s2 hq2; have z3:=yb s3 hq2; have z4:=yb s4 hq2))
     go_wp2;go_ret;exact ⟨ye.no (fun hp=>(hp k hlt).2 NN.o),ya (ya HG.o (ya (yg (aW _ _ _)) hq)) hq2⟩
    ·have cN:=hid (fun W (hW:nS W (some ⟨sg,0,none⟩) o.syms)=>yjX (some ⟨sg,0,none⟩) cs k o.syms o.syms[k].name W hW hns hlt hN);have NN:=hid hN;clear hN;go_wp2
     go_region_held3 (fun w'=>w'.cell? ⟨wr.heap.size,0,none⟩=some (.string (bs o.syms[k].name))/\w'.cell? ⟨wr.heap.size,1,none⟩=some (.int .i64 o.syms[k].bind)/\w'.cell? ⟨wr.heap.size,2,none⟩=some (.int .i64 o.syms[k].ah)/\w'.cell? ⟨wr.heap.size,3,none⟩=some (.int .i64 o.syms[k].off)/\w'.cell? ⟨g,5,none⟩=some (.slice (some ⟨sg,0,none⟩) o.syms.length cs))
      (go_keep)
      (first | (go_at_call 121; refine (cV.o _ (yw.drew (yw.kept (HO.o.kept HG.o) (aW _ _ _)))).mono ?_; rintro e w' ⟨rfl,hq⟩; have s0:=yb c0.o hq; have s1:=yb c1.o hq; have s2:=yb c2.o hq; have s3:=yb c3.o hq; have s4:=yb c4.o hq) | (go_at_call 122; refine (cN.o _ ?_).mono ?_; (exact ((S.o.grown HG.o).grown (yg (aW _ _ _))).grown hq); rintro e w'' ⟨rfl,hq2⟩; have z0:=yb s0 hq2; have z1:=yb s1 hq2; have z2:=yb s2 hq2; have z3:=yb s3 hq2; have z4:=yb s4 hq2))
     go_wp2
     go_roundw
     case rel=>exact ⟨k+1,by omega,by go_num,fun j hj hjk=>(Nat.lt_succ_iff_lt_or_eq.1 hjk).elim (fun h=>HA.o j hj h) (fun h=>by subst h; exact ⟨HS.o,NN.o⟩),ya (ya HG.o (ya (yg (aW _ _ _)) hq)) hq2⟩
     case measure=>simp [intOf]; omega
   ·have cV:=hid (fun W (hW:yw W g o)=>ygi g o o.syms[k] W hW HN.o HZ.o hl hS);have HS:=hid hS;clear hS;go_wp2;refine wp_region_any (by kernel_rfl) ?_
    change wpAny _ Region.Mode.any _ _ _ _ _ (World.drew (wr.alloc _))
    refine wpAny_take (i:=0) (v:=?_) rfl (by kernel_rfl) (by kernel_rfl) (by kernel_rfl) (fun _ _ _ h=>h) (Or.inl ⟨by rfl,?_⟩) ?_
    rotate_left
    ·intro w; go_simp; with_reducible rfl
    refine wpAny_ready (rs:=[1]) (by kernel_rfl) (by simp) ?_;refine AllReady.cons rfl (fun K hK=>?_) AllReady.nil;go_simp;refine hK _ _ ?_;clear hK K;refine wpAny_ready (rs:=[2]) (by kernel_rfl) (by simp) ?_;refine AllReady.cons rfl (fun K hK=>?_) AllReady.nil;go_simp;go_wp2_with (go_at_call 121; refine (cV.o _ ?_).mono ?_; (exact (yw.drew (yw.kept (HO.o.kept HG.o) (aW _ _ _)))); rintro e w' ⟨rfl,hq⟩)
    refine wpAny_take (i:=3) (v:=?_) rfl (by kernel_rfl) (by kernel_rfl) (by kernel_rfl) (fun _ _ _ h=>h) (Or.inl ⟨by rfl,?_⟩) ?_
    rotate_left
    ·intro w; go_simp; with_reducible rfl
    refine wpAny_take (i:=4) (v:=?_) rfl (by kernel_rfl) (by kernel_rfl) (by kernel_rfl) (fun _ _ _ h=>h) (Or.inl ⟨by rfl,?_⟩) ?_
    rotate_left
    ·intro w; go_simp; with_reducible rfl
    refine wpAny_take (i:=5) (v:=undef) rfl (by kernel_rfl) (by kernel_rfl) (by kernel_rfl) (fun _ _ _ h=>h) (Or.inr ⟨by kernel_rfl,rfl⟩) ?_;refine wpAny_take (i:=6) (v:=undef) rfl (by kernel_rfl) (by kernel_rfl) (by kernel_rfl) (fun _ _ _ h=>h) (Or.inr ⟨by kernel_rfl,rfl⟩) ?_;refine wpAny_take (i:=7) (v:=undef) rfl (by kernel_rfl) (by kernel_rfl) (by kernel_rfl) (fun _ _ _ h=>h) (Or.inr ⟨by kernel_rfl,rfl⟩) ?_;refine wpAny_take (i:=8) (v:=undef) rfl (by kernel_rfl) (by kernel_rfl) (by kernel_rfl) (fun _ _ _ h=>h) (Or.inr ⟨by kernel_rfl,rfl⟩) ?_;refine wpAny_take (i:=9) (v:=undef) rfl (by kernel_rfl) (by kernel_rfl) (by kernel_rfl) (fun _ _ _ h=>h) (Or.inr ⟨by kernel_rfl,rfl⟩) ?_
    refine wpAny_take (i:=10) (v:=undef) rfl (by kernel_rfl) (by kernel_rfl) (by kernel_rfl) (fun _ _ _ h=>h) (Or.inr ⟨by kernel_rfl,rfl⟩) ?_;refine wpAny_take (i:=11) (v:=undef) rfl (by kernel_rfl) (by kernel_rfl) (by kernel_rfl) (fun _ _ _ h=>h) (Or.inr ⟨by kernel_rfl,rfl⟩) ?_;refine wpAny_take (i:=12) (v:=undef) rfl (by kernel_rfl) (by kernel_rfl) (by kernel_rfl) (fun _ _ _ h=>h) (Or.inr ⟨by kernel_rfl,rfl⟩) ?_;refine wpAny_take (i:=13) (v:=undef) rfl (by kernel_rfl) (by kernel_rfl) (by kernel_rfl) (fun _ _ _ h=>h) (Or.inr ⟨by kernel_rfl,rfl⟩) ?_;refine wpAny_take (i:=14) (v:=.bool true) rfl (by kernel_rfl) (by kernel_rfl) (by kernel_rfl) (fun _ _ _ h=>h) (Or.inl ⟨by kernel_rfl,fun _=>by kernel_rfl⟩) ?_
    refine wpAny_done (by kernel_rfl) ?_ _;simp only [oC,oF,oq,oD,iW,iR,iT];go_wp2;go_ret;exact ⟨ye.no (fun hp=>HS.o (hp k hlt).1),ya HG.o (ya (yg (aW _ _ _)) hq)⟩
  ·go_wp2;go_ret;exact ⟨ye.yes fun i hi=>HA.o i hi (by omega),HG.o⟩
def yC (r:Lk.Rel):Prop:=((r.ah=1\/r.ah=2)/\1<=r.kind/\r.kind<=6)\/(r.ah=3/\r.kind=1)
def yk (r:Lk.Rel):Prop:=if r.kind=1\/r.kind=5 then -2048<=r.addend/\r.addend<=2047 else if r.kind=6 then r.addend=4\/r.addend=12 else r.addend=0
def yS (o:Lk.Obj) (r:Lk.Rel):Prop:=if r.kind=6 then r.sym=0 else 0<=r.sym/\r.sym < o.syms.length
def yo (r:Lk.Rel):Int:=if r.kind=4\/r.kind=5 then 2 else if r.kind=6 then r.addend / 4 else 1
def fM (r:Lk.Rel):Value:=.agg #[.int .i64 r.ah,.int .i64 r.off,.int .i64 r.kind,.int .i64 r.sym,.int .i64 r.addend]
theorem yD {r:Lk.Rel} (h:yk r):1<=yo r/\yo r<=3:=by
 unfold yk at h;unfold yo;split
 ·omega
 ·split
  ·rename_i h1 h2;rw [if_neg (by omega),if_pos h2] at h;omega
  ·omega
theorem ygI (r:Lk.Rel) (w:World) :
  Calls Tryz.prog 145 #[fM r] w fun e w'=>ye e (yC r)/\w.grownBy w' none:=by
 have G:=hid (fun o:Obj=>aW w o none);have HQ:=hid (show yC r↔((r.ah=1\/r.ah=2)/\1<=r.kind/\r.kind<=6)\/(r.ah=3/\r.kind=1) from Iff.rfl);unfold fM;generalize yC r=Q at *;obtain ⟨ah,off,kind,sym,addend⟩:=r;simp only at *;by_cases e1:ah=1
 ·subst e1;by_cases c1:1<=kind
  ·have d1:decide (1<=kind)=true:=by simpa using c1
   go_enter Tryz.func145,Tryz.ntmps145;go_wp2;go_ret;exact ⟨ye.of (by rw [HQ.o,decide_eq_true_iff]; simp; omega),G.o _⟩
  ·have d1:decide (1<=kind)=false:=by simp; omega
   go_enter Tryz.func145,Tryz.ntmps145;go_wp2;go_ret;exact ⟨ye.no (by rw [HQ.o]; omega),G.o _⟩
 have d1:(ah == 1)=false:=beq_eq_false_iff_ne.2 e1;by_cases e2:ah=2
 ·subst e2;clear e1;by_cases c1:1<=kind
  ·have d1:decide (1<=kind)=true:=by simpa using c1
   go_enter Tryz.func145,Tryz.ntmps145;go_wp2;go_ret;exact ⟨ye.of (by rw [HQ.o,decide_eq_true_iff]; simp; omega),G.o _⟩
  ·have d1:decide (1<=kind)=false:=by simp; omega
   go_enter Tryz.func145,Tryz.ntmps145;go_wp2;go_ret;exact ⟨ye.no (by rw [HQ.o]; omega),G.o _⟩
 have d2:(ah == 2)=false:=beq_eq_false_iff_ne.2 e2;by_cases e3:ah=3
 ·subst e3;clear e1 e2;go_enter Tryz.func145,Tryz.ntmps145;go_wp2;go_ret;exact ⟨ye.of (by rw [HQ.o,beq_iff_eq]; simp),G.o _⟩
 have d3:(ah == 3)=false:=beq_eq_false_iff_ne.2 e3;have E:=hid (⟨e1,e2,e3⟩:ah≠1/\ah≠2/\ah≠3);clear e1 e2 e3;go_enter Tryz.func145,Tryz.ntmps145;go_wp2;go_ret;exact ⟨ye.no (by rw [HQ.o]; have:=E.o; omega),G.o _⟩
theorem yfL (r:Lk.Rel) (w:World) :
  Calls Tryz.prog 146 #[fM r] w fun e w'=>ye e (yk r)/\w.grownBy w' none:=by
 have G:=hid (fun o:Obj=>aW w o none);have HQ:=hid (show yk r↔if r.kind=1\/r.kind=5 then -2048<=r.addend/\r.addend<=2047 else if r.kind=6 then r.addend=4\/r.addend=12 else r.addend=0 from Iff.rfl);unfold fM;generalize yk r=Q at *;obtain ⟨ah,off,kind,sym,addend⟩:=r;simp only at *;by_cases e1:kind=1\/kind=5
 ·have mR:=hid (show Q↔-2048<=addend/\addend<=2047 from by rw [HQ.o,if_pos e1]);clear HQ;by_cases c1:-2048<=addend
  ·have d1:decide (-2048<=addend)=true:=by simpa using c1
   rcases e1 with rfl | rfl
   all_goals
    go_enter Tryz.func146,Tryz.ntmps146;go_wp2;go_ret;exact ⟨ye.of (by rw [mR.o,decide_eq_true_iff]; omega),G.o _⟩
  ·have d1:decide (-2048<=addend)=false:=by simp; omega
   rcases e1 with rfl | rfl
   all_goals
    go_enter Tryz.func146,Tryz.ntmps146;go_wp2;go_ret;exact ⟨ye.no (by rw [mR.o]; omega),G.o _⟩
 by_cases e6:kind=6
 ·subst e6;have mR:=hid (show Q↔addend=4\/addend=12 from by rw [HQ.o,if_neg (by omega),if_pos rfl]);clear HQ e1;by_cases c1:addend=4
  ·subst c1;go_enter Tryz.func146,Tryz.ntmps146;go_wp2;go_ret;exact ⟨ye.yes (by rw [mR.o]; simp),G.o _⟩
  ·have d1:(addend == 4)=false:=beq_eq_false_iff_ne.2 c1;have C1:=hid c1;clear c1;go_enter Tryz.func146,Tryz.ntmps146;go_wp2;go_ret;exact ⟨ye.of (by rw [mR.o,beq_iff_eq]; have:=C1.o; omega),G.o _⟩
 ·have mR:=hid (show Q↔addend=0 from by rw [HQ.o,if_neg e1,if_neg e6]);have d1:(kind == 1)=false:=beq_eq_false_iff_ne.2 (by omega);have d5:(kind == 5)=false:=beq_eq_false_iff_ne.2 (by omega);have d6:(kind == 6)=false:=beq_eq_false_iff_ne.2 (by omega);clear HQ e1 e6;go_enter Tryz.func146,Tryz.ntmps146;go_wp2;go_ret;exact ⟨ye.of (by rw [mR.o,beq_iff_eq]),G.o _⟩
theorem Qp (r:Lk.Rel) (w:World) (h:r.kind=6->r.addend=4\/r.addend=12) :
  Calls Tryz.prog 152 #[fM r] w fun e w'=>e = .returned (.int .i64 (yo r))/\w.grownBy w' none:=by
 have G:=hid (fun o:Obj=>aW w o none);unfold fM yo;obtain ⟨ah,off,kind,sym,addend⟩:=r;simp only at *;by_cases e4:kind=4
 ·subst e4;go_enter Tryz.func152,Tryz.ntmps152;go_wp2;go_ret;exact ⟨by simp,G.o _⟩
 by_cases e5:kind=5
 ·subst e5;clear e4;go_enter Tryz.func152,Tryz.ntmps152;go_wp2;go_ret;exact ⟨by simp,G.o _⟩
 by_cases e6:kind=6
 ·subst e6;have ha:=h rfl;clear e4 e5 h;rcases ha with rfl | rfl
  all_goals
   go_enter Tryz.func152,Tryz.ntmps152;go_wp2;go_ret;exact ⟨by simp,G.o _⟩
 have d4:(kind == 4)=false:=beq_eq_false_iff_ne.2 e4;have d5:(kind == 5)=false:=beq_eq_false_iff_ne.2 e5;have d6:(kind == 6)=false:=beq_eq_false_iff_ne.2 e6;rw [if_neg (by omega),if_neg e6];clear e4 e5 e6 h;go_enter Tryz.func152,Tryz.ntmps152;go_wp2;go_ret;exact ⟨rfl,G.o _⟩
theorem yk.six {r:Lk.Rel} (h:yk r) (h6:r.kind=6):r.addend=4\/r.addend=12:=by
 unfold yk at h;rw [if_neg (by omega),if_pos h6] at h;exact h
theorem yhE (g:Nat) (o:Lk.Obj) (r:Lk.Rel) (w:World) (h:yw w g o) (hn:ou o) :
  Calls Tryz.prog 147 #[.pointer (some ⟨g,0,none⟩),fM r] w fun e w'=>ye e (yS o r)/\w.grownBy w' none:=by
 have G:=hid (fun o:Obj=>aW w o none);have HQ:=hid (show yS o r↔if r.kind=6 then r.sym=0 else 0<=r.sym/\r.sym < o.syms.length from Iff.rfl);obtain ⟨at_,ct,af,cf,ad,cd,aa,ca,gu,cs,ar,cr,hb,-⟩:=h.open;have k5:=fun ob:Obj=>(hb.grown (aW w ob none) (by simp)).cell 5
 have hns:=hn.2.2.2.2.1;clear h hb hn;unfold fM;generalize yS o r=Q at *;generalize o.syms.length=n at *;obtain ⟨ah,off,kind,sym,addend⟩:=r;simp only at *;have k5':=k5 (.cells #[.int .i64 ah,.int .i64 off,.int .i64 kind,.int .i64 sym,.int .i64 addend] 54);clear k5;by_cases e6:kind=6
 ·subst e6;have mR:=hid (show Q↔sym=0 from by rw [HQ.o,if_pos rfl]);clear HQ;go_enter Tryz.func147,Tryz.ntmps147;go_wp2;go_ret;exact ⟨ye.of (by rw [mR.o,beq_iff_eq]),G.o _⟩
 have mR:=hid (show Q↔0<=sym/\sym < n from by rw [HQ.o,if_neg e6]);have d6:(kind == 6)=false:=beq_eq_false_iff_ne.2 e6;clear HQ e6;by_cases c1:0<=sym
 ·have d1:decide (0<=sym)=true:=by simpa using c1
  go_enter Tryz.func147,Tryz.ntmps147;go_wp2
  go_quiet (fail)
  go_wp2;go_ret;exact ⟨ye.of (by rw [mR.o,decide_eq_true_iff]; omega),yc (G.o _) _⟩
 ·have d1:decide (0<=sym)=false:=by simp; omega
  go_enter Tryz.func147,Tryz.ntmps147;go_wp2
  go_quiet (fail)
  go_wp2;go_ret;exact ⟨ye.no (by rw [mR.o]; omega),yc (G.o _) _⟩
def pG (x:Int):Int:=if x=2 then 4 else if x=3 then 8 else 16
theorem ygQ (g:Nat) (o:Lk.Obj) (ah:Nat) (w:World) (h:yw w g o) (hb4:rD o.align) (h1:1<=ah) (h3:ah<=3) :
  Calls Tryz.prog 148 #[.pointer (some ⟨g,0,none⟩),.int .i64 ah] w fun e w'=>e = .returned (.int .i64 (pG (o.align[ah - 1]'(by have:=hb4.1; omega))))/\w'=w:=by
 obtain ⟨at_,ct,af,cf,ad,cd,aa,ca,gu,cs,ar,cr,hb,-,-,-,q4,-⟩:=h.open;have hl:=hb4.1;have hr:=hb4.2 (ah - 1) (by omega);obtain ⟨ga,off,rfl,hc⟩:=yn.aF q4 (by omega);have hck:=hc (ah - 1) (by omega);have k4:=hb.cell 4;clear h hb hc q4;have g1:(1:Int)<=(ah:Int):=by omega
 have g2:(ah:Int)<=3:=by omega
 have HL:=hid hl;have hl4:4<=o.align.length:=by omega
 have hl5:o.align.length<=4:=by omega
 have hpf:ah - 1 < o.align.length:=by omega
 have hk:w.cell? ⟨ga,off+(ah - 1),none⟩=some (.int .i64 (o.align[ah - 1]'hpf)):=hck;clear hck;show Calls _ _ _ _ fun e w'=>e = .returned (.int .i64 (pG (o.align[ah - 1]'hpf)))/\w'=w
 replace hr:2<=o.align[ah - 1]'hpf/\o.align[ah - 1]'hpf<=4:=hr;generalize o.align[ah - 1]'hpf=x at *;generalize o.align.length=n at *;rcases (show x=2\/x=3\/x=4 from by omega) with rfl | rfl | rfl
 all_goals
  clear hr HL hb4;go_enter Tryz.func148,Tryz.ntmps148;go_wp2;go_ret;exact ⟨by simp [pG],rfl⟩
end Go.Proofs.YtnkkepfcpjllmaaGreatDoor
