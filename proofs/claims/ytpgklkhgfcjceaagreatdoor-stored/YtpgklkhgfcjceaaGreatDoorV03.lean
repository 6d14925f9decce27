
import Derived.Test.YtpgklkhgfcjceaaGreatDoorV02
import Derived.Deep.AppendLies
set_option maxHeartbeats 16000000
set_option maxRecDepth 100000
namespace Go.Proofs.YtpgklkhgfcjceaaGreatDoor
open Go.RowKit
def ig (y:Lk.Sym):List Value:=[.string (bs y.name),.int .i64 y.bind,.int .i64 y.ah,.int .i64 y.off]
def iN (r:Lk.Rel):List Value:=[.int .i64 r.ah,.int .i64 r.off,.int .i64 r.kind,.int .i64 r.sym,.int .i64 r.addend]
theorem UF (W:World) (o:Obj) (cs:Array Value) (t:TypeId):∀ j u,cs.toList[j]?=some u->((W.alloc o).alloc (.cells cs t)).cell? ((⟨W.heap.size+1,0,none⟩:Addr).add j)=some u:=by
 have h:((W.alloc o).alloc (.cells cs t)).heap[W.heap.size+1]?=some (.cells cs t (0,0)):=by
  have:=heap_alloc_new (W.alloc o) (.cells cs t)
  simpa using this
 exact World.news_of_block h
theorem Y5 {w wr w1:World} {o o':Obj} {b:Nat} {s:ByteArray} {p:Nat} {sh:Bool} {row:Option Nat} (hb:b < w.heap.size) (hg:w.grownBy wr (some b)) (hr:bF wr b s p sh) (hk:((wr.alloc o).alloc o').grownBy w1 row) (hrow:∀ g,row=some g->w.heap.size<=g) :
  bF w1 b s p sh/\w.grownBy w1 (some b):=by
 have h1:wr.grownBy (wr.alloc o) none:=aJ wr o none;exact Zr hb (Gp hg h1 (by simp)) (hr.grown h1 (by simp)) hk hrow
theorem Tx {α:Type} (l:List UInt8) (f:Lk.St->α×Lk.St) (hf:∀ st,st.1<=l.length->(f st).2.1<=l.length) (c:Nat) (st:Lk.St) (h:st.1<=l.length):(Lk.aM f c st).2.1<=l.length:=by
 induction c generalizing st with
 | zero=>exact h
 | succ c ih =>
  unfold Lk.aM;split
  ·exact h
  ·exact ih _ (hf st h)
theorem Y4 (l:List UInt8) (st:Lk.St) (h:st.1<=l.length):(Lk.dO l st).2.1<=l.length:=by
 unfold Lk.dO;exact yC _ _ _ (yC _ _ _ (yC _ _ _ (JZ _ _ _ (yC _ _ _ h))))
theorem Y3 (l:List UInt8) (st:Lk.St) (h:st.1<=l.length):(Lk.dL l st).2.1<=l.length:=by
 simp only [Lk.dL];refine yC _ _ _ ?_;refine yC _ _ _ ?_;refine yC _ _ _ ?_;refine yC _ _ _ ?_;exact yC _ _ _ h
theorem JY (l:List UInt8) (n c:Nat) (st:Lk.St) (h:st.1<=l.length):(Lk.aP l n c st).2.1<=l.length:=by
 rw [Lk.oV]; exact Tx l _ (fun st h=>yC l n st h) c st h
theorem yhm (b:Nat) (s:ByteArray) (p count:Nat) (sh:Bool) (w:World) (h:bF w b s p sh)
  (hs:s.size<=1048576) (hp:p<=s.size) (hc:count<=65535) :
  Calls Tryz.prog 210 #[.pointer (some ⟨b,0,none⟩),.int .i64 count] w fun e w'=>∃ v,e = .returned v /\
   w'.ownsRow w.heap.size 100 4 v (Lk.aM (Lk.dO (sl s)) count (p,sh)).1.length ((Lk.aM (Lk.dO (sl s)) count (p,sh)).1.flatMap ig) /\
   bF w' b s (Lk.aM (Lk.dO (sl s)) count (p,sh)).2.1 (Lk.aM (Lk.dO (sl s)) count (p,sh)).2.2/\w.grownBy w' (some b):=by
 obtain ⟨i0,hi,hz0,hz1,hz2⟩:=info_parts Tryz.xR;have hb:=h.lt;have H:=hid h;clear h;go_enter Tryz.func210,Tryz.ntmps210;go_wp2_with fail
 go_loopw [5,6] (fun v i wr=>∃ (k:Nat) (acc:List Lk.Sym) (st:Lk.St),k<=count/\i = .int .i64 k/\acc.length=k/\st.1<=s.size /\
   wr.ownsRow w.heap.size 100 4 v acc.length (acc.flatMap ig)/\bF wr b s st.1 st.2/\w.grownBy wr (some b) /\
   Lk.aM (Lk.dO (sl s)) count (p,sh)=(acc ++ (Lk.aM (Lk.dO (sl s)) (count - k) st).1,(Lk.aM (Lk.dO (sl s)) (count - k) st).2)) (fun _ i _=>count - (intOf i).toNat)
 case atStart=>exact ⟨0,[],(p,sh),Nat.zero_le _,rfl,rfl,hp,World.ownsRow_nil _ _ _ _,H.o,World.grownBy.refl _ _,by simp⟩
 case round =>
  obtain ⟨k,acc,st,hk,rfl,hacc,hst,hown,hrd,hgr,heq⟩:=hrel;have HE:=hid heq;have HA:=hid hacc;clear heq;by_cases hlt:k < count
  ·cases hsh:st.2
   ·rw [hsh] at hrd;have hsu:count - k=(count - (k+1))+1:=by omega
    have hle:=Y4 (sl s) (st.1,false) (by rw [yq]; exact hst);have cN:=hid (yhZ b s st.1 false wr hrd hs hst);have HN:=hid (show Lk.aM (Lk.dO (sl s)) (count - k) st=((Lk.dO (sl s) (st.1,false)).1 :: (Lk.aM (Lk.dO (sl s)) (count - (k+1)) (Lk.dO (sl s) (st.1,false)).2).1,(Lk.aM (Lk.dO (sl s)) (count - (k+1)) (Lk.dO (sl s) (st.1,false)).2).2) from by
     rw [hsu];have e:st=(st.1,false):=Prod.ext rfl hsh;rw [e]; rfl)
    rw [yq] at hle;clear hsu hsh;generalize Lk.dO (sl s) (st.1,false)=r at *;obtain ⟨x,st'⟩:=r;simp only at cN HN hle;have cS:=hid (PY b s st.1 false wr hrd);have HR:=hid hrd;clear hrd;have BJ:acc.length<=65535:=by omega
    go_wp2_with fail;refine cS.o.mono ?_;rintro e w1 ⟨rfl,rfl⟩;go_wp2_with fail;refine cN.o.mono ?_;rintro e w2 ⟨rfl,u6,iD⟩;have hown2:=JU hown hb iD;have qw:=ya hgr iD;have HR2:=hid u6;have HG2:=hid qw;have hsz:=qw.size;clear u6 iD qw hown hgr HR cS cN;go_wp2_with (at_builtin; refine wpList_append_own _ rfl _ _ 68 rfl w.heap.size 100 i0 (.agg #[.string ⟨#[]⟩,.int .i64 0,.int .i64 0,.int .i64 0]) 4 40 Tryz.underlying68 hi hz0 hz1 hz2 rfl (by decide) _ _ _ rfl ((hown2.alloc _).alloc _) ⟨w2.heap.size+1,0,none⟩ 1 1 (ig x) rfl rfl (UF _ _ _ _) (by intro u hu; simp [ig] at hu; rcases hu with rfl | rfl | rfl | rfl <;> rfl) (by unfold maxLen; omega) (by omega) (by simp; omega) ?_; intro v' w3 hown' hgrow _)
    have K:=Y5 hb HG2.o HR2.o hgrow (fun g hg=>(hown2.lt g hg).1);clear hgrow hown2;go_wp2
    go_roundw
    case rel =>
     refine ⟨k+1,acc ++ [x],st',by omega,by go_num,by simp [HA.o],hle,?_,K.1,K.2,?_⟩
     ·simpa using hown'
     ·rw [HE.o,HN.o]; simp
    case measure=>simp [intOf]; omega
   ·rw [hsh] at hrd;have hfin:Lk.aM (Lk.dO (sl s)) count (p,sh)=(acc,(st.1,true)):=by
     have hsu:count - k=(count - (k+1))+1:=by omega
     rw [HE.o,hsu];have e:st=(st.1,true):=Prod.ext rfl hsh;rw [e];simp [Lk.aM]
    have HF:=hid hfin;clear hfin hsh HE;have cS:=hid (PY b s st.1 true wr hrd);have HR:=hid hrd;clear hrd;go_wp2_with fail;refine cS.o.mono ?_;rintro e w1 ⟨rfl,rfl⟩;go_wp2;go_ret;rw [HF.o];exact ⟨_,rfl,hown,HR.o,hgr⟩
  ·have hfin:Lk.aM (Lk.dO (sl s)) count (p,sh)=(acc,st):=by
    have hsu:count - k=0:=by omega
    rw [HE.o,hsu];simp [Lk.aM]
   have HF:=hid hfin;clear hfin HE;have HR:=hid hrd;clear hrd;have hd:decide ((k:Int) < (count:Int))=false:=by simp; omega
   go_wp2;go_ret;rw [HF.o];exact ⟨_,rfl,hown,HR.o,hgr⟩
theorem yhX (b:Nat) (s:ByteArray) (p count:Nat) (sh:Bool) (w:World) (h:bF w b s p sh)
  (hs:s.size<=1048576) (hp:p<=s.size) (hc:count<=65535) :
  Calls Tryz.prog 211 #[.pointer (some ⟨b,0,none⟩),.int .i64 count] w fun e w'=>∃ v,e = .returned v /\
   w'.ownsRow w.heap.size 102 5 v (Lk.aM (Lk.dL (sl s)) count (p,sh)).1.length ((Lk.aM (Lk.dL (sl s)) count (p,sh)).1.flatMap iN) /\
   bF w' b s (Lk.aM (Lk.dL (sl s)) count (p,sh)).2.1 (Lk.aM (Lk.dL (sl s)) count (p,sh)).2.2/\w.grownBy w' (some b):=by
 obtain ⟨i0,hi,hz0,hz1,hz2⟩:=info_parts Tryz.sZ;have hb:=h.lt;have H:=hid h;clear h;go_enter Tryz.func211,Tryz.ntmps211;go_wp2_with fail
 go_loopw [5,6] (fun v i wr=>∃ (k:Nat) (acc:List Lk.Rel) (st:Lk.St),k<=count/\i = .int .i64 k/\acc.length=k/\st.1<=s.size /\
   wr.ownsRow w.heap.size 102 5 v acc.length (acc.flatMap iN)/\bF wr b s st.1 st.2/\w.grownBy wr (some b) /\
   Lk.aM (Lk.dL (sl s)) count (p,sh)=(acc ++ (Lk.aM (Lk.dL (sl s)) (count - k) st).1,(Lk.aM (Lk.dL (sl s)) (count - k) st).2)) (fun _ i _=>count - (intOf i).toNat)
 case atStart=>exact ⟨0,[],(p,sh),Nat.zero_le _,rfl,rfl,hp,World.ownsRow_nil _ _ _ _,H.o,World.grownBy.refl _ _,by simp⟩
 case round =>
  obtain ⟨k,acc,st,hk,rfl,hacc,hst,hown,hrd,hgr,heq⟩:=hrel;have HE:=hid heq;have HA:=hid hacc;clear heq;by_cases hlt:k < count
  ·cases hsh:st.2
   ·rw [hsh] at hrd;have hsu:count - k=(count - (k+1))+1:=by omega
    have hle:=Y3 (sl s) (st.1,false) (by rw [yq]; exact hst);have cN:=hid (yiR b s st.1 false wr hrd hs hst);have HN:=hid (show Lk.aM (Lk.dL (sl s)) (count - k) st=((Lk.dL (sl s) (st.1,false)).1 :: (Lk.aM (Lk.dL (sl s)) (count - (k+1)) (Lk.dL (sl s) (st.1,false)).2).1,(Lk.aM (Lk.dL (sl s)) (count - (k+1)) (Lk.dL (sl s) (st.1,false)).2).2) from by
     rw [hsu];have e:st=(st.1,false):=Prod.ext rfl hsh;rw [e]; rfl)
    rw [yq] at hle;clear hsu hsh;generalize Lk.dL (sl s) (st.1,false)=r at *;obtain ⟨x,st'⟩:=r;simp only at cN HN hle;have cS:=hid (PY b s st.1 false wr hrd);have HR:=hid hrd;clear hrd;have BJ:acc.length<=65535:=by omega
    go_wp2_with fail;refine cS.o.mono ?_;rintro e w1 ⟨rfl,rfl⟩;go_wp2_with fail;refine cN.o.mono ?_;rintro e w2 ⟨rfl,u6,iD⟩;have hown2:=JU hown hb iD;have qw:=ya hgr iD;have HR2:=hid u6;have HG2:=hid qw;have hsz:=qw.size;clear u6 iD qw hown hgr HR cS cN;go_wp2_with (at_builtin; refine wpList_append_own _ rfl _ _ 69 rfl w.heap.size 102 i0 (.agg #[.int .i64 0,.int .i64 0,.int .i64 0,.int .i64 0,.int .i64 0]) 5 40 Tryz.underlying69 hi hz0 hz1 hz2 rfl (by decide) _ _ _ rfl ((hown2.alloc _).alloc _) ⟨w2.heap.size+1,0,none⟩ 1 1 (iN x) rfl rfl (UF _ _ _ _) (by intro u hu; simp [iN] at hu; rcases hu with rfl | rfl | rfl | rfl | rfl <;> rfl) (by unfold maxLen; omega) (by omega) (by simp; omega) ?_; intro v' w3 hown' hgrow _)
    have K:=Y5 hb HG2.o HR2.o hgrow (fun g hg=>(hown2.lt g hg).1);clear hgrow hown2;go_wp2
    go_roundw
    case rel =>
     refine ⟨k+1,acc ++ [x],st',by omega,by go_num,by simp [HA.o],hle,?_,K.1,K.2,?_⟩
     ·simpa using hown'
     ·rw [HE.o,HN.o]; simp
    case measure=>simp [intOf]; omega
   ·rw [hsh] at hrd;have hfin:Lk.aM (Lk.dL (sl s)) count (p,sh)=(acc,(st.1,true)):=by
     have hsu:count - k=(count - (k+1))+1:=by omega
     rw [HE.o,hsu];have e:st=(st.1,true):=Prod.ext rfl hsh;rw [e];simp [Lk.aM]
    have HF:=hid hfin;clear hfin hsh HE;have cS:=hid (PY b s st.1 true wr hrd);have HR:=hid hrd;clear hrd;go_wp2_with fail;refine cS.o.mono ?_;rintro e w1 ⟨rfl,rfl⟩;go_wp2;go_ret;rw [HF.o];exact ⟨_,rfl,hown,HR.o,hgr⟩
  ·have hfin:Lk.aM (Lk.dL (sl s)) count (p,sh)=(acc,st):=by
    have hsu:count - k=0:=by omega
    rw [HE.o,hsu];simp [Lk.aM]
   have HF:=hid hfin;clear hfin HE;have HR:=hid hrd;clear hrd;have hd:decide ((k:Int) < (count:Int))=false:=by simp; omega
   go_wp2;go_ret;rw [HF.o];exact ⟨_,rfl,hown,HR.o,hgr⟩
theorem yH (l:List UInt8):(bs l).toList=l:=by
 rw [ByteArray.toList_eq]; simp [bs]
theorem yX {w:World} {base base':Nat} {e:TypeId} {size:Nat} {v:Value} {n:Nat} {xs:List Value} (h:w.ownsRow base e size v n xs) (hb:base'<=base):w.ownsRow base' e size v n xs:=by
 refine ⟨h.1,?_⟩;rcases h.2 with h2 | ⟨g,cap,cur,hv,hg,r⟩
 ·exact .inl h2
 ·exact .inr ⟨g,cap,cur,hv,by omega,r⟩
theorem yi {w:World} {base:Nat} {e:TypeId} {size:Nat} {v:Value} {n:Nat} {xs:List Value} (h:w.ownsRow base e size v n xs):∃ ao cap,v = .slice ao n cap:=by
 rcases h.2 with ⟨h1,h2⟩ | ⟨g,cap,cur,hv,_⟩
 ·exact ⟨none,0,by rw [h1,h2]⟩
 ·exact ⟨_,cap,hv⟩
structure Row where
 e:TypeId
 size:Nat
 v:Value
 n:Nat
 xs:List Value
def Row.In (r:Row) (W:World) (base:Nat):Prop:=W.ownsRow base r.e r.size r.v r.n r.xs
structure qV (w:World) (b g:Nat) (s:ByteArray) (p:Nat) (sh:Bool) (cs:Array Value) (rows:List Row) (W:World):Prop where
 rd:bF W b s p sh
 obj:yc W g cs 71
 rows:∀ r∈rows,r.In W (g+1)
 gr:w.grownBy W (some b)
section
variable {w W W':World} {b g:Nat} {s:ByteArray} {cs:Array Value} {rows:List Row} {p p':Nat} {sh sh':Bool}
theorem qV.begin (h:bF W b s p sh) (hg:w.grownBy W (some b)) (cs:Array Value):qV w b W.heap.size s p sh cs [] (W.alloc (.cells cs 71)) :=
 ⟨h.grown (aJ W _ none) (by simp),yc.new W cs 71,(by simp),Gp hg (aJ W _ none) (by simp)⟩
theorem qV.call (h:qV w b g s p sh cs rows W) (hb:b < g) (hr:bF W' b s p' sh') (hg:W.grownBy W' (some b)):qV w b g s p' sh' cs rows W' :=
 ⟨hr,h.obj.grown hg (by simp; omega),fun r hr=>JU (h.rows r hr) (by omega) hg,ya h.gr hg⟩
theorem qV.row (h:qV w b g s p sh cs rows W) (hb:b < g) (hr:bF W' b s p' sh') (hg:W.grownBy W' (some b)) (r:Row) (hrow:r.In W' W.heap.size):qV w b g s p' sh' cs (r :: rows) W':=by
 have h1:=h.call hb hr hg;refine ⟨h1.rd,h1.obj,?_,h1.gr⟩;intro q hq;rcases List.mem_cons.1 hq with rfl | hq
 ·exact yX hrow h.obj.lt
 ·exact h1.rows q hq
theorem qV.store (h:qV w b g s p sh cs rows W) (hb:b < g) (hw:w.heap.size<=g) (o:Nat) (v:Value):qV w b g s p sh (cs.setIfInBounds o v) rows (W.setCell ⟨g,o,none⟩ v) :=
 ⟨h.rd.grown (ye W g o v) (by simp; omega),h.obj.set o v,fun r hr=>ownsRow_setCell_below (h.rows r hr) (Nat.lt_succ_self g) v,Gp h.gr (ye W g o v) (by simp; omega)⟩
end
def yu (W:World) (g:Nat) (o:Lk.Obj):Prop :=
 ∃ vt vf vd va vs vr,yc W g #[vt,vf,vd,.int .i64 o.bss,va,vs,vr] 71 /\
  W.ownsRow 0 3 1 vt o.text.length (o.text.map (Value.int .i64))/\W.ownsRow 0 3 1 vf o.far.length (o.far.map (Value.int .i64)) /\
  W.ownsRow 0 3 1 vd o.data.length (o.data.map (Value.int .i64))/\W.ownsRow 0 3 1 va o.align.length (o.align.map (Value.int .i64)) /\
  W.ownsRow 0 100 4 vs o.syms.length (o.syms.flatMap ig)/\W.ownsRow 0 102 5 vr o.aj.length (o.aj.flatMap iN)
theorem JL (b:Nat) (s:ByteArray) (p count size:Nat) (mc ms:Int) (hmc:mc=(count:Int)) (hms:ms=(size:Int)) (sh:Bool) (w:World) (h:bF w b s p sh)
  (hs:s.size<=1048576) (hp:p<=s.size) (hc:count<=65535) (hm:size<=4) :
  Calls Tryz.prog 79 #[.pointer (some ⟨b,0,none⟩),.int .i64 mc,.int .i64 ms] w fun e w'=>∃ v,e = .returned v /\
   w'.ownsRow w.heap.size 3 1 v (Lk.aP (sl s) size count (p,sh)).1.length ((Lk.aP (sl s) size count (p,sh)).1.map (Value.int .i64)) /\
   bF w' b s (Lk.aP (sl s) size count (p,sh)).2.1 (Lk.aP (sl s) size count (p,sh)).2.2/\w.grownBy w' (some b):=by
 subst hmc hms; exact yhl b s p count size sh w h hs hp hc hm
theorem yhn (b:Nat) (s:ByteArray) (p count:Nat) (mc:Int) (hmc:mc=(count:Int)) (sh:Bool) (w:World) (h:bF w b s p sh)
  (hs:s.size<=1048576) (hp:p<=s.size) (hc:count<=65535) :
  Calls Tryz.prog 210 #[.pointer (some ⟨b,0,none⟩),.int .i64 mc] w fun e w'=>∃ v,e = .returned v /\
   w'.ownsRow w.heap.size 100 4 v (Lk.aM (Lk.dO (sl s)) count (p,sh)).1.length ((Lk.aM (Lk.dO (sl s)) count (p,sh)).1.flatMap ig) /\
   bF w' b s (Lk.aM (Lk.dO (sl s)) count (p,sh)).2.1 (Lk.aM (Lk.dO (sl s)) count (p,sh)).2.2/\w.grownBy w' (some b):=by
 subst hmc; exact yhm b s p count sh w h hs hp hc
theorem yhY (b:Nat) (s:ByteArray) (p count:Nat) (mc:Int) (hmc:mc=(count:Int)) (sh:Bool) (w:World) (h:bF w b s p sh)
  (hs:s.size<=1048576) (hp:p<=s.size) (hc:count<=65535) :
  Calls Tryz.prog 211 #[.pointer (some ⟨b,0,none⟩),.int .i64 mc] w fun e w'=>∃ v,e = .returned v /\
   w'.ownsRow w.heap.size 102 5 v (Lk.aM (Lk.dL (sl s)) count (p,sh)).1.length ((Lk.aM (Lk.dL (sl s)) count (p,sh)).1.flatMap iN) /\
   bF w' b s (Lk.aM (Lk.dL (sl s)) count (p,sh)).2.1 (Lk.aM (Lk.dL (sl s)) count (p,sh)).2.2/\w.grownBy w' (some b):=by
 subst hmc; exact yhX b s p count sh w h hs hp hc
theorem yhW (b:Nat) (s:ByteArray) (p:Nat) (sh:Bool) (w:World) (h:bF w b s p sh)
  (hs:s.size<=1048576) (hp:p<=s.size) (hmark:(Lk.aH (sl s) 2 (p,sh)).1=[76,75]) :
  Calls Tryz.prog 163 #[.pointer (some ⟨b,0,none⟩)] w fun e w'=>∃ g,e = .returned (.pointer (some ⟨g,0,none⟩))/\w.heap.size<=g /\
   yu w' g (Lk.iM (sl s) (Lk.aH (sl s) 2 (p,sh)).2).1 /\
   bF w' b s (Lk.iM (sl s) (Lk.aH (sl s) 2 (p,sh)).2).2.1 (Lk.iM (sl s) (Lk.aH (sl s) 2 (p,sh)).2).2.2/\w.grownBy w' (some b):=by
 have hb:=h.lt;have hlen:=yq s;have l0:=JZ (sl s) 2 (p,sh) (by rw [hlen]; exact hp);have c0:=fun W h=>JW b s p 2 2 rfl sh W h hs hp (by omega)
 generalize Lk.aH (sl s) 2 (p,sh)=x0 at *;obtain ⟨mk,p0,s0⟩:=x0;simp only at hmark;subst hmark;rw [hlen] at l0;unfold Lk.iM;simp only at *;have b1:=yP (sl s) 2 (p0,s0);have l1:=yC (sl s) 2 (p0,s0) (by rw [hlen]; exact l0);have c1:=fun W h=>yJ b s p0 2 2 rfl s0 W h hs l0 (by omega)
 generalize Lk.rdNum (sl s) 2 (p0,s0)=x1 at *;obtain ⟨text,p1,s1⟩:=x1;rw [hlen] at l1;simp only [Int.reducePow] at *;have b2:=yP (sl s) 2 (p1,s1);have l2:=yC (sl s) 2 (p1,s1) (by rw [hlen]; exact l1);have c2:=fun W h=>yJ b s p1 2 2 rfl s1 W h hs l1 (by omega)
 generalize Lk.rdNum (sl s) 2 (p1,s1)=x2 at *;obtain ⟨far,p2,s2⟩:=x2;rw [hlen] at l2;simp only [Int.reducePow] at *;have b3:=yP (sl s) 2 (p2,s2);have l3:=yC (sl s) 2 (p2,s2) (by rw [hlen]; exact l2);have c3:=fun W h=>yJ b s p2 2 2 rfl s2 W h hs l2 (by omega)
 generalize Lk.rdNum (sl s) 2 (p2,s2)=x3 at *;obtain ⟨data,p3,s3⟩:=x3;rw [hlen] at l3;simp only [Int.reducePow] at *;have b4:=yP (sl s) 2 (p3,s3);have l4:=yC (sl s) 2 (p3,s3) (by rw [hlen]; exact l3);have c4:=fun W h=>yJ b s p3 2 2 rfl s3 W h hs l3 (by omega)
 generalize Lk.rdNum (sl s) 2 (p3,s3)=x4 at *;obtain ⟨bss,p4,s4⟩:=x4;rw [hlen] at l4;simp only [Int.reducePow] at *;have l5:=JY (sl s) 1 4 (p4,s4) (by rw [hlen]; exact l4);have c5:=fun W h=>JL b s p4 4 1 4 1 rfl rfl s4 W h hs l4 (by omega) (by omega)
 generalize Lk.aP (sl s) 1 4 (p4,s4)=x5 at *;obtain ⟨al,p5,s5⟩:=x5;rw [hlen] at l5;simp only at *;have b6:=yP (sl s) 1 (p5,s5);have l6:=yC (sl s) 1 (p5,s5) (by rw [hlen]; exact l5);have c6:=fun W h=>yJ b s p5 1 1 rfl s5 W h hs l5 (by omega)
 generalize Lk.rdNum (sl s) 1 (p5,s5)=x6 at *;obtain ⟨syms,p6,s6⟩:=x6;rw [hlen] at l6;simp only [Int.reducePow] at *;have b7:=yP (sl s) 1 (p6,s6);have l7:=yC (sl s) 1 (p6,s6) (by rw [hlen]; exact l6);have c7:=fun W h=>yJ b s p6 1 1 rfl s6 W h hs l6 (by omega)
 generalize Lk.rdNum (sl s) 1 (p6,s6)=x7 at *;obtain ⟨aj,p7,s7⟩:=x7;rw [hlen] at l7;simp only [Int.reducePow] at *;have l8:=Tx (sl s) _ (Y4 (sl s)) syms.toNat (p7,s7) (by rw [hlen]; exact l7)
 have c8:=fun W h=>yhn b s p7 syms.toNat syms (by omega) s7 W h hs l7 (by omega)
 generalize Lk.aM (Lk.dO (sl s)) syms.toNat (p7,s7)=x8 at *;obtain ⟨ys,p8,s8⟩:=x8;rw [hlen] at l8;simp only at *;have l9:=Tx (sl s) _ (Y3 (sl s)) aj.toNat (p8,s8) (by rw [hlen]; exact l8)
 have c9:=fun W h=>yhY b s p8 aj.toNat aj (by omega) s8 W h hs l8 (by omega)
 generalize Lk.aM (Lk.dL (sl s)) aj.toNat (p8,s8)=x9 at *;obtain ⟨rs,p9,s9⟩:=x9;rw [hlen] at l9;simp only at *;have l10:=JY (sl s) 4 text.toNat (p9,s9) (by rw [hlen]; exact l9)
 have c10:=fun W h=>JL b s p9 text.toNat 4 text 4 (by omega) rfl s9 W h hs l9 (by omega) (by omega)
 generalize Lk.aP (sl s) 4 text.toNat (p9,s9)=x10 at *;obtain ⟨tx,vZ,s10⟩:=x10;rw [hlen] at l10;simp only at *;have zN:=JY (sl s) 4 far.toNat (vZ,s10) (by rw [hlen]; exact l10)
 have c11:=fun W h=>JL b s vZ far.toNat 4 far 4 (by omega) rfl s10 W h hs l10 (by omega) (by omega)
 generalize Lk.aP (sl s) 4 far.toNat (vZ,s10)=Sr at *;obtain ⟨fx,CJ,s11⟩:=Sr;rw [hlen] at zN;simp only at *;have Fy:=JY (sl s) 4 data.toNat (CJ,s11) (by rw [hlen]; exact zN)
 have c12:=fun W h=>JL b s CJ data.toNat 4 data 4 (by omega) rfl s11 W h hs zN (by omega) (by omega)
 generalize Lk.aP (sl s) 4 data.toNat (CJ,s11)=x12 at *;obtain ⟨dx,Ap,s12⟩:=x12;rw [hlen] at Fy;simp only at *;replace c0:=hid c0;replace c1:=hid c1;replace c2:=hid c2;replace c3:=hid c3;replace c4:=hid c4;replace c5:=hid c5;replace c6:=hid c6;replace c7:=hid c7;replace c8:=hid c8;replace c9:=hid c9;replace c10:=hid c10;replace c11:=hid c11;replace c12:=hid c12;have H:=hid h;clear h hlen;have ht:((bs [76,75]).toList == [76,75])=true:=by rw [yH]; rfl
 go_enter Tryz.func163,Tryz.ntmps163;go_wp2_with fail;refine (c0.o w H.o).mono ?_;rintro e W0 ⟨rfl,r0,q0⟩;replace r0:=hid r0;replace q0:=hid q0;go_wp2_with fail;refine (c1.o W0 r0.o).mono ?_;rintro e W1 ⟨rfl,r1,g1⟩;have q1:=hid (ya q0.o g1);replace r1:=hid r1;clear g1 r0 q0;go_wp2_with fail;refine (c2.o W1 r1.o).mono ?_;rintro e W2 ⟨rfl,r2,g2⟩;have q2:=hid (ya q1.o g2);replace r2:=hid r2;clear g2 r1 q1;go_wp2_with fail;refine (c3.o W2 r2.o).mono ?_;rintro e W3 ⟨rfl,r3,g3⟩;have q3:=hid (ya q2.o g3);replace r3:=hid r3;clear g3 r2 q2;go_wp2_with fail;have hbg:b < W3.heap.size:=r3.o.lt;have hwg:w.heap.size<=W3.heap.size:=q3.o.size
 generalize hG:W3.heap.size=g at *;refine Calls.aL (qV w b g s p3 s3 #[.slice none 0 0,.slice none 0 0,.slice none 0 0,.int .i64 0,.slice none 0 0,.slice none 0 0,.slice none 0 0] []) (by rw [<- hG]; exact qV.begin r3.o q3.o _) ?_;clear r3 q3 hG;intro V3 h3;refine (c4.o V3 h3.rd).mono ?_;rintro e U4 ⟨rfl,r,q⟩;have S4:=hid (h3.call hbg r q);clear r q h3;have k:=S4.o.obj.cell 3;have f:=S4.o.obj.free 3;go_wp2_with fail;refine Calls.aL (qV w b g s p4 s4 #[.slice none 0 0,.slice none 0 0,.slice none 0 0,.int .i64 bss,.slice none 0 0,.slice none 0 0,.slice none 0 0] []) (S4.o.store hbg hwg 3 _) ?_;clear k f S4 U4
 intro V4 h4;refine (c5.o V4 h4.rd).mono ?_;rintro e U5 ⟨va,rfl,o,r,q⟩;obtain ⟨uT,uU,rfl⟩:=yi o;have S5:=hid (h4.row hbg r q ⟨3,1,(.slice uT al.length uU),al.length,al.map (Value.int .i64)⟩ o);clear r q o h4;have k:=S5.o.obj.cell 4;have f:=S5.o.obj.free 4;go_wp2_with fail;refine Calls.aL (qV w b g s p5 s5 #[.slice none 0 0,.slice none 0 0,.slice none 0 0,.int .i64 bss,(.slice uT al.length uU),.slice none 0 0,.slice none 0 0] [⟨3,1,(.slice uT al.length uU),al.length,al.map (Value.int .i64)⟩]) (S5.o.store hbg hwg 4 _) ?_;clear k f S5 U5;intro V5 h5;refine (c6.o V5 h5.rd).mono ?_;rintro e U6 ⟨rfl,r,q⟩
 have S6:=hid (h5.call hbg r q);clear r q h5;go_wp2_with fail;refine Calls.aL (qV w b g s p6 s6 #[.slice none 0 0,.slice none 0 0,.slice none 0 0,.int .i64 bss,(.slice uT al.length uU),.slice none 0 0,.slice none 0 0] [⟨3,1,(.slice uT al.length uU),al.length,al.map (Value.int .i64)⟩]) S6.o ?_;clear S6 U6;intro V6 h6;refine (c7.o V6 h6.rd).mono ?_;rintro e U7 ⟨rfl,r,q⟩;have S7:=hid (h6.call hbg r q);clear r q h6;go_wp2_with fail;refine Calls.aL (qV w b g s p7 s7 #[.slice none 0 0,.slice none 0 0,.slice none 0 0,.int .i64 bss,(.slice uT al.length uU),.slice none 0 0,.slice none 0 0] [⟨3,1,(.slice uT al.length uU),al.length,al.map (Value.int .i64)⟩]) S7.o ?_
 clear S7 U7;intro V7 h7;refine (c8.o V7 h7.rd).mono ?_;rintro e U8 ⟨vs,rfl,o,r,q⟩;obtain ⟨Bp,Bv,rfl⟩:=yi o;have S8:=hid (h7.row hbg r q ⟨100,4,(.slice Bp ys.length Bv),ys.length,ys.flatMap ig⟩ o);clear r q o h7;have k:=S8.o.obj.cell 5;have f:=S8.o.obj.free 5;go_wp2_with fail;refine Calls.aL (qV w b g s p8 s8 #[.slice none 0 0,.slice none 0 0,.slice none 0 0,.int .i64 bss,(.slice uT al.length uU),(.slice Bp ys.length Bv),.slice none 0 0] [⟨100,4,(.slice Bp ys.length Bv),ys.length,ys.flatMap ig⟩,⟨3,1,(.slice uT al.length uU),al.length,al.map (Value.int .i64)⟩]) (S8.o.store hbg hwg 5 _) ?_;clear k f S8 U8
 intro V8 h8;refine (c9.o V8 h8.rd).mono ?_;rintro e U9 ⟨vr,rfl,o,r,q⟩;obtain ⟨EK,Fa,rfl⟩:=yi o;have S9:=hid (h8.row hbg r q ⟨102,5,(.slice EK rs.length Fa),rs.length,rs.flatMap iN⟩ o);clear r q o h8;have k:=S9.o.obj.cell 6;have f:=S9.o.obj.free 6;go_wp2_with fail;refine Calls.aL (qV w b g s p9 s9 #[.slice none 0 0,.slice none 0 0,.slice none 0 0,.int .i64 bss,(.slice uT al.length uU),(.slice Bp ys.length Bv),(.slice EK rs.length Fa)] [⟨102,5,(.slice EK rs.length Fa),rs.length,rs.flatMap iN⟩,⟨100,4,(.slice Bp ys.length Bv),ys.length,ys.flatMap ig⟩,⟨3,1,(.slice uT al.length uU),al.length,al.map (Value.int .i64)⟩]) (S9.o.store hbg hwg 6 _) ?_
 clear k f S9 U9;intro V9 h9;refine (c10.o V9 h9.rd).mono ?_;rintro e QG ⟨vt,rfl,o,r,q⟩;obtain ⟨Iu,IQ,rfl⟩:=yi o;have qW:=hid (h9.row hbg r q ⟨3,1,(.slice Iu tx.length IQ),tx.length,tx.map (Value.int .i64)⟩ o);clear r q o h9;have k:=qW.o.obj.cell 0;have f:=qW.o.obj.free 0;go_wp2_with fail;refine Calls.aL (qV w b g s vZ s10 #[(.slice Iu tx.length IQ),.slice none 0 0,.slice none 0 0,.int .i64 bss,(.slice uT al.length uU),(.slice Bp ys.length Bv),(.slice EK rs.length Fa)] [⟨3,1,(.slice Iu tx.length IQ),tx.length,tx.map (Value.int .i64)⟩,⟨102,5,(.slice EK rs.length Fa),rs.length,rs.flatMap iN⟩,⟨100,4,(.slice Bp ys.length Bv),ys.length,ys.flatMap ig⟩,⟨3,1,(.slice uT al.length uU),al.length,al.map (Value.int .i64)⟩]) (qW.o.store hbg hwg 0 _) ?_
 clear k f qW QG;intro LY h10;refine (c11.o LY h10.rd).mono ?_;rintro e VL ⟨vf,rfl,o,r,q⟩;obtain ⟨Ma,Mi,rfl⟩:=yi o;have rX:=hid (h10.row hbg r q ⟨3,1,(.slice Ma fx.length Mi),fx.length,fx.map (Value.int .i64)⟩ o);clear r q o h10;have k:=rX.o.obj.cell 1;have f:=rX.o.obj.free 1;go_wp2_with fail;refine Calls.aL (qV w b g s CJ s11 #[(.slice Iu tx.length IQ),(.slice Ma fx.length Mi),.slice none 0 0,.int .i64 bss,(.slice uT al.length uU),(.slice Bp ys.length Bv),(.slice EK rs.length Fa)] [⟨3,1,(.slice Ma fx.length Mi),fx.length,fx.map (Value.int .i64)⟩,⟨3,1,(.slice Iu tx.length IQ),tx.length,tx.map (Value.int .i64)⟩,⟨102,5,(.slice EK rs.length Fa),rs.length,rs.flatMap iN⟩,⟨100,4,(.slice Bp ys.length Bv),ys.length,ys.flatMap ig⟩,⟨3,1,(.slice uT al.length uU),al.length,al.map (Value.int .i64)⟩]) (rX.o.store hbg hwg 1 _) ?_
 clear k f rX VL;intro LZ h11;refine (c12.o LZ h11.rd).mono ?_;rintro e U12 ⟨vd,rfl,o,r,q⟩;obtain ⟨Oo,OA,rfl⟩:=yi o;have zw:=hid (h11.row hbg r q ⟨3,1,(.slice Oo dx.length OA),dx.length,dx.map (Value.int .i64)⟩ o);clear r q o h11;have k:=zw.o.obj.cell 2;have f:=zw.o.obj.free 2;go_wp2;go_ret;have F:=zw.o.store hbg hwg 2 (.slice Oo dx.length OA);refine ⟨g,rfl,hwg,⟨(.slice Iu tx.length IQ),(.slice Ma fx.length Mi),(.slice Oo dx.length OA),(.slice uT al.length uU),(.slice Bp ys.length Bv),(.slice EK rs.length Fa),F.obj,?_,?_,?_,?_,?_,?_⟩,F.rd,F.gr⟩
 ·exact yX (F.rows ⟨3,1,(.slice Iu tx.length IQ),tx.length,tx.map (Value.int .i64)⟩ (by simp)) (Nat.zero_le _)
 ·exact yX (F.rows ⟨3,1,(.slice Ma fx.length Mi),fx.length,fx.map (Value.int .i64)⟩ (by simp)) (Nat.zero_le _)
 ·exact yX (F.rows ⟨3,1,(.slice Oo dx.length OA),dx.length,dx.map (Value.int .i64)⟩ (by simp)) (Nat.zero_le _)
 ·exact yX (F.rows ⟨3,1,(.slice uT al.length uU),al.length,al.map (Value.int .i64)⟩ (by simp)) (Nat.zero_le _)
 ·exact yX (F.rows ⟨100,4,(.slice Bp ys.length Bv),ys.length,ys.flatMap ig⟩ (by simp)) (Nat.zero_le _)
 ·exact yX (F.rows ⟨102,5,(.slice EK rs.length Fa),rs.length,rs.flatMap iN⟩ (by simp)) (Nat.zero_le _)
def yy (w:World) (ao:Option Addr) (xs:List Int):Prop :=
 0 < xs.length->∃ g off,ao=some ⟨g,off,none⟩/\∀ i (h:i < xs.length),w.cell? ⟨g,off+i,none⟩=some (.int .i64 xs[i])
theorem yy.aO {w:World} {base:Nat} {ao:Option Addr} {n cap:Nat} {xs:List Int} (h:w.ownsRow base 3 1 (.slice ao n cap) n (xs.map (Value.int .i64))):yy w ao xs:=by
 intro h0;have hn:xs.length=n:=by have:=h.1; simpa using this
 rcases h.2 with ⟨h1,h2⟩ | ⟨g,cap',cur,hv,_⟩
 ·simp at h1; omega
 ·simp only [Value.slice.injEq] at hv;obtain ⟨rfl,_,rfl⟩:=hv;refine ⟨g,0,rfl,fun i hi=>?_⟩
  have:=h.cellAt i (by omega)
  rw [Nat.zero_add,this];simp [hi]
theorem yy.kept {w w':World} {ao:Option Addr} {xs:List Int} (h:yy w ao xs) (hc:∀ a v,w.cell? a=some v->w'.cell? a=some v):yy w' ao xs:=by
 intro h0;obtain ⟨g,off,h1,h2⟩:=h h0;exact ⟨g,off,h1,fun i hi=>hc _ _ (h2 i hi)⟩
def qL (xs:List Int):Prop:=∀ i (h:i < xs.length),0<=xs[i]/\xs[i]<=4294967295
def AJ (xs:List Int):Prop:=xs.length=4/\∀ i (h:i < xs.length),2<=xs[i]/\xs[i]<=4
def yg (e:Ending) (P:Prop):Prop:=∃ b,e = .returned (.bool b)/\(b=true↔P)
theorem yg.yes {P:Prop} (h:P):yg (.returned (.bool true)) P:=⟨true,rfl,by simp [h]⟩
theorem yg.no {P:Prop} (h:¬ P):yg (.returned (.bool false)) P:=⟨false,rfl,by simp [h]⟩
theorem yg.of {P:Prop} {b:Bool} (h:b=true↔P):yg (.returned (.bool b)) P:=⟨b,rfl,h⟩
theorem yg.split {e:Ending} {P:Prop} (h:yg e P):(e = .returned (.bool false)/\Hd (¬ P))\/(e = .returned (.bool true)/\Hd P):=by
 obtain ⟨b,rfl,h2⟩:=h
 cases b
 ·exact .inl ⟨rfl,fun hp=>by have:=h2.2 hp; simp at this⟩
 ·exact .inr ⟨rfl,h2.1 rfl⟩
theorem yg.iff {e:Ending} {P Q:Prop} (h:yg e P) (k:P↔Q):yg e Q:=by
 obtain ⟨b,h1,h2⟩:=h;exact ⟨b,h1,h2.trans k⟩
theorem SC (ao:Option Addr) (cap:Nat) (xs:List Int) (w:World) (h:yy w ao xs) (hn:xs.length<=65535) :
  Calls Tryz.prog 158 #[.slice ao xs.length cap] w fun e w'=>yg e (qL xs)/\w'=w:=by
 have H:=hid h;clear h;go_enter Tryz.func158,Tryz.ntmps158;go_wp2
 go_loop [7] (fun i=>∃ k:Nat,k<=xs.length/\i = .int .i64 k/\∀ j (hj:j < xs.length),j < k->0<=xs[j]/\xs[j]<=4294967295) (fun i=>xs.length - (intOf i).toNat)
 case atStart=>exact ⟨0,Nat.zero_le _,rfl,fun j _ hj=>absurd hj (Nat.not_lt_zero j)⟩
 case round =>
  obtain ⟨k,hk,rfl,hall⟩:=hrel;have HA:=hid hall;clear hall;by_cases hlt:k < xs.length
  ·obtain ⟨g,off,rfl,hc⟩:=H.o (by omega);have hck:=hc k hlt;clear hc;by_cases h1:0<=xs[k]
   ·by_cases h2:xs[k]<=4294967295
    ·go_wp2
     go_round
     case rel=>exact ⟨k+1,by omega,by go_num,fun j hj hjk=>(Nat.lt_succ_iff_lt_or_eq.1 hjk).elim (fun h=>HA.o j hj h) (fun h=>by subst h; exact ⟨h1,h2⟩)⟩
     case measure=>simp [intOf]; omega
    ·have h3:4294967295 < xs[k]:=by omega
     have N:=hid (show ¬ qL xs from fun hw=>h2 (hw k hlt).2);clear h2;go_wp2;go_ret;exact ⟨yg.no N.o,rfl⟩
   ·have h3:xs[k] < 0:=by omega
    have N:=hid (show ¬ qL xs from fun hw=>h1 (hw k hlt).1);clear h1;go_wp2;go_ret;exact ⟨yg.no N.o,rfl⟩
  ·go_wp2;go_ret;exact ⟨yg.yes fun i hi=>HA.o i hi (by omega),rfl⟩
theorem ygJ (ao:Option Addr) (cap:Nat) (xs:List Int) (w:World) (h:yy w ao xs) (hn:xs.length<=65535) :
  Calls Tryz.prog 94 #[.slice ao xs.length cap] w fun e w'=>yg e (AJ xs)/\w'=w:=by
 have H:=hid h;clear h;by_cases h4:xs.length=4
 ·have H4:=hid h4;have hb4:((xs.length:Int) == 4)=true:=by rw [beq_iff_eq]; omega
  clear h4;go_enter Tryz.func94,Tryz.ntmps94;go_wp2
  go_loop [10] (fun i=>∃ k:Nat,k<=xs.length/\i = .int .i64 k/\∀ j (hj:j < xs.length),j < k->2<=xs[j]/\xs[j]<=4) (fun i=>xs.length - (intOf i).toNat)
  case atStart=>exact ⟨0,Nat.zero_le _,rfl,fun j _ hj=>absurd hj (Nat.not_lt_zero j)⟩
  case round =>
   obtain ⟨k,hk,rfl,hall⟩:=hrel;have HA:=hid hall;clear hall;by_cases hlt:k < xs.length
   ·obtain ⟨g,off,rfl,hc⟩:=H.o (by omega);have hck:=hc k hlt;clear hc;by_cases h1:2<=xs[k]
    ·by_cases h2:xs[k]<=4
     ·go_wp2
      go_round
      case rel=>exact ⟨u2,.int .i64 xs[k],.int .i64 (k+1),⟨k+1,by omega,by go_num,fun j hj hjk=>(Nat.lt_succ_iff_lt_or_eq.1 hjk).elim (fun h=>HA.o j hj h) (fun h=>by subst h; exact ⟨h1,h2⟩)⟩,rfl,rfl,rfl⟩
      case measure=>simp [intOf]; omega
     ·have h3:4 < xs[k]:=by omega
      have N:=hid (show ¬ AJ xs from fun hw=>h2 (hw.2 k hlt).2);clear h2;go_wp2;go_ret;exact ⟨yg.no N.o,rfl⟩
    ·have h3:xs[k] < 2:=by omega
     have N:=hid (show ¬ AJ xs from fun hw=>h1 (hw.2 k hlt).1);clear h1;go_wp2;go_ret;exact ⟨yg.no N.o,rfl⟩
   ·go_wp2;go_ret;exact ⟨yg.yes ⟨H4.o,fun i hi=>HA.o i hi (by omega)⟩,rfl⟩
 ·have N:=hid (show ¬ AJ xs from fun hw=>h4 hw.1);have hb4:((xs.length:Int) == 4)=false:=by rw [beq_eq_false_iff_ne]; omega
  clear h4;go_enter Tryz.func94,Tryz.ntmps94;go_wp2;go_ret;exact ⟨yg.no N.o,rfl⟩
theorem yu.kept {W W':World} {g:Nat} {o:Lk.Obj} (h:yu W g o) (hg:W.grownBy W' none):yu W' g o:=by
 obtain ⟨vt,vf,vd,va,vs,vr,hb,h1,h2,h3,h4,h5,h6⟩:=h;have k:∀ {e:TypeId} {size:Nat} {v:Value} {n:Nat} {xs:List Value},W.ownsRow 0 e size v n xs->W'.ownsRow 0 e size v n xs:=by
  intro e size v n xs h;refine h.kept hg ?_
  cases v.ownBlock <;> simp
 exact ⟨vt,vf,vd,va,vs,vr,hb.grown hg (by simp),k h1,k h2,k h3,k h4,k h5,k h6⟩
theorem yu.open {W:World} {g:Nat} {o:Lk.Obj} (h:yu W g o):∃ at_ ct af cf ad cd aa ca gy cs ar cr,
  yc W g #[.slice at_ o.text.length ct,.slice af o.far.length cf,.slice ad o.data.length cd,.int .i64 o.bss,.slice aa o.align.length ca,.slice gy o.syms.length cs,.slice ar o.aj.length cr] 71 /\
  W.ownsRow 0 3 1 (.slice at_ o.text.length ct) o.text.length (o.text.map (Value.int .i64))/\W.ownsRow 0 3 1 (.slice af o.far.length cf) o.far.length (o.far.map (Value.int .i64)) /\
  W.ownsRow 0 3 1 (.slice ad o.data.length cd) o.data.length (o.data.map (Value.int .i64))/\W.ownsRow 0 3 1 (.slice aa o.align.length ca) o.align.length (o.align.map (Value.int .i64)) /\
  W.ownsRow 0 100 4 (.slice gy o.syms.length cs) o.syms.length (o.syms.flatMap ig)/\W.ownsRow 0 102 5 (.slice ar o.aj.length cr) o.aj.length (o.aj.flatMap iN):=by
 obtain ⟨vt,vf,vd,va,vs,vr,hb,h1,h2,h3,h4,h5,h6⟩:=h;obtain ⟨at_,ct,rfl⟩:=yi h1;obtain ⟨af,cf,rfl⟩:=yi h2;obtain ⟨ad,cd,rfl⟩:=yi h3;obtain ⟨aa,ca,rfl⟩:=yi h4;obtain ⟨gy,cs,rfl⟩:=yi h5;obtain ⟨ar,cr,rfl⟩:=yi h6;exact ⟨at_,ct,af,cf,ad,cd,aa,ca,gy,cs,ar,cr,hb,h1,h2,h3,h4,h5,h6⟩
def J9 (o:Lk.Obj):Prop:=(o.text.length<=1200/\o.far.length<=1200/\o.data.length<=64)/\(0<=o.bss/\o.bss<=64)/\o.syms.length<=16/\o.aj.length<=32
def vS (o:Lk.Obj):Prop:=o.text.length<=65535/\o.far.length<=65535/\o.data.length<=65535/\o.align.length<=65535/\o.syms.length<=65535/\o.aj.length<=65535
theorem yii (g:Nat) (o:Lk.Obj) (w:World) (h:yu w g o) (hn:vS o) :
  Calls Tryz.prog 93 #[.pointer (some ⟨g,0,none⟩)] w fun e w'=>yg e (J9 o)/\w'=w:=by
 obtain ⟨at_,ct,af,cf,ad,cd,aa,ca,gy,cs,ar,cr,hb,-⟩:=h.open;have k0:=hb.cell 0;have k1:=hb.cell 1;have k2:=hb.cell 2;have k3:=hb.cell 3;have k5:=hb.cell 5;have k6:=hb.cell 6;obtain ⟨n1,n2,n3,n4,n5,n6⟩:=hn;clear h hb;unfold J9;generalize o.text.length=lt at *;generalize o.far.length=lf at *;generalize o.data.length=ld at *;generalize o.syms.length=ls at *;generalize o.aj.length=lr at *;generalize o.bss=z at *;by_cases c1:lt<=1200
 rotate_left
 ·have D:decide ((1200:Int) < (lt:Int))=true:=by simp; omega
  go_enter Tryz.func93,Tryz.ntmps93;go_wp2;go_ret;exact ⟨yg.no (by omega),rfl⟩
 have d1:decide ((1200:Int) < (lt:Int))=false:=by simp; omega
 by_cases c2:lf<=1200
 rotate_left
 ·have D:decide ((1200:Int) < (lf:Int))=true:=by simp; omega
  go_enter Tryz.func93,Tryz.ntmps93;go_wp2;go_ret;exact ⟨yg.no (by omega),rfl⟩
 have d2:decide ((1200:Int) < (lf:Int))=false:=by simp; omega
 by_cases c3:ld<=64
 rotate_left
 ·have D:decide ((64:Int) < (ld:Int))=true:=by simp; omega
  go_enter Tryz.func93,Tryz.ntmps93;go_wp2;go_ret;exact ⟨yg.no (by omega),rfl⟩
 have d3:decide ((64:Int) < (ld:Int))=false:=by simp; omega
 by_cases c4:0<=z
 rotate_left
 ·have D:decide (z < 0)=true:=by simp; omega
  go_enter Tryz.func93,Tryz.ntmps93;go_wp2;go_ret;exact ⟨yg.no (by omega),rfl⟩
 have d4:decide (z < 0)=false:=by simp; omega
 by_cases c5:z<=64
 rotate_left
 ·have D:decide ((64:Int) < z)=true:=by simp; omega
  go_enter Tryz.func93,Tryz.ntmps93;go_wp2;go_ret;exact ⟨yg.no (by omega),rfl⟩
 have d5:decide ((64:Int) < z)=false:=by simp; omega
 by_cases c6:ls<=16
 rotate_left
 ·have D:decide ((ls:Int)<=16)=false:=by simp; omega
  go_enter Tryz.func93,Tryz.ntmps93;go_wp2;go_ret;exact ⟨yg.no (by omega),rfl⟩
 have d6:decide ((ls:Int)<=16)=true:=by simp; omega
 by_cases c7:lr<=32
 rotate_left
 ·have D:decide ((lr:Int)<=32)=false:=by simp; omega
  go_enter Tryz.func93,Tryz.ntmps93;go_wp2;go_ret;exact ⟨yg.no (by omega),rfl⟩
 have d7:decide ((lr:Int)<=32)=true:=by simp; omega
 go_enter Tryz.func93,Tryz.ntmps93;go_wp2;go_ret;exact ⟨yg.yes (by omega),rfl⟩
def Ic (o:Lk.Obj):Prop:=qL o.text/\qL o.far/\qL o.data
theorem yik (g:Nat) (o:Lk.Obj) (w:World) (h:yu w g o) (hn:vS o) :
  Calls Tryz.prog 95 #[.pointer (some ⟨g,0,none⟩)] w fun e w'=>yg e (Ic o)/\w'=w:=by
 obtain ⟨at_,ct,af,cf,ad,cd,aa,ca,gy,cs,ar,cr,hb,h1,h2,h3,-⟩:=h.open;have k0:=hb.cell 0;have k1:=hb.cell 1;have k2:=hb.cell 2;obtain ⟨n1,n2,n3,n4,n5,n6⟩:=hn;have c1:=hid (SC at_ ct o.text w (yy.aO h1) n1);have c2:=hid (SC af cf o.far w (yy.aO h2) n2);have c3:=hid (SC ad cd o.data w (yy.aO h3) n3);clear h hb h1 h2 h3;unfold Ic;generalize o.text.length=l1 at *;generalize o.far.length=l2 at *;generalize o.data.length=l3 at *;generalize qL o.text=P1 at *;generalize qL o.far=P2 at *;generalize qL o.data=P3 at *;go_enter Tryz.func95,Tryz.ntmps95;go_wp2_with fail;refine c1.o.mono ?_;rintro e w1 ⟨t1,rfl⟩
 rcases t1.split with ⟨rfl,p1⟩ | ⟨rfl,p1⟩ <;> clear t1 c1
 ·go_wp2;go_ret;exact ⟨yg.no (fun hp=>p1.o hp.1),rfl⟩
 go_wp2_with fail;refine c2.o.mono ?_;rintro e w2 ⟨t2,rfl⟩;rcases t2.split with ⟨rfl,p2⟩ | ⟨rfl,p2⟩ <;> clear t2 c2
 ·go_wp2;go_ret;exact ⟨yg.no (fun hp=>p2.o hp.2.1),rfl⟩
 go_wp2_with fail;refine c3.o.mono ?_;rintro e w3 ⟨t3,rfl⟩;rcases t3.split with ⟨rfl,p3⟩ | ⟨rfl,p3⟩ <;> clear t3 c3
 ·go_wp2;go_ret;exact ⟨yg.no (fun hp=>p3.o hp.2.2),rfl⟩
 go_wp2;go_ret;exact ⟨yg.yes ⟨p1.o,p2.o,p3.o⟩,rfl⟩
theorem Tj (c:Int) (w:World) (h1:48<=c) (h2:c<=57) :
  Calls Tryz.prog 130 #[.int .u8 c] w fun e w'=>e = .returned (.bool true)/\w'=w:=by
 go_enter Tryz.func130,Tryz.ntmps130;go_wp2;go_ret;exact ⟨by simp,rfl⟩
theorem KQ (c:Int) (w:World) (h:c < 48\/57 < c) :
  Calls Tryz.prog 130 #[.int .u8 c] w fun e w'=>e = .returned (.bool false)/\w'=w:=by
 by_cases h1:48<=c
 ·have h2:57 < c:=by omega
  clear h;go_enter Tryz.func130,Tryz.ntmps130;go_wp2;go_ret;exact ⟨by simp; omega,rfl⟩
 ·have h2:decide (48<=c)=false:=by simp; omega
  clear h;go_enter Tryz.func130,Tryz.ntmps130;go_wp2;go_ret;exact ⟨rfl,rfl⟩
theorem qU {w:World} {base:Nat} {e:TypeId} {size:Nat} {ao:Option Addr} {n cap:Nat} {xs:List Value} (h:w.ownsRow base e size (.slice ao n cap) n xs):n<=cap/\cap<=maxLen:=by
 rcases h.2 with ⟨h1,h2⟩ | ⟨g,cap',cur,hv,_,_,h3,h4,_⟩
 ·simp at h1; omega
 ·simp only [Value.slice.injEq] at hv;obtain ⟨_,_,rfl⟩:=hv;exact ⟨h3,h4⟩
def yx (o:Lk.Obj) (ah:Int):List Int:=if ah=1 then o.text else if ah=2 then o.far else if ah=3 then o.data else []
theorem Pw (g:Nat) (o:Lk.Obj) (ah:Int) (w:World) (h:yu w g o) :
  Calls Tryz.prog 109 #[.pointer (some ⟨g,0,none⟩),.int .i64 ah] w fun e w'=>∃ ao cap,e = .returned (.slice ao (yx o ah).length cap)/\(yy w ao (yx o ah)/\(yx o ah).length<=cap/\cap<=maxLen)/\w'=w:=by
 obtain ⟨at_,ct,af,cf,ad,cd,aa,ca,gy,cs,ar,cr,hb,h1,h2,h3,-⟩:=h.open;have k0:=hb.cell 0;have k1:=hb.cell 1;have k2:=hb.cell 2;have q1:=hid (yy.aO h1);have q2:=hid (yy.aO h2);have q3:=hid (yy.aO h3);have z1:=hid (qU h1);have z2:=hid (qU h2);have z3:=hid (qU h3);clear h hb h1 h2 h3;unfold yx;by_cases e1:ah=1
 ·subst e1;go_enter Tryz.func109,Tryz.ntmps109;go_wp2;go_ret;exact ⟨at_,ct,rfl,⟨q1.o,z1.o⟩,rfl⟩
 by_cases e2:ah=2
 ·subst e2;go_enter Tryz.func109,Tryz.ntmps109;go_wp2;go_ret;exact ⟨af,cf,rfl,⟨q2.o,z2.o⟩,rfl⟩
 by_cases e3:ah=3
 ·subst e3;go_enter Tryz.func109,Tryz.ntmps109;go_wp2;go_ret;exact ⟨ad,cd,rfl,⟨q3.o,z3.o⟩,rfl⟩
 ·rw [if_neg e1,if_neg e2,if_neg e3];have d1:(ah == 1)=false:=beq_eq_false_iff_ne.2 e1;have d2:(ah == 2)=false:=beq_eq_false_iff_ne.2 e2;have d3:(ah == 3)=false:=beq_eq_false_iff_ne.2 e3;clear e1 e2 e3;go_enter Tryz.func109,Tryz.ntmps109;go_wp2;go_ret;exact ⟨none,0,rfl,⟨fun h=>by simp at h,by simp,by simp⟩,rfl⟩
def xM (o:Lk.Obj) (ah:Int):Int:=if ah=4 then o.bss else (yx o ah).length
theorem JO {o:Lk.Obj} (h:vS o) (ah:Int):(yx o ah).length<=65535:=by
 obtain ⟨n1,n2,n3,n4,n5,n6⟩:=h;unfold yx;split
 ·exact n1
 split
 ·exact n2
 split
 ·exact n3
 ·simp
theorem Ph (g:Nat) (o:Lk.Obj) (ah:Int) (w:World) (h:yu w g o) (hn:vS o) (hz:0<=o.bss/\o.bss<=64) :
  Calls Tryz.prog 87 #[.pointer (some ⟨g,0,none⟩),.int .i64 ah] w fun e w'=>e = .returned (.int .i64 (4 * xM o ah))/\w'=w:=by
 have c:=hid (Pw g o ah w h);have hl:=JO hn ah;obtain ⟨at_,ct,af,cf,ad,cd,aa,ca,gy,cs,ar,cr,hb,-⟩:=h.open;have k3:=hb.cell 3;clear h hb hn;unfold xM;by_cases e1:ah=4
 ·subst e1;obtain ⟨z1,z2⟩:=hz;go_enter Tryz.func87,Tryz.ntmps87;go_wp2;go_ret;exact ⟨by simp,rfl⟩
 ·rw [if_neg e1];have d1:(ah == 4)=false:=beq_eq_false_iff_ne.2 e1;clear e1;generalize yx o ah=ws at *;go_enter Tryz.func87,Tryz.ntmps87;go_wp2_with fail;refine c.o.mono ?_;rintro e w1 ⟨ao,cap,rfl,-,rfl⟩;go_wp2;go_ret;exact ⟨rfl,rfl⟩
def qM (c:Int):Prop:=c=95\/(48<=c/\c<=57)\/(97<=c/\c<=122)
def Ej (s:ByteArray):Prop:=1<=s.size/\s.size<=6/\(∀ h:0 < s.size,¬ (48<=(s[0].toNat:Int)/\(s[0].toNat:Int)<=57))/\∀ i (h:i < s.size),qM (s[i].toNat:Int)
theorem XV (c:Int) (w:World) (h0:0<=c) :
  Calls Tryz.prog 185 #[.int .u8 c] w fun e w'=>yg e (qM c)/\w'=w:=by
 rcases (show c<=47\/(48<=c/\c<=57)\/(58<=c/\c<=94)\/(95<=c/\c<=95)\/(96<=c/\c<=96)\/(97<=c/\c<=122)\/123<=c from by omega) with r | ⟨r1,r2⟩ | ⟨r1,r2⟩ | ⟨r1,r2⟩ | ⟨r1,r2⟩ | ⟨r1,r2⟩ | r
 ·have N:=hid (show ¬ qM c from fun h=>by unfold qM at h; omega);have d1:decide (97<=c)=false:=by simp; omega
  have d2:(c == 95)=false:=by simp; omega
  have cD:=hid (KQ c w (by omega));go_enter Tryz.func185,Tryz.ntmps185;go_wp2_with fail;refine cD.o.mono ?_;rintro e w1 ⟨rfl,rfl⟩;go_wp2;go_ret;exact ⟨yg.no N.o,rfl⟩
 ·have N:=hid (show qM c from by unfold qM; omega);have d1:decide (97<=c)=false:=by simp; omega
  have d2:(c == 95)=false:=by simp; omega
  have cD:=hid (Tj c w r1 r2);go_enter Tryz.func185,Tryz.ntmps185;go_wp2_with fail;refine cD.o.mono ?_;rintro e w1 ⟨rfl,rfl⟩;go_wp2;go_ret;exact ⟨yg.yes N.o,rfl⟩
 ·have N:=hid (show ¬ qM c from fun h=>by unfold qM at h; omega);have d1:decide (97<=c)=false:=by simp; omega
  have d2:(c == 95)=false:=by simp; omega
  have cD:=hid (KQ c w (by omega));go_enter Tryz.func185,Tryz.ntmps185;go_wp2_with fail;refine cD.o.mono ?_;rintro e w1 ⟨rfl,rfl⟩;go_wp2;go_ret;exact ⟨yg.no N.o,rfl⟩
 ·obtain rfl:c=95:=by omega
  go_enter Tryz.func185,Tryz.ntmps185;go_wp2;go_ret;exact ⟨yg.yes (by unfold qM; omega),rfl⟩
 ·obtain rfl:c=96:=by omega
  have cD:=hid (KQ 96 w (by omega));go_enter Tryz.func185,Tryz.ntmps185;go_wp2_with fail;refine cD.o.mono ?_;rintro e w1 ⟨rfl,rfl⟩;go_wp2;go_ret;exact ⟨yg.no (fun h=>by unfold qM at h; omega),rfl⟩
 ·have N:=hid (show qM c from by unfold qM; omega);have d1:decide (97<=c)=true:=by simp; omega
  have d2:decide (c<=122)=true:=by simp; omega
  go_enter Tryz.func185,Tryz.ntmps185;go_wp2;go_ret;exact ⟨yg.yes N.o,rfl⟩
 ·have N:=hid (show ¬ qM c from fun h=>by unfold qM at h; omega);have d1:decide (97<=c)=true:=by simp; omega
  have d3:decide (c<=122)=false:=by simp; omega
  have d2:(c == 95)=false:=by simp; omega
  have cD:=hid (KQ c w (by omega));go_enter Tryz.func185,Tryz.ntmps185;go_wp2_with fail;refine cD.o.mono ?_;rintro e w1 ⟨rfl,rfl⟩;go_wp2;go_ret;exact ⟨yg.no N.o,rfl⟩
theorem ymD (s:ByteArray) (w:World) (hs:s.size<=1048576) :
  Calls Tryz.prog 202 #[.string s] w fun e w'=>yg e (Ej s)/\w'=w:=by
 by_cases c1:s.size < 1
 ·have N:=hid (show ¬ Ej s from fun h=>by have:=h.1; omega);have D:decide ((s.size:Int) < 1)=true:=by simp; omega
  go_enter Tryz.func202,Tryz.ntmps202;go_wp2;go_ret;exact ⟨yg.no N.o,rfl⟩
 by_cases c2:6 < s.size
 ·have N:=hid (show ¬ Ej s from fun h=>by have:=h.2.1; omega);have D1:decide ((s.size:Int) < 1)=false:=by simp; omega
  have D:decide ((6:Int) < (s.size:Int))=true:=by simp; omega
  go_enter Tryz.func202,Tryz.ntmps202;go_wp2;go_ret;exact ⟨yg.no N.o,rfl⟩
 have D1:decide ((s.size:Int) < 1)=false:=by simp; omega
 have D2:decide ((6:Int) < (s.size:Int))=false:=by simp; omega
 have h0:0 < s.size:=by omega
 by_cases c3:48<=(s[0].toNat:Int)/\(s[0].toNat:Int)<=57
 ·have N:=hid (show ¬ Ej s from fun h=>h.2.2.1 h0 c3);have cD:=hid (fun w=>Tj (s[0].toNat:Int) w c3.1 c3.2);clear c3;go_enter Tryz.func202,Tryz.ntmps202;go_wp2_with fail;refine (cD.o _).mono ?_;rintro e w1 ⟨rfl,rfl⟩;go_wp2;go_ret;exact ⟨yg.no N.o,rfl⟩
 have C3:=hid c3;have cD:=hid (fun w=>KQ (s[0].toNat:Int) w (by omega));clear c3;go_enter Tryz.func202,Tryz.ntmps202;go_wp2_with fail;refine (cD.o _).mono ?_;rintro e w1 ⟨rfl,rfl⟩;go_wp2_with fail
 go_loop [3] (fun i=>∃ k:Nat,k<=s.size/\i = .int .i64 k/\∀ j (hj:j < s.size),j < k->qM (s[j].toNat:Int)) (fun i=>s.size - (intOf i).toNat)
 case atStart=>exact ⟨0,Nat.zero_le _,rfl,fun j _ hj=>absurd hj (Nat.not_lt_zero j)⟩
 case round =>
  obtain ⟨k,hk,rfl,hall⟩:=hrel;have HA:=hid hall;clear hall;by_cases hlt:k < s.size
  ·have cM:=hid (fun w=>XV (s[k].toNat:Int) w (by omega));go_wp2_with fail;refine (cM.o _).mono ?_;rintro e w1 ⟨t1,rfl⟩;rcases t1.split with ⟨rfl,p1⟩ | ⟨rfl,p1⟩ <;> clear t1 cM
   ·have N:=hid (show ¬ Ej s from fun h=>p1.o (h.2.2.2 k hlt));go_wp2;go_ret;exact ⟨yg.no N.o,rfl⟩
   ·go_wp2
    go_round
    case rel=>exact ⟨k+1,by omega,by go_num,fun j hj hjk=>(Nat.lt_succ_iff_lt_or_eq.1 hjk).elim (fun h=>HA.o j hj h) (fun h=>by subst h; exact p1.o)⟩
    case measure=>simp [intOf]; omega
  ·go_wp2;go_ret;exact ⟨yg.yes ⟨by omega,by omega,fun _=>C3.o,fun i hi=>HA.o i hi (by omega)⟩,rfl⟩
def nZ (w:World) (ao:Option Addr) (ys:List Lk.Sym):Prop :=
 0 < ys.length->∃ g,ao=some ⟨g,0,none⟩/\g < w.heap.size/\∀ i (h:i < ys.length),w.cell? ⟨g,i * 4,none⟩=some (.string (bs ys[i].name))/\w.cell? ⟨g,i * 4+1,none⟩=some (.int .i64 ys[i].bind) /\
  w.cell? ⟨g,i * 4+2,none⟩=some (.int .i64 ys[i].ah)/\w.cell? ⟨g,i * 4+3,none⟩=some (.int .i64 ys[i].off)
theorem KW {α:Type} (f:α->List Value) (size:Nat) (hf:∀ x,(f x).length=size) (l:List α) (i j:Nat) (hi:i < l.length) (hj:j < size):(l.flatMap f)[i * size+j]?=(f l[i])[j]?:=by
 induction l generalizing i with
 | nil=>simp at hi
 | cons x t ih =>
  rw [List.flatMap_cons]
  cases i with
  | zero =>
   rw [List.getElem?_append_left (by rw [hf]; omega)];simp
  | succ i =>
   rw [List.getElem?_append_right (by rw [hf,Nat.succ_mul]; omega),hf]
   have:(i+1) * size+j - size=i * size+j:=by rw [Nat.succ_mul]; omega
   rw [this,ih i (by simpa using hi)];simp
theorem nZ.aO {w:World} {base:Nat} {ao:Option Addr} {n cap:Nat} {ys:List Lk.Sym} (h:w.ownsRow base 100 4 (.slice ao n cap) n (ys.flatMap ig)):nZ w ao ys:=by
 intro h0;have hl:(ys.flatMap ig).length=ys.length * 4:=by
  clear h h0
  induction ys with
  | nil=>rfl
  | cons y t ih=>rw [List.flatMap_cons,eZ,ih]; simp [ig]; omega
 have hn:ys.length=n:=by have:=h.1; omega
 have hlt:=h.lt;rcases h.2 with ⟨h1,h2⟩ | ⟨g,cap',cur,hv,_⟩
 ·simp at h1; omega
 ·simp only [Value.slice.injEq] at hv;obtain ⟨rfl,_,rfl⟩:=hv;refine ⟨g,rfl,(hlt g rfl).2,fun i hi=>?_⟩;have q:=fun j (hj:j < 4)=>(h.cellAt (i * 4+j) (by omega)).trans (KW ig 4 (fun _=>rfl) ys i j hi hj)
  exact ⟨q 0 (by omega),q 1 (by omega),q 2 (by omega),q 3 (by omega)⟩
theorem nZ.grown {w w':World} {ao:Option Addr} {ys:List Lk.Sym} (h:nZ w ao ys) (hg:w.grownBy w' none):nZ w' ao ys:=by
 intro h0;obtain ⟨g,h1,h2,h3⟩:=h h0;refine ⟨g,h1,Nat.lt_of_lt_of_le h2 hg.size,fun i hi=>?_⟩;obtain ⟨a,b,c,d⟩:=h3 i hi;exact ⟨hg.cell a (by simp),hg.cell b (by simp),hg.cell c (by simp),hg.cell d (by simp)⟩
theorem yoq (ao:Option Addr) (cap:Nat) (ys:List Lk.Sym) (nm:List UInt8) (w:World) (h:nZ w ao ys) (hn:ys.length<=65535) :
  Calls Tryz.prog 160 #[.slice ao ys.length cap,.string (bs nm)] w fun e w'=>yg e (∃ i,∃ h:i < ys.length,ys[i].name=nm)/\w.grownBy w' none:=by
 have H:=hid h;clear h;go_enter Tryz.func160,Tryz.ntmps160;go_wp2
 go_loopw [9] (fun i wr=>∃ k:Nat,k<=ys.length/\i = .int .i64 k/\(∀ j (hj:j < ys.length),j < k->ys[j].name≠nm)/\w.grownBy wr none) (fun i _=>ys.length - (intOf i).toNat)
 case atStart=>exact ⟨0,Nat.zero_le _,rfl,fun j _ hj=>absurd hj (Nat.not_lt_zero j),World.grownBy.refl _ _⟩
 case round =>
  obtain ⟨k,hk,rfl,hall,hgr⟩:=hrel;have HA:=hid hall;have HG:=hid hgr;clear hall hgr;by_cases hlt:k < ys.length
  ·obtain ⟨g,rfl,hgs,hc⟩:=H.o.grown HG.o (by omega);obtain ⟨k0,k1,k2,k3⟩:=hc k hlt;clear hc;by_cases e1:ys[k].name=nm
   ·have E:=hid e1;have b1:((bs ys[k].name).toList == (bs nm).toList)=true:=by rw [e1]; simp
    clear e1;go_wp2;go_ret;exact ⟨yg.yes ⟨k,hlt,E.o⟩,ya HG.o (aJ _ _ _)⟩
   ·have E:=hid e1;have b1:((bs ys[k].name).toList == (bs nm).toList)=false:=by rw [yH,yH]; simpa using e1
    clear e1;go_wp2
    go_roundw
    case rel=>exact ⟨k+1,by omega,by go_num,fun j hj hjk=>(Nat.lt_succ_iff_lt_or_eq.1 hjk).elim (fun h=>HA.o j hj h) (fun h=>by subst h; exact E.o),ya HG.o (aJ _ _ _)⟩
    case measure=>simp [intOf]; omega
  ·go_wp2;go_ret;exact ⟨yg.no (fun ⟨i,hi,h⟩=>HA.o i hi (by omega) h),HG.o⟩
def El (o:Lk.Obj) (y:Lk.Sym):Prop :=
 Ej (bs y.name)/\(0<=y.bind/\y.bind<=2)/\(0<=y.ah/\y.ah<=4)/\¬ (y.ah=0/\y.bind=0)/\0<=y.off/\y.off % 4=0/\y.off<=4 * xM o y.ah
theorem yu.drewN {W:World} {g:Nat} {o:Lk.Obj} (h:yu W g o) (n:Nat):yu (W.drewN n) g o:=h.kept (yf (World.grownBy.refl _ _) n)
theorem Xg (g:Nat) (o:Lk.Obj) (y:Lk.Sym) (w:World) (h:yu w g o) (hn:vS o) (hz:0<=o.bss/\o.bss<=64) (hl:y.name.length<=255) :
  Calls Tryz.prog 159 #[.pointer (some ⟨g,0,none⟩),.agg #[.string (bs y.name),.int .i64 y.bind,.int .i64 y.ah,.int .i64 y.off]] w fun e w'=>yg e (El o y)/\w.grownBy w' none:=by
 have hlen:0<=xM o y.ah/\xM o y.ah<=65535:=by
  have:=JO hn y.ah
  unfold xM; split <;> omega
 have cL:=hid (fun W (h:yu W g o)=>Ph g o y.ah W h hn hz);have cN:=hid (fun W=>ymD (bs y.name) W (by rw [zh]; omega));have H:=hid h;have HQ:=hid (show El o y↔Ej (bs y.name)/\(0<=y.bind/\y.bind<=2)/\(0<=y.ah/\y.ah<=4)/\¬ (y.ah=0/\y.bind=0)/\0<=y.off/\y.off % 4=0/\y.off<=4 * xM o y.ah from Iff.rfl);clear h hn hz hl;generalize El o y=Q at *;generalize xM o y.ah=L at *;generalize bs y.name=nm at *;generalize Ej nm=P at *;obtain ⟨_,bind,ah,off⟩:=y;simp only at *;have G:=hid (fun o:Obj=>aJ w o none);have no:Hd (∀ W,(¬ Q)->w.grownBy W none->yg (.returned (.bool false)) Q/\w.grownBy W none):=fun W a b=>⟨yg.no a,b⟩
 go_enter Tryz.func159,Tryz.ntmps159;go_wp2_with fail;refine (cN.o _).mono ?_;rintro e w1 ⟨t,rfl⟩;rcases t.split with ⟨rfl,p1⟩ | ⟨rfl,p1⟩ <;> clear t
 ·go_wp2;go_ret;exact no.o _ (fun hq=>p1.o (HQ.o.1 hq).1) (G.o _)
 by_cases r1:bind < 0
 ·have d:decide (bind < 0)=true:=by simp; omega
  go_wp2;go_ret;exact no.o _ (fun hq=>by have:=(HQ.o.1 hq).2.1.1; omega) (G.o _)
 have d1:decide (bind < 0)=false:=by simp; omega
 by_cases r2:2 < bind
 ·have d:decide (2 < bind)=true:=by simp; omega
  go_wp2;go_ret;exact no.o _ (fun hq=>by have:=(HQ.o.1 hq).2.1.2; omega) (G.o _)
 have d2:decide (2 < bind)=false:=by simp; omega
 by_cases r3:ah < 0
 ·have d:decide (ah < 0)=true:=by simp; omega
  go_wp2;go_ret;exact no.o _ (fun hq=>by have:=(HQ.o.1 hq).2.2.1.1; omega) (G.o _)
 have d3:decide (ah < 0)=false:=by simp; omega
 by_cases r4:4 < ah
 ·have d:decide (4 < ah)=true:=by simp; omega
  go_wp2;go_ret;exact no.o _ (fun hq=>by have:=(HQ.o.1 hq).2.2.1.2; omega) (G.o _)
 have d4:decide (4 < ah)=false:=by simp; omega
 by_cases r5:ah=0/\bind=0
 ·have q1:ah<=0:=by omega
  have q2:bind<=0:=by omega
  have R5:=hid r5;clear r5;go_wp2;go_ret;exact no.o _ (fun hq=>(HQ.o.1 hq).2.2.2.1 R5.o) (G.o _)
 have R5:=hid r5;rcases (show 1<=ah\/(ah=0/\1<=bind) from by omega) with q1 | ⟨rfl,q2⟩ <;> clear r5
 all_goals
  by_cases r6:off < 0
  ·have d:decide (0<=off)=false:=by simp; omega
   go_wp2
   go_quiet (fail)
   go_wp2;go_ret;exact no.o _ (fun hq=>by have:=(HQ.o.1 hq).2.2.2.2.1; omega) (yf (G.o _) _)
  have d6:decide (0<=off)=true:=by simp; omega
  have r6':0<=off:=by omega
  by_cases r7:off % 4=0
  rotate_left
  ·have d:(off % 4 == 0)=false:=beq_eq_false_iff_ne.2 r7;have R7:=hid r7;clear r7;go_wp2
   go_quiet (fail)
   go_wp2;go_ret;exact no.o _ (fun hq=>R7.o (HQ.o.1 hq).2.2.2.2.2.1) (yf (G.o _) _)
  have d7:(off % 4 == 0)=true:=beq_iff_eq.2 r7;have R7:=hid r7;clear r7;go_wp2
  go_quiet ((go_at_call 87; exact Calls.quiet_of_same (cL.o _ ((H.o.kept (G.o _)).drewN _))))
  go_wp2;go_ret;refine ⟨yg.of ?_,yf (G.o _) _⟩;rw [HQ.o,decide_eq_true_iff];exact ⟨fun h=>⟨p1.o,⟨by omega,by omega⟩,⟨by omega,by omega⟩,R5.o,r6',R7.o,h⟩,fun h=>h.2.2.2.2.2.2⟩
end Go.Proofs.YtpgklkhgfcjceaaGreatDoor
