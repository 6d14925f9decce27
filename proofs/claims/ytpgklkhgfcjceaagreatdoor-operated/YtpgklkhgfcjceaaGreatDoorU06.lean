
import Derived.Test.YtpgklkhgfcjceaaGreatDoorU05
import Derived.Maps.AppendAt
set_option maxHeartbeats 16000000
set_option maxRecDepth 100000
namespace Go.Proofs.YtpgklkhgfcjceaaGreatDoor
open Go.RowKit
namespace Im
structure eU where
 start:Int
 text:Int
 far:Int
 data:Int
 T:List Int
 F:List Int
 D:List Int
 noughts:Int
def words (l:List UInt8) (p c:Nat):List Int:=(List.range c).map fun i=>dW l (p+4 * i) 4
theorem ig (l:List UInt8) (p c:Nat):(words l p c).length=c:=by simp [words]
theorem rG (l:List UInt8) (p c:Nat):words l p (c+1)=dW l p 4 :: words l (p+4) c:=by
 unfold words;rw [List.range_succ_eq_map,List.map_cons,List.map_map]
 congr 1
 apply List.map_congr_left;intro i _;show dW l (p+4 * (i+1)) 4=dW l (p+4+4 * i) 4
 congr 1
 omega
theorem wE (l:List UInt8) (p n:Nat) (h:p+n<=l.length):Lk.num ((l.drop p).take n)=dW l p n:=by
 induction n generalizing p with
 | zero=>simp [dW,Lk.num]
 | succ n ih =>
  have hp:p < l.length:=by omega
  rw [mE hp,List.take_succ_cons];simp only [Lk.num,dW];rw [ih (p+1) (by omega),lN,jW hp];rfl
theorem iH (l:List UInt8) (n p:Nat) (h:p+n<=l.length):Lk.rdNum l n (p,false)=(dW l p n,(p+n,false)):=by
 unfold Lk.rdNum Lk.aF;simp only;rw [if_pos (by omega)];simp only;rw [wE l p n h]
theorem iZ (l:List UInt8) (n:Nat) (st:Lk.St) (hn:st.1<=l.length) (h:(Lk.rdNum l n st).2.2=false) :
  st.2=false/\st.1+n<=l.length/\Lk.rdNum l n st=(dW l st.1 n,(st.1+n,false)):=by
 have h0:=(Lk.aB l n).back h;obtain ⟨p,b⟩:=st;simp only at h0 hn;subst h0;have hp:p+n<=l.length:=by
  unfold Lk.rdNum Lk.aF at h;simp only at h;split at h
  ·omega
  ·simp at h
 exact ⟨rfl,hp,iH l n p hp⟩
theorem mJ (l:List UInt8) (c p:Nat) (h:p+4 * c<=l.length):Lk.aR l 4 c (p,false)=(words l p c,(p+4 * c,false)):=by
 induction c generalizing p with
 | zero=>rfl
 | succ c ih =>
  simp only [Lk.aR,Bool.false_eq_true,if_false];rw [iH l 4 p (by omega)];simp only;rw [ih (p+4) (by omega),rG];simp only [Prod.mk.injEq,true_and,and_true];omega
theorem pF (l:List UInt8) (c:Nat) (st:Lk.St) (hn:st.1<=l.length) (h:(Lk.aR l 4 c st).2.2=false) :
  st.2=false/\st.1+4 * c<=l.length/\Lk.aR l 4 c st=(words l st.1 c,(st.1+4 * c,false)):=by
 have h0:=(Lk.bE l 4 c).back h;obtain ⟨p,b⟩:=st;simp only at h0 hn;subst h0
 suffices hp:p+4 * c<=l.length from ⟨rfl,hp,mJ l c p hp⟩
 induction c generalizing p with
 | zero=>omega
 | succ c ih =>
  simp only [Lk.aR,Bool.false_eq_true,if_false] at h;have hb:=(Lk.bE l 4 c).back h;have k:=iZ l 4 (p,false) hn hb;rw [k.2.2] at h
  have:=ih (p+4) k.2.1 h
  omega
def oz (l:List UInt8) (st:Lk.St):eU×Lk.St :=
 let a:=Lk.rdNum l 4 st
 let b:=Lk.rdNum l 4 a.2
 let c:=Lk.rdNum l 4 b.2
 let d:=Lk.rdNum l 4 c.2
 let nt:=Lk.rdNum l 2 d.2
 let nf:=Lk.rdNum l 2 nt.2
 let nd:=Lk.rdNum l 2 nf.2
 let nb:=Lk.rdNum l 2 nd.2
 let t:=Lk.aR l 4 nt.1.toNat nb.2
 let f:=Lk.aR l 4 nf.1.toNat t.2
 let e:=Lk.aR l 4 nd.1.toNat f.2
 (⟨a.1,b.1,c.1,d.1,t.1,f.1,e.1,nb.1⟩,e.2)
def nT (l:List UInt8):Nat:=(dW l 18 2).toNat
def nF (l:List UInt8):Nat:=(dW l 20 2).toNat
def nD (l:List UInt8):Nat:=(dW l 22 2).toNat
def nB (l:List UInt8):Nat:=(dW l 24 2).toNat
theorem jO (l:List UInt8) (p:Nat):0<=dW l p 2/\dW l p 2 < 65536:=by have:=Ve l p 2; simpa using this
theorem KM (l:List UInt8):nT l<=65535/\nF l<=65535/\nD l<=65535/\nB l<=65535:=by
 have h1:=jO l 18;have h2:=jO l 20;have h3:=jO l 22;have h4:=jO l 24;unfold nT nF nD nB;omega
def fq (l:List UInt8):eU:=⟨dW l 2 4,dW l 6 4,dW l 10 4,dW l 14 4,words l 26 (nT l),words l (26+4 * nT l) (nF l),words l (26+4 * nT l+4 * nF l) (nD l),dW l 24 2⟩
def Full (l:List UInt8):Prop:=l.length=26+4 * (nT l+nF l+nD l)
theorem ze (l:List UInt8) (h:Full l):oz l (2,false)=(fq l,(l.length,false)):=by
 unfold Full at h;unfold oz;simp only;rw [iH l 4 2 (by omega)];simp only [Nat.reduceAdd];rw [iH l 4 6 (by omega)];simp only [Nat.reduceAdd];rw [iH l 4 10 (by omega)];simp only [Nat.reduceAdd];rw [iH l 4 14 (by omega)];simp only [Nat.reduceAdd];rw [iH l 2 18 (by omega)];simp only [Nat.reduceAdd];rw [iH l 2 20 (by omega)];simp only [Nat.reduceAdd];rw [iH l 2 22 (by omega)];simp only [Nat.reduceAdd];rw [iH l 2 24 (by omega)];simp only [Nat.reduceAdd];rw [show (dW l 18 2).toNat=nT l from rfl,show (dW l 20 2).toNat=nF l from rfl,show (dW l 22 2).toNat=nD l from rfl];rw [mJ l (nT l) 26 (by omega)];simp only
 rw [mJ l (nF l) _ (by omega)];simp only;rw [mJ l (nD l) _ (by omega)];simp only [fq,Prod.mk.injEq,true_and,and_true];omega
theorem zf (l:List UInt8) (h2:2<=l.length) (h:(oz l (2,false)).2=(l.length,false)):Full l:=by
 unfold oz at h;simp only at h;generalize hA:Lk.rdNum l 4 (2,false)=a at h;generalize hB:Lk.rdNum l 4 a.2=b at h;generalize hC:Lk.rdNum l 4 b.2=c at h;generalize hD:Lk.rdNum l 4 c.2=d at h;generalize hE:Lk.rdNum l 2 d.2=nt at h;generalize hF:Lk.rdNum l 2 nt.2=nf at h;generalize hG:Lk.rdNum l 2 nf.2=nd at h;generalize hH:Lk.rdNum l 2 nd.2=nb at h;generalize hI:Lk.aR l 4 nt.1.toNat nb.2=t at h;generalize hJ:Lk.aR l 4 nf.1.toNat t.2=f at h;generalize hK:Lk.aR l 4 nd.1.toNat f.2=e at h;have k11:e.2.2=false:=by rw [h]
 have k10:f.2.2=false:=(Lk.bE l 4 _).back (by rw [hK]; exact k11);have k9:t.2.2=false:=(Lk.bE l 4 _).back (by rw [hJ]; exact k10);have k8:nb.2.2=false:=(Lk.bE l 4 _).back (by rw [hI]; exact k9);have k7:nd.2.2=false:=(Lk.aB l 2).back (by rw [hH]; exact k8);have k6:nf.2.2=false:=(Lk.aB l 2).back (by rw [hG]; exact k7);have k5:nt.2.2=false:=(Lk.aB l 2).back (by rw [hF]; exact k6);have k4:d.2.2=false:=(Lk.aB l 2).back (by rw [hE]; exact k5);have k3:c.2.2=false:=(Lk.aB l 4).back (by rw [hD]; exact k4);have k2:b.2.2=false:=(Lk.aB l 4).back (by rw [hC]; exact k3);have k1:a.2.2=false:=(Lk.aB l 4).back (by rw [hB]; exact k2)
 obtain ⟨-,p1,q1⟩:=iZ l 4 (2,false) h2 (by rw [hA]; exact k1);rw [hA] at q1; subst q1;obtain ⟨-,p2,q2⟩:=iZ l 4 _ p1 (by rw [hB]; exact k2);rw [hB] at q2; subst q2;obtain ⟨-,p3,q3⟩:=iZ l 4 _ p2 (by rw [hC]; exact k3);rw [hC] at q3; subst q3;obtain ⟨-,p4,q4⟩:=iZ l 4 _ p3 (by rw [hD]; exact k4);rw [hD] at q4; subst q4;obtain ⟨-,p5,q5⟩:=iZ l 2 _ p4 (by rw [hE]; exact k5);rw [hE] at q5; subst q5;obtain ⟨-,p6,q6⟩:=iZ l 2 _ p5 (by rw [hF]; exact k6);rw [hF] at q6; subst q6;obtain ⟨-,p7,q7⟩:=iZ l 2 _ p6 (by rw [hG]; exact k7);rw [hG] at q7; subst q7;obtain ⟨-,p8,q8⟩:=iZ l 2 _ p7 (by rw [hH]; exact k8)
 rw [hH] at q8; subst q8;obtain ⟨-,p9,q9⟩:=pF l _ _ p8 (by rw [hI]; exact k9);rw [hI] at q9; subst q9;obtain ⟨-,wZ,X9⟩:=pF l _ _ p9 (by rw [hJ]; exact k10);rw [hJ] at X9; subst X9;obtain ⟨-,Eb,Ya⟩:=pF l _ _ wZ (by rw [hK]; exact k11);rw [hK] at Ya; subst Ya;simp only [Prod.mk.injEq] at h;have hh:=h.1;simp only [Nat.reduceAdd] at hh;unfold Full nT nF nD;omega
def Base (a:Int):Prop:=(4096<=a/\a < 1073741824)/\a % 16=0
def kD (a b c d:Int):Prop:=a≠b/\c≠d/\a < d/\c < b
def In (base:Int) (n:Nat) (a:Int):Prop:=base<=a/\(a - base) % 4=0/\(a - base) / 4 < n
def nC (m:eU):Prop :=
 (Base m.text/\Base m.far/\Base m.data) /\
 (m.text+4 * (m.T.length:Int)<=1073741824/\m.far+4 * (m.F.length:Int)<=1073741824/\m.data+4 * ((m.D.length:Int)+m.noughts)<=1073741824) /\
 (¬ kD m.text (m.text+4 * (m.T.length:Int)) m.far (m.far+4 * (m.F.length:Int))/\¬ kD m.text (m.text+4 * (m.T.length:Int)) m.data (m.data+4 * ((m.D.length:Int)+m.noughts)) /\
  ¬ kD m.far (m.far+4 * (m.F.length:Int)) m.data (m.data+4 * ((m.D.length:Int)+m.noughts))) /\
 (In m.text m.T.length m.start\/In m.far m.F.length m.start)
def kK (l:List UInt8):Prop:=l.take 2=[73,77]/\Full l/\nC (fq l)
end Im
theorem yjb (b:Nat) (s:ByteArray) (p:Nat) (sh:Bool) (w:World) (h:bF w b s p sh)
  (hs:s.size<=1048576) (hp:p<=s.size) (hmark:(Lk.aF (sl s) 2 (p,sh)).1≠[76,75]) :
  Calls Tryz.prog 163 #[.pointer (some ⟨b,0,none⟩)] w fun e w'=>e = .returned (.pointer none)/\w.grownBy w' (some b):=by
 have c0:=fun W h=>Le b s p 2 2 rfl sh W h hs hp (by omega)
 generalize Lk.aF (sl s) 2 (p,sh)=x0 at *;obtain ⟨mk,p0,s0⟩:=x0;simp only at hmark c0;replace c0:=hid c0;have H:=hid h;clear h;have ht:((bs mk).toList == [76,75])=false:=by rw [yJ]; simpa using hmark
 clear hmark;go_enter Tryz.func163,Tryz.ntmps163;go_wp2_with fail;refine (c0.o w H.o).mono ?_;rintro e W0 ⟨rfl,r0,q0⟩;replace r0:=hid r0;replace q0:=hid q0;go_wp2;go_ret;exact ⟨rfl,q0.o⟩
theorem UD (s:ByteArray) (w:World) :
  Calls Tryz.prog 43 #[.string s] w fun e w'=>e = .returned (.agg #[.string s,.int .i64 0,.bool false])/\w.grownBy w' none:=by
 go_enter Tryz.func43,Tryz.ntmps43;go_wp2;have B:=yc.new w #[.string s,.int .i64 0,.bool false] 83;have e0:=B.cell 0;have e1:=B.cell 1;have e2:=B.cell 2;have G:=aH w (.cells #[.string s,.int .i64 0,.bool false] 83) none;refine bodyPost_ret (v:=.agg #[.string s,.int .i64 0,.bool false]) ?_ rfl ⟨rfl,G⟩;simp [results,Tryz.results43,go_sem]
structure qF (w:World) (b g:Nat) (s:ByteArray) (p:Nat) (sh:Bool) (cs:Array Value) (rows:List Row) (W:World):Prop where
 rd:bF W b s p sh
 obj:yc W g cs 90
 rows:∀ r∈rows,r.In W (g+1)
 gr:w.grownBy W (some b)
section
variable {w W W':World} {b g:Nat} {s:ByteArray} {cs:Array Value} {rows:List Row} {p p':Nat} {sh sh':Bool}
theorem qF.begin (h:bF W b s p sh) (hg:w.grownBy W (some b)) (cs:Array Value):qF w b W.heap.size s p sh cs [] (W.alloc (.cells cs 90)) :=
 ⟨h.grown (aH W _ none) (by simp),yc.new W cs 90,(by simp),II hg (aH W _ none) (by simp)⟩
theorem qF.call (h:qF w b g s p sh cs rows W) (hb:b < g) (hr:bF W' b s p' sh') (hg:W.grownBy W' (some b)):qF w b g s p' sh' cs rows W' :=
 ⟨hr,h.obj.grown hg (by simp; omega),fun r hr=>Lc (h.rows r hr) (by omega) hg,ya h.gr hg⟩
theorem qF.row (h:qF w b g s p sh cs rows W) (hb:b < g) (hr:bF W' b s p' sh') (hg:W.grownBy W' (some b)) (r:Row) (hrow:r.In W' W.heap.size):qF w b g s p' sh' cs (r :: rows) W':=by
 have h1:=h.call hb hr hg;refine ⟨h1.rd,h1.obj,?_,h1.gr⟩;intro q hq;rcases List.mem_cons.1 hq with rfl | hq
 ·exact yZ hrow h.obj.lt
 ·exact h1.rows q hq
theorem qF.store (h:qF w b g s p sh cs rows W) (hb:b < g) (hw:w.heap.size<=g) (o:Nat) (v:Value):qF w b g s p sh (cs.setIfInBounds o v) rows (W.setCell ⟨g,o,none⟩ v) :=
 ⟨h.rd.grown (yf W g o v) (by simp; omega),h.obj.set o v,fun r hr=>ownsRow_setCell_below (h.rows r hr) (Nat.lt_succ_self g) v,II h.gr (yf W g o v) (by simp; omega)⟩
end
def nA (W:World) (g:Nat) (m:Im.eU):Prop :=
 ∃ vt vf vd,yc W g #[.int .i64 m.start,.int .i64 m.text,.int .i64 m.far,.int .i64 m.data,vt,vf,vd,.int .i64 m.noughts] 90 /\
  W.ownsRow 0 3 1 vt m.T.length (m.T.map (Value.int .i64))/\W.ownsRow 0 3 1 vf m.F.length (m.F.map (Value.int .i64))/\W.ownsRow 0 3 1 vd m.D.length (m.D.map (Value.int .i64))
theorem yja (b:Nat) (s:ByteArray) (p:Nat) (sh:Bool) (w:World) (h:bF w b s p sh)
  (hs:s.size<=1048576) (hp:p<=s.size) (hmark:(Lk.aF (sl s) 2 (p,sh)).1=[73,77]) :
  Calls Tryz.prog 44 #[.pointer (some ⟨b,0,none⟩)] w fun e w'=>∃ g,e = .returned (.pointer (some ⟨g,0,none⟩))/\w.heap.size<=g /\
   nA w' g (Im.oz (sl s) (Lk.aF (sl s) 2 (p,sh)).2).1 /\
   bF w' b s (Im.oz (sl s) (Lk.aF (sl s) 2 (p,sh)).2).2.1 (Im.oz (sl s) (Lk.aF (sl s) 2 (p,sh)).2).2.2/\w.grownBy w' (some b):=by
 have hb:=h.lt;have hlen:=yu s;have l0:=Li (sl s) 2 (p,sh) (by rw [hlen]; exact hp);have c0:=fun W h=>Le b s p 2 2 rfl sh W h hs hp (by omega)
 generalize Lk.aF (sl s) 2 (p,sh)=x0 at *;obtain ⟨mk,p0,s0⟩:=x0;simp only at hmark;subst hmark;rw [hlen] at l0;unfold Im.oz;simp only at *;have b1:=yS (sl s) 4 (p0,s0);have l1:=yE (sl s) 4 (p0,s0) (by rw [hlen]; exact l0);have c1:=fun W h=>yL b s p0 4 4 rfl s0 W h hs l0 (by omega)
 generalize Lk.rdNum (sl s) 4 (p0,s0)=x1 at *;obtain ⟨start,p1,s1⟩:=x1;rw [hlen] at l1;simp only [Int.reducePow] at *;have b2:=yS (sl s) 4 (p1,s1);have l2:=yE (sl s) 4 (p1,s1) (by rw [hlen]; exact l1);have c2:=fun W h=>yL b s p1 4 4 rfl s1 W h hs l1 (by omega)
 generalize Lk.rdNum (sl s) 4 (p1,s1)=x2 at *;obtain ⟨bt,p2,s2⟩:=x2;rw [hlen] at l2;simp only [Int.reducePow] at *;have b3:=yS (sl s) 4 (p2,s2);have l3:=yE (sl s) 4 (p2,s2) (by rw [hlen]; exact l2);have c3:=fun W h=>yL b s p2 4 4 rfl s2 W h hs l2 (by omega)
 generalize Lk.rdNum (sl s) 4 (p2,s2)=x3 at *;obtain ⟨bf,p3,s3⟩:=x3;rw [hlen] at l3;simp only [Int.reducePow] at *;have b4:=yS (sl s) 4 (p3,s3);have l4:=yE (sl s) 4 (p3,s3) (by rw [hlen]; exact l3);have c4:=fun W h=>yL b s p3 4 4 rfl s3 W h hs l3 (by omega)
 generalize Lk.rdNum (sl s) 4 (p3,s3)=x4 at *;obtain ⟨bd,p4,s4⟩:=x4;rw [hlen] at l4;simp only [Int.reducePow] at *;have b5:=yS (sl s) 2 (p4,s4);have l5:=yE (sl s) 2 (p4,s4) (by rw [hlen]; exact l4);have c5:=fun W h=>yL b s p4 2 2 rfl s4 W h hs l4 (by omega)
 generalize Lk.rdNum (sl s) 2 (p4,s4)=x5 at *;obtain ⟨nt,p5,s5⟩:=x5;rw [hlen] at l5;simp only [Int.reducePow] at *;have b6:=yS (sl s) 2 (p5,s5);have l6:=yE (sl s) 2 (p5,s5) (by rw [hlen]; exact l5);have c6:=fun W h=>yL b s p5 2 2 rfl s5 W h hs l5 (by omega)
 generalize Lk.rdNum (sl s) 2 (p5,s5)=x6 at *;obtain ⟨nf,p6,s6⟩:=x6;rw [hlen] at l6;simp only [Int.reducePow] at *;have b7:=yS (sl s) 2 (p6,s6);have l7:=yE (sl s) 2 (p6,s6) (by rw [hlen]; exact l6);have c7:=fun W h=>yL b s p6 2 2 rfl s6 W h hs l6 (by omega)
 generalize Lk.rdNum (sl s) 2 (p6,s6)=x7 at *;obtain ⟨nd,p7,s7⟩:=x7;rw [hlen] at l7;simp only [Int.reducePow] at *;have b8:=yS (sl s) 2 (p7,s7);have l8:=yE (sl s) 2 (p7,s7) (by rw [hlen]; exact l7);have c8:=fun W h=>yL b s p7 2 2 rfl s7 W h hs l7 (by omega)
 generalize Lk.rdNum (sl s) 2 (p7,s7)=x8 at *;obtain ⟨nb,p8,s8⟩:=x8;rw [hlen] at l8;simp only [Int.reducePow] at *;have l9:=Lh (sl s) 4 nt.toNat (p8,s8) (by rw [hlen]; exact l8)
 have c9:=fun W h=>K7 b s p8 nt.toNat 4 nt 4 (by omega) rfl s8 W h hs l8 (by omega) (by omega)
 generalize Lk.aR (sl s) 4 nt.toNat (p8,s8)=x9 at *;obtain ⟨tx,p9,s9⟩:=x9;rw [hlen] at l9;simp only at *;have l10:=Lh (sl s) 4 nf.toNat (p9,s9) (by rw [hlen]; exact l9)
 have c10:=fun W h=>K7 b s p9 nf.toNat 4 nf 4 (by omega) rfl s9 W h hs l9 (by omega) (by omega)
 generalize Lk.aR (sl s) 4 nf.toNat (p9,s9)=x10 at *;obtain ⟨fx,wZ,s10⟩:=x10;rw [hlen] at l10;simp only at *;have AV:=Lh (sl s) 4 nd.toNat (wZ,s10) (by rw [hlen]; exact l10)
 have c11:=fun W h=>K7 b s wZ nd.toNat 4 nd 4 (by omega) rfl s10 W h hs l10 (by omega) (by omega)
 generalize Lk.aR (sl s) 4 nd.toNat (wZ,s10)=UA at *;obtain ⟨dx,Eb,s11⟩:=UA;rw [hlen] at AV;simp only at *;replace c0:=hid c0;replace c1:=hid c1;replace c2:=hid c2;replace c3:=hid c3;replace c4:=hid c4;replace c5:=hid c5;replace c6:=hid c6;replace c7:=hid c7;replace c8:=hid c8;replace c9:=hid c9;replace c10:=hid c10;replace c11:=hid c11;have H:=hid h;clear h hlen;have ht:((bs [73,77]).toList == [73,77])=true:=by rw [yJ]; rfl
 go_enter Tryz.func44,Tryz.ntmps44;go_wp2_with fail;refine (c0.o w H.o).mono ?_;rintro e W0 ⟨rfl,r0,q0⟩;replace r0:=hid r0;replace q0:=hid q0;go_wp2_with fail;have hbg:b < W0.heap.size:=r0.o.lt;have hwg:w.heap.size<=W0.heap.size:=q0.o.size;generalize hG:W0.heap.size=g at *;refine Calls.aK (qF w b g s p0 s0 #[.int .i64 0,.int .i64 0,.int .i64 0,.int .i64 0,.slice none 0 0,.slice none 0 0,.slice none 0 0,.int .i64 0] []) (by rw [<- hG]; exact qF.begin r0.o q0.o _) ?_;clear r0 q0 hG;intro V0 h0;refine (c1.o V0 h0.rd).mono ?_;rintro e U1 ⟨rfl,r,q⟩;have S1:=hid (h0.call hbg r q);clear r q h0;have k:=S1.o.obj.cell 0
 have f:=S1.o.obj.free 0;go_wp2_with fail;refine Calls.aK (qF w b g s p1 s1 #[.int .i64 start,.int .i64 0,.int .i64 0,.int .i64 0,.slice none 0 0,.slice none 0 0,.slice none 0 0,.int .i64 0] []) (S1.o.store hbg hwg 0 _) ?_;clear k f S1 U1;intro V1 h1;refine (c2.o V1 h1.rd).mono ?_;rintro e U2 ⟨rfl,r,q⟩;have S2:=hid (h1.call hbg r q);clear r q h1;have k:=S2.o.obj.cell 1;have f:=S2.o.obj.free 1;go_wp2_with fail;refine Calls.aK (qF w b g s p2 s2 #[.int .i64 start,.int .i64 bt,.int .i64 0,.int .i64 0,.slice none 0 0,.slice none 0 0,.slice none 0 0,.int .i64 0] []) (S2.o.store hbg hwg 1 _) ?_;clear k f S2 U2
 intro V2 h2;refine (c3.o V2 h2.rd).mono ?_;rintro e U3 ⟨rfl,r,q⟩;have S3:=hid (h2.call hbg r q);clear r q h2;have k:=S3.o.obj.cell 2;have f:=S3.o.obj.free 2;go_wp2_with fail;refine Calls.aK (qF w b g s p3 s3 #[.int .i64 start,.int .i64 bt,.int .i64 bf,.int .i64 0,.slice none 0 0,.slice none 0 0,.slice none 0 0,.int .i64 0] []) (S3.o.store hbg hwg 2 _) ?_;clear k f S3 U3;intro V3 h3;refine (c4.o V3 h3.rd).mono ?_;rintro e U4 ⟨rfl,r,q⟩;have S4:=hid (h3.call hbg r q);clear r q h3;have k:=S4.o.obj.cell 3;have f:=S4.o.obj.free 3;go_wp2_with fail;refine Calls.aK (qF w b g s p4 s4 #[.int .i64 start,.int .i64 bt,.int .i64 bf,.int .i64 bd,.slice none 0 0,.slice none 0 0,.slice none 0 0,.int .i64 0] []) (S4.o.store hbg hwg 3 _) ?_
 clear k f S4 U4;intro V4 h4;refine (c5.o V4 h4.rd).mono ?_;rintro e U5 ⟨rfl,r,q⟩;have S5:=hid (h4.call hbg r q);clear r q h4;go_wp2_with fail;refine Calls.aK (qF w b g s p5 s5 #[.int .i64 start,.int .i64 bt,.int .i64 bf,.int .i64 bd,.slice none 0 0,.slice none 0 0,.slice none 0 0,.int .i64 0] []) S5.o ?_;clear S5 U5;intro V5 h5;refine (c6.o V5 h5.rd).mono ?_;rintro e U6 ⟨rfl,r,q⟩;have S6:=hid (h5.call hbg r q);clear r q h5;go_wp2_with fail;refine Calls.aK (qF w b g s p6 s6 #[.int .i64 start,.int .i64 bt,.int .i64 bf,.int .i64 bd,.slice none 0 0,.slice none 0 0,.slice none 0 0,.int .i64 0] []) S6.o ?_
 clear S6 U6;intro V6 h6;refine (c7.o V6 h6.rd).mono ?_;rintro e U7 ⟨rfl,r,q⟩;have S7:=hid (h6.call hbg r q);clear r q h6;go_wp2_with fail;refine Calls.aK (qF w b g s p7 s7 #[.int .i64 start,.int .i64 bt,.int .i64 bf,.int .i64 bd,.slice none 0 0,.slice none 0 0,.slice none 0 0,.int .i64 0] []) S7.o ?_;clear S7 U7;intro V7 h7;refine (c8.o V7 h7.rd).mono ?_;rintro e U8 ⟨rfl,r,q⟩;have S8:=hid (h7.call hbg r q);clear r q h7;have k:=S8.o.obj.cell 7;have f:=S8.o.obj.free 7;go_wp2_with fail;refine Calls.aK (qF w b g s p8 s8 #[.int .i64 start,.int .i64 bt,.int .i64 bf,.int .i64 bd,.slice none 0 0,.slice none 0 0,.slice none 0 0,.int .i64 nb] []) (S8.o.store hbg hwg 7 _) ?_
 clear k f S8 U8;intro V8 h8;refine (c9.o V8 h8.rd).mono ?_;rintro e U9 ⟨v,rfl,o,r,q⟩;obtain ⟨JR,ctx,rfl⟩:=yh o;have S9:=hid (h8.row hbg r q ⟨3,1,(.slice JR tx.length ctx),tx.length,tx.map (Value.int .i64)⟩ o);clear r q o h8;have k:=S9.o.obj.cell 4;have f:=S9.o.obj.free 4;go_wp2_with fail;refine Calls.aK (qF w b g s p9 s9 #[.int .i64 start,.int .i64 bt,.int .i64 bf,.int .i64 bd,(.slice JR tx.length ctx),.slice none 0 0,.slice none 0 0,.int .i64 nb] [⟨3,1,(.slice JR tx.length ctx),tx.length,tx.map (Value.int .i64)⟩]) (S9.o.store hbg hwg 4 _) ?_;clear k f S9 U9;intro V9 h9;refine (c10.o V9 h9.rd).mono ?_
 rintro e Tc ⟨v,rfl,o,r,q⟩;obtain ⟨Nz,NS,rfl⟩:=yh o;have rU:=hid (h9.row hbg r q ⟨3,1,(.slice Nz fx.length NS),fx.length,fx.map (Value.int .i64)⟩ o);clear r q o h9;have k:=rU.o.obj.cell 5;have f:=rU.o.obj.free 5;go_wp2_with fail;refine Calls.aK (qF w b g s wZ s10 #[.int .i64 start,.int .i64 bt,.int .i64 bf,.int .i64 bd,(.slice JR tx.length ctx),(.slice Nz fx.length NS),.slice none 0 0,.int .i64 nb] [⟨3,1,(.slice Nz fx.length NS),fx.length,fx.map (Value.int .i64)⟩,⟨3,1,(.slice JR tx.length ctx),tx.length,tx.map (Value.int .i64)⟩]) (rU.o.store hbg hwg 5 _) ?_;clear k f rU Tc;intro Nw h10;refine (c11.o Nw h10.rd).mono ?_
 rintro e Xp ⟨v,rfl,o,r,q⟩;obtain ⟨Qk,Qs,rfl⟩:=yh o;have sV:=hid (h10.row hbg r q ⟨3,1,(.slice Qk dx.length Qs),dx.length,dx.map (Value.int .i64)⟩ o);clear r q o h10;have k:=sV.o.obj.cell 6;have f:=sV.o.obj.free 6;go_wp2;go_ret;have F:=sV.o.store hbg hwg 6 (.slice Qk dx.length Qs);refine ⟨g,rfl,hwg,⟨(.slice JR tx.length ctx),(.slice Nz fx.length NS),(.slice Qk dx.length Qs),F.obj,?_,?_,?_⟩,F.rd,F.gr⟩
 ·exact yZ (F.rows ⟨3,1,(.slice JR tx.length ctx),tx.length,tx.map (Value.int .i64)⟩ (by simp)) (Nat.zero_le _)
 ·exact yZ (F.rows ⟨3,1,(.slice Nz fx.length NS),fx.length,fx.map (Value.int .i64)⟩ (by simp)) (Nat.zero_le _)
 ·exact yZ (F.rows ⟨3,1,(.slice Qk dx.length Qs),dx.length,dx.map (Value.int .i64)⟩ (by simp)) (Nat.zero_le _)
theorem yky (b:Nat) (s:ByteArray) (p:Nat) (sh:Bool) (w:World) (h:bF w b s p sh)
  (hs:s.size<=1048576) (hp:p<=s.size) (hmark:(Lk.aF (sl s) 2 (p,sh)).1≠[73,77]) :
  Calls Tryz.prog 44 #[.pointer (some ⟨b,0,none⟩)] w fun e w'=>e = .returned (.pointer none)/\w.grownBy w' (some b):=by
 have c0:=fun W h=>Le b s p 2 2 rfl sh W h hs hp (by omega)
 generalize Lk.aF (sl s) 2 (p,sh)=x0 at *;obtain ⟨mk,p0,s0⟩:=x0;simp only at hmark c0;replace c0:=hid c0;have H:=hid h;clear h;have ht:((bs mk).toList == [73,77])=false:=by rw [yJ]; simpa using hmark
 clear hmark;go_enter Tryz.func44,Tryz.ntmps44;go_wp2_with fail;refine (c0.o w H.o).mono ?_;rintro e W0 ⟨rfl,r0,q0⟩;replace r0:=hid r0;replace q0:=hid q0;go_wp2;go_ret;exact ⟨rfl,q0.o⟩
theorem QT (a:Int) (w:World) (h0:0<=a) (h1:a < 4294967296) :
  Calls Tryz.prog 80 #[.int .i64 a] w fun e w'=>yg e (Im.Base a)/\w'=w:=by
 by_cases c1:4096<=a
 ·by_cases c2:a < 1073741824
  ·by_cases c3:a % 16=0
   ·have d1:decide (4096<=a)=true:=by simpa using c1
    have d2:decide (a < 1073741824)=true:=by simpa using c2
    have d3:(a % 16 == 0)=true:=by simpa using c3
    have Q:=hid (show Im.Base a from ⟨⟨c1,c2⟩,c3⟩);clear c1 c2 c3;go_enter Tryz.func80,Tryz.ntmps80;go_wp2;go_ret;exact ⟨yg.yes Q.o,rfl⟩
   ·have d1:decide (4096<=a)=true:=by simpa using c1
    have d2:decide (a < 1073741824)=true:=by simpa using c2
    have d3:(a % 16 == 0)=false:=by simpa using c3
    have Q:=hid (show ¬ Im.Base a from fun h=>c3 h.2);clear c1 c2 c3;go_enter Tryz.func80,Tryz.ntmps80;go_wp2;go_ret;exact ⟨yg.no Q.o,rfl⟩
  ·have d1:decide (4096<=a)=true:=by simpa using c1
   have d2:decide (a < 1073741824)=false:=by simpa using c2
   have Q:=hid (show ¬ Im.Base a from fun h=>c2 h.1.2);clear c1 c2;go_enter Tryz.func80,Tryz.ntmps80;go_wp2;go_ret;exact ⟨yg.no Q.o,rfl⟩
 ·have d1:decide (4096<=a)=false:=by simpa using c1
  have Q:=hid (show ¬ Im.Base a from fun h=>c1 h.1.1);clear c1;go_enter Tryz.func80,Tryz.ntmps80;go_wp2;go_ret;exact ⟨yg.no Q.o,rfl⟩
theorem U0 (a:Int) (n:Int) (w:World) (h0:0<=a) (h1:a < 4294967296) (h2:0<=n) (h3:n<=1048576) :
  Calls Tryz.prog 111 #[.int .i64 a,.int .i64 n] w fun e w'=>e = .returned (.agg #[.int .i64 a,.int .i64 (a+4 * n)])/\w'=w.alloc (.cells #[.int .i64 a,.int .i64 (a+4 * n)] 171):=by
 have e1:IntKind.i64.wrap (4 * n)=4 * n:=IntWalk.i64_in _ ⟨by omega,by omega⟩;have e2:IntKind.i64.wrap (a+4 * n)=a+4 * n:=IntWalk.i64_in _ ⟨by omega,by omega⟩;go_enter Tryz.func111,Tryz.ntmps111;go_wp2;refine bodyPost_ret (v:=.agg #[.int .i64 a,.int .i64 (a+4 * n)]) ?_ rfl ⟨rfl,rfl⟩;simp [results,Tryz.results111,go_sem]
theorem VB (a b c d:Int) (w:World) :
  Calls Tryz.prog 112 #[.agg #[.int .i64 a,.int .i64 b],.agg #[.int .i64 c,.int .i64 d]] w fun e w'=>yg e (Im.kD a b c d)/\w.grownBy w' none:=by
 have G:=hid (ya (aH w (.cells #[.int .i64 a,.int .i64 b] 171) none) (aH _ (.cells #[.int .i64 c,.int .i64 d] 171) none));by_cases c1:a=b
 ·have Q:=hid (show ¬ Im.kD a b c d from fun h=>h.1 c1);have d1:(a == b)=true:=by simpa using c1
  clear c1;go_enter Tryz.func112,Tryz.ntmps112;go_wp2;go_ret;exact ⟨yg.no Q.o,G.o⟩
 ·by_cases c2:c=d
  ·have Q:=hid (show ¬ Im.kD a b c d from fun h=>h.2.1 c2);have d1:(a == b)=false:=by simpa using c1
   have d2:(c == d)=true:=by simpa using c2
   clear c1 c2;go_enter Tryz.func112,Tryz.ntmps112;go_wp2;go_ret;exact ⟨yg.no Q.o,G.o⟩
  ·have d1:(a == b)=false:=by simpa using c1
   have d2:(c == d)=false:=by simpa using c2
   by_cases c3:a < d
   ·have d3:decide (a < d)=true:=by simpa using c3
    have Q:=hid (show decide (c < b)=true↔Im.kD a b c d from by rw [decide_eq_true_iff]; exact ⟨fun h=>⟨c1,c2,c3,h⟩,fun h=>h.2.2.2⟩);clear c1 c2 c3;go_enter Tryz.func112,Tryz.ntmps112;go_wp2;go_ret;exact ⟨yg.of Q.o,G.o⟩
   ·have d3:decide (a < d)=false:=by simpa using c3
    have Q:=hid (show ¬ Im.kD a b c d from fun h=>c3 h.2.2.1);clear c1 c2 c3;go_enter Tryz.func112,Tryz.ntmps112;go_wp2;go_ret;exact ⟨yg.no Q.o,G.o⟩
namespace Im
def place (base:Int) (n:Nat) (a:Int):Int:=if base<=a/\(a - base) % 4=0/\(a - base) / 4 < n then (a - base) / 4 else -1
theorem Ec {base:Int} {n:Nat} {a:Int} (h:In base n a):place base n a=(a - base) / 4:=if_pos h
theorem pE {base:Int} {n:Nat} {a:Int} (h:¬ In base n a):place base n a = -1:=if_neg h
end Im
theorem Vp (ao:Option Addr) (n cap:Nat) (base a:Int) (w:World) (h0:0<=a) (h1:a < 4294967296) (h2:0<=base) (h3:base < 4294967296) :
  Calls Tryz.prog 115 #[.slice ao n cap,.int .i64 base,.int .i64 a] w fun e w'=>e = .returned (.int .i64 (Im.place base n a))/\w'=w:=by
 by_cases c1:a < base
 ·have R:=hid (Im.pE (n:=n) (show ¬ Im.In base n a from fun h=>by have:=h.1; omega));have d1:decide (a < base)=true:=by simpa using c1
  clear c1;go_enter Tryz.func115,Tryz.ntmps115;go_wp2;go_ret;rw [R.o];exact ⟨rfl,rfl⟩
 ·have d1:decide (a < base)=false:=by simpa using c1
  have e1:IntKind.i64.wrap (a - base)=a - base:=IntWalk.i64_in _ ⟨by omega,by omega⟩;have e2:(a - base).tmod 4=(a - base) % 4:=Int.tmod_eq_emod_of_nonneg (by omega);have e3:(a - base).tdiv 4=(a - base) / 4:=Int.tdiv_eq_ediv_of_nonneg (by omega);by_cases c2:(a - base) % 4=0
  ·have d2:((a - base) % 4 == 0)=true:=by simpa using c2
   by_cases c3:(a - base) / 4 < n
   ·have R:=hid (Im.Ec (show Im.In base n a from ⟨by omega,c2,c3⟩));have d3:decide ((n:Int)<=(a - base) / 4)=false:=by simp; omega
    go_enter Tryz.func115,Tryz.ntmps115;go_wp2;go_ret;rw [R.o];exact ⟨rfl,rfl⟩
   ·have R:=hid (Im.pE (show ¬ Im.In base n a from fun h=>c3 h.2.2));have d3:decide ((n:Int)<=(a - base) / 4)=true:=by simp; omega
    go_enter Tryz.func115,Tryz.ntmps115;go_wp2;go_ret;rw [R.o];exact ⟨rfl,rfl⟩
  ·have d2:((a - base) % 4 == 0)=false:=by simpa using c2
   have R:=hid (Im.pE (n:=n) (show ¬ Im.In base n a from fun h=>c2 h.2.1));go_enter Tryz.func115,Tryz.ntmps115;go_wp2;go_ret;rw [R.o];exact ⟨rfl,rfl⟩
namespace Im
def code (m:eU) (a:Int):Option Int :=
 if 0<=place m.text m.T.length a then some (m.T.getD (place m.text m.T.length a).toNat 0)
 else if 0<=place m.far m.F.length a then some (m.F.getD (place m.far m.F.length a).toNat 0) else none
theorem ko (base:Int) (n:Nat) (a:Int):place base n a = -1\/(0<=place base n a/\place base n a < n):=by
 unfold place;split
 ·right; omega
 ·left; rfl
theorem tN (base:Int) (n:Nat) (a:Int):0<=place base n a↔In base n a:=by
 unfold place In;split
 ·rename_i h; exact ⟨fun _=>h,fun _=>by omega⟩
 ·rename_i h; exact ⟨fun k=>by omega,fun k=>absurd k h⟩
theorem CW (m:eU) (a:Int):(code m a).isSome=true↔In m.text m.T.length a\/In m.far m.F.length a:=by
 unfold code;rw [<- tN,<- tN];by_cases h:0<=place m.text m.T.length a
 ·simp [h]
 ·by_cases k:0<=place m.far m.F.length a <;> simp [h,k]
structure jH (m:eU):Prop where
 start:0<=m.start/\m.start < 4294967296
 text:0<=m.text/\m.text < 4294967296
 far:0<=m.far/\m.far < 4294967296
 data:0<=m.data/\m.data < 4294967296
 lens:m.T.length<=65535/\m.F.length<=65535/\m.D.length<=65535
 noughts:0<=m.noughts/\m.noughts<=65535
end Im
theorem nA.open {W:World} {g:Nat} {m:Im.eU} (h:nA W g m):∃ at_ ct af cf ad cd,
  yc W g #[.int .i64 m.start,.int .i64 m.text,.int .i64 m.far,.int .i64 m.data,.slice at_ m.T.length ct,.slice af m.F.length cf,.slice ad m.D.length cd,.int .i64 m.noughts] 90 /\
  W.ownsRow 0 3 1 (.slice at_ m.T.length ct) m.T.length (m.T.map (Value.int .i64))/\W.ownsRow 0 3 1 (.slice af m.F.length cf) m.F.length (m.F.map (Value.int .i64)) /\
  W.ownsRow 0 3 1 (.slice ad m.D.length cd) m.D.length (m.D.map (Value.int .i64)):=by
 obtain ⟨vt,vf,vd,hb,h1,h2,h3⟩:=h;obtain ⟨at_,ct,rfl⟩:=yh h1;obtain ⟨af,cf,rfl⟩:=yh h2;obtain ⟨ad,cd,rfl⟩:=yh h3;exact ⟨at_,ct,af,cf,ad,cd,hb,h1,h2,h3⟩
theorem nA.kept {W W':World} {g:Nat} {m:Im.eU} (h:nA W g m) (hg:W.grownBy W' none):nA W' g m:=by
 obtain ⟨vt,vf,vd,hb,h1,h2,h3⟩:=h;have k:∀ {v:Value} {n:Nat} {xs:List Value},W.ownsRow 0 3 1 v n xs->W'.ownsRow 0 3 1 v n xs:=fun h=>h.kept hg (by
  cases h':Value.ownBlock _ with
  | none=>exact .inl rfl
  | some b=>right; simp)
 exact ⟨vt,vf,vd,hb.grown hg (by simp),k h1,k h2,k h3⟩
theorem Rh (g:Nat) (m:Im.eU) (a:Int) (w:World) (h:nA w g m) (ht:Im.jH m) (h0:0<=a) (h1:a < 4294967296) :
  Calls Tryz.prog 76 #[.pointer (some ⟨g,0,none⟩),.int .i64 a] w fun e w'=>e = .returned (.tuple #[.int .i64 ((Im.code m a).getD 0),.bool (Im.code m a).isSome])/\∃ n,w'=w.drewN n:=by
 obtain ⟨at_,ct,af,cf,ad,cd,hb,q1,q2,-⟩:=h.open;have hc1:=rR q1;have hc2:=rR q2;have I1:=hid (yC.aU q1);have I2:=hid (yC.aU q2);have k1:=hb.cell 1;have k2:=hb.cell 2;have k4:=hb.cell 4;have k5:=hb.cell 5;simp only [bJ,bN,bL] at k1 k2 k4 k5;have cT:=hid (fun W=>Vp at_ m.T.length ct m.text a W h0 h1 ht.text.1 ht.text.2);have cF:=hid (fun W=>Vp af m.F.length cf m.far a W h0 h1 ht.far.1 ht.far.2);obtain ⟨X,hX⟩:∃ X,X=Im.code m a:=⟨_,rfl⟩
 rw [<- hX];unfold Im.code at hX;have RX:=hid hX;have r1:=Im.ko m.text m.T.length a;have r2:=Im.ko m.far m.F.length a;have L:=hid ht.lens;clear hX h ht hb q1 q2;generalize Im.place m.text m.T.length a=i at *;generalize Im.place m.far m.F.length a=j at *;have hl1:=L.o.1;have hl2:=L.o.2.1;by_cases ci:0<=i
 ·have d1:decide (0<=i)=true:=by simpa using ci
  have hi:i.toNat < m.T.length:=by omega
  obtain ⟨sg,off,rfl,hcell⟩:=I1.o (by omega);have hck:=hcell i.toNat hi;rw [if_pos ci] at RX;have GE:=hid (show m.T.getD i.toNat 0=m.T[i.toNat] from by rw [lN,jW hi]; rfl);rw [GE.o] at RX;have g1:i < (m.T.length:Int):=by omega
  clear hcell r1 r2 cF I1 I2 L GE;generalize m.T[i.toNat]=v at *;obtain ⟨n,rfl⟩:∃ n:Nat,i=n:=⟨i.toNat,by omega⟩
  rw [Int.toNat_natCast] at hck hi;go_enter Tryz.func76,Tryz.ntmps76;go_wp2
  go_quiet ((go_at_call 115; exact Calls.quiet_of_same (cT.o _)))
  go_wp2;go_ret2;rw [RX.o];exact ⟨rfl,_,rfl⟩
 ·have d1:decide (0<=i)=false:=by simpa using ci
  rw [if_neg ci] at RX;obtain rfl:i = -1:=by omega
  clear I1 r1;by_cases cj:0<=j
  ·have d2:decide (0<=j)=true:=by simpa using cj
   have hj:j.toNat < m.F.length:=by omega
   obtain ⟨sg,off,rfl,hcell⟩:=I2.o (by omega);have hck:=hcell j.toNat hj;rw [if_pos cj] at RX;have GE:=hid (show m.F.getD j.toNat 0=m.F[j.toNat] from by rw [lN,jW hj]; rfl);rw [GE.o] at RX;have g1:j < (m.F.length:Int):=by omega
   clear hcell r2 I2 L GE;generalize m.F[j.toNat]=v at *;obtain ⟨n,rfl⟩:∃ n:Nat,j=n:=⟨j.toNat,by omega⟩
   rw [Int.toNat_natCast] at hck hj;go_enter Tryz.func76,Tryz.ntmps76;go_wp2
   go_quiet ((go_at_call 115; exact Calls.quiet_of_same (cT.o _)))
   go_wp2;have HE:=hid (show ∃ n,w.drewN nq=w.drewN n from ⟨_,rfl⟩);replace k2:(w.drewN nq).cell? ⟨g,2,none⟩=some (.int .i64 m.far):=k2;replace k5:(w.drewN nq).cell? ⟨g,5,none⟩=some (.slice (some ⟨sg,off,none⟩) m.F.length cf):=k5;replace hck:(w.drewN nq).cell? ⟨sg,off+n,none⟩=some (.int .i64 v):=hck;generalize w.drewN nq=V at *
   go_quiet ((go_at_call 115; exact Calls.quiet_of_same (cF.o _)))
   go_wp2;go_ret2;rw [RX.o];exact ⟨rfl,by obtain ⟨q,hq⟩:=HE.o; exact ⟨_,by rw [hq,World.drewN_drewN]⟩⟩
  ·have d2:decide (0<=j)=false:=by simpa using cj
   rw [if_neg cj] at RX;obtain rfl:j = -1:=by omega
   go_enter Tryz.func76,Tryz.ntmps76;go_wp2
   go_quiet ((go_at_call 115; exact Calls.quiet_of_same (cT.o _)))
   go_wp2;have HE:=hid (show ∃ n,w.drewN nq=w.drewN n from ⟨_,rfl⟩);replace k2:(w.drewN nq).cell? ⟨g,2,none⟩=some (.int .i64 m.far):=k2;replace k5:(w.drewN nq).cell? ⟨g,5,none⟩=some (.slice af m.F.length cf):=k5;generalize w.drewN nq=V at *
   go_quiet ((go_at_call 115; exact Calls.quiet_of_same (cF.o _)))
   go_wp2;go_ret2;rw [RX.o];exact ⟨rfl,by obtain ⟨q,hq⟩:=HE.o; exact ⟨_,by rw [hq,World.drewN_drewN]⟩⟩
namespace Mc
def wd (x:Int):Int:=x % 4294967296
def sg (x:Int):Int:=if x < 2147483648 then x else x - 4294967296
theorem fJ (x:Int):0<=wd x/\wd x < 4294967296:=by unfold wd; omega
structure St where
 regs:List Int
 data:List Int
 pc:Int
 next:Int
 fQ:Int
 code:Int
 o:List Int
 steps:Nat
 read:Nat
def reg (st:St) (n:Int):Int:=st.regs.getD (n % 32).toNat 0
def set (n v:Int) (st:St):St:=if n % 32=0 then st else { st with regs:=st.regs.set (n % 32).toNat (wd v) }
def holds (op a b:Int):Bool :=
 if op=5 then decide (a=b) else if op=6 then decide (a≠b) else if op=7 then decide (sg a < sg b) else if op=8 then decide (sg b<=sg a)
 else if op=9 then decide (a < b) else if op=10 then decide (b<=a) else false
def computed (op a b:Int):Int :=
 if op=18 then a+b else if op=19 then a - b else if op=20 then (if sg a < sg b then 1 else 0) else if op=21 then (if a < b then 1 else 0)
 else if op=22 then bits .xor .i64 a b else if op=23 then bits .or .i64 a b else if op=24 then bits .and .i64 a b else 0
def plain (op:Int):Int:=if op=13 then 18 else if op=14 then 20 else if op=15 then 22 else if op=16 then 23 else if op=17 then 24 else 0
def jump (rd dest:Int) (st:St):St:={ set rd (st.pc+4) st with next:=wd dest }
def branch (taken:Bool) (n:Int) (st:St):St:=if taken then { st with next:=wd (st.pc+n) } else st
def load (m:Im.eU) (rd a:Int) (st:St):St :=
 match Im.code m a with
 | some w=>set rd w st
 | none=>if 0<=Im.place m.data st.data.length a then set rd (st.data.getD (Im.place m.data st.data.length a).toNat 0) st else { st with fQ:=4 }
def store (m:Im.eU) (a v:Int) (st:St):St :=
 if 0<=Im.place m.data st.data.length a then { st with data:=st.data.set (Im.place m.data st.data.length a).toNat v } else { st with fQ:=5 }
def call (ins:List Int) (st:St):St :=
 if reg st 17=0 then { st with fQ:=1,code:=sg (reg st 10) }
 else if reg st 17=1 then (if 16<=st.o.length then { st with fQ:=6 } else { st with o:=st.o ++ [sg (reg st 10)] })
 else if reg st 17=2 then (if ins.length<=st.read then { st with fQ:=6 } else { set 10 (ins.getD st.read 0) st with read:=st.read+1 })
 else { st with fQ:=6 }
def doIt (m:Im.eU) (ins:List Int) (op rd au aC n:Int) (st:St):St :=
 if op=0 then { st with fQ:=3 }
 else if op=1 then set rd (n * 4096) st
 else if op=2 then set rd (n * 4096+st.pc) st
 else if op=3 then jump rd (st.pc+n) st
 else if op=4 then jump rd ((reg st au+n) - (reg st au+n) % 2) st
 else if 5<=op/\op<=10 then branch (holds op (reg st au) (reg st aC)) n st
 else if op=11 then load m rd (wd (reg st au+n)) st
 else if op=12 then store m (wd (reg st au+n)) (reg st aC) st
 else if 13<=op/\op<=17 then set rd (computed (plain op) (reg st au) (wd n)) st
 else if op=25 then call ins st
 else set rd (computed op (reg st au) (reg st aC)) st
def step (m:Im.eU) (ins:List Int) (st:St):St :=
 match Im.code m st.pc with
 | none=>{ st with steps:=st.steps+1,fQ:=2 }
 | some w =>
  let s:=doIt m ins (jX w) (gI (aO w) w) (bI (aO w) w) (jC (aO w) w) (jm (aO w) w) { st with steps:=st.steps+1,next:=wd (st.pc+4) }
  { s with pc:=s.next }
def steps (m:Im.eU) (ins:List Int) (fuel:Nat):Nat->St->St
 | 0,st=>st
 | k+1,st=>if st.fQ=0/\st.steps < fuel then steps m ins fuel k (step m ins st) else st
structure Ok (st:St):Prop where
 regs:st.regs.length=32
 words:∀ i,0<=st.regs.getD i 0/\st.regs.getD i 0 < 4294967296
 zero:st.regs.getD 0 0=0
 data:st.data.length<=131070
 kU:∀ i,0<=st.data.getD i 0/\st.data.getD i 0 < 4294967296
 pc:0<=st.pc/\st.pc < 4294967296
 next:0<=st.next/\st.next < 4294967296
 o:st.o.length<=16
 steps:st.steps<=65536
 read:st.read<=16
end Mc
theorem Pm (n:Int):bits .and .i64 n 4294967295=Mc.wd n:=by
 have h1:(BitVec.ofInt 64 4294967295).toNat=2 ^ 32 - 1:=by decide
 have key:(BitVec.ofInt 64 n &&& BitVec.ofInt 64 4294967295).toNat=(n % ((2 ^ 64:Nat):Int)).toNat % 2 ^ 32:=by
  rw [BitVec.toNat_and,BitVec.toNat_ofInt,h1,Nat.and_two_pow_sub_one_eq_mod]
 show IntKind.i64.wrap ((BitVec.ofInt 64 n &&& BitVec.ofInt 64 4294967295).toNat:Nat)=n % 4294967296;rw [key,IntKind.wrap_i64];omega
def jU (g:Nat) (eZ:Value) (st:Mc.St) (vd vo:Value):List Value :=
 [.pointer (some ⟨g,0,none⟩),eZ] ++ (st.regs.map (Value.int .i64) ++ [vd,.int .i64 st.pc,.int .i64 st.next,.int .i64 st.fQ,.int .i64 st.code,vo,.int .i64 st.steps,.int .i64 st.read])
structure yz (W0:World) (b g:Nat) (eZ:Value) (st:Mc.St) (vd vo:Value) (W:World):Prop where
 blk:yc W b (jU g eZ st vd vo).toArray 93
 data:W.ownsRow W0.heap.size 3 1 vd st.data.length (st.data.map (Value.int .i64))
 o:W.ownsRow W0.heap.size 3 1 vo st.o.length (st.o.map (Value.int .i64))
 apart:(∀ k,vd.ownBlock=some k->k≠b)/\(∀ k,vo.ownBlock=some k->k≠b)/\∀ k,vd.ownBlock=some k->vo.ownBlock≠some k
 lo:W0.heap.size<=b
 gr:W0.grownBy W none
 ok:Mc.Ok st
theorem ypY (g:Nat) (eZ:Value) (st:Mc.St) (vd vo:Value) (h:st.regs.length=32) (i:Nat) (hi:i < 32):(jU g eZ st vd vo)[2+i]?=some (.int .i64 (st.regs.getD i 0)):=by
 unfold jU;rw [List.getElem?_append_right (by simp),List.getElem?_append_left (by simp; omega)];have e:2+i - [Value.pointer (some ⟨g,0,none⟩),eZ].length=i:=by simp
 rw [e,List.getElem?_map,jW (by omega),lN,jW (by omega)];rfl
theorem ZB (g:Nat) (eZ:Value) (st:Mc.St) (vd vo:Value) (h:st.regs.length=32) (i:Nat):(jU g eZ st vd vo)[34+i]?=[vd,.int .i64 st.pc,.int .i64 st.next,.int .i64 st.fQ,.int .i64 st.code,vo,.int .i64 st.steps,.int .i64 st.read][i]?:=by
 unfold jU;rw [List.getElem?_append_right (by simp; omega),List.getElem?_append_right (by simp; omega)]
 congr 1
 simp;omega
section
variable {W0 W:World} {b g:Nat} {eZ vd vo:Value} {st:Mc.St}
theorem yz.c (h:yz W0 b g eZ st vd vo W):W.cell? ⟨b,0,none⟩=some (.pointer (some ⟨g,0,none⟩))/\W.cell? ⟨b,1,none⟩=some eZ/\W.cell? ⟨b,34,none⟩=some vd/\W.cell? ⟨b,35,none⟩=some (.int .i64 st.pc)/\W.cell? ⟨b,36,none⟩=some (.int .i64 st.next) /\
  W.cell? ⟨b,37,none⟩=some (.int .i64 st.fQ)/\W.cell? ⟨b,38,none⟩=some (.int .i64 st.code)/\W.cell? ⟨b,39,none⟩=some vo/\W.cell? ⟨b,40,none⟩=some (.int .i64 st.steps)/\W.cell? ⟨b,41,none⟩=some (.int .i64 st.read):=by
 have k:∀ i,W.cell? ⟨b,i,none⟩=(jU g eZ st vd vo)[i]?:=fun i=>(h.blk.cell i).trans bJ
 have t:=ZB g eZ st vd vo h.ok.regs;refine ⟨k 0,k 1,(k 34).trans (t 0),(k 35).trans (t 1),(k 36).trans (t 2),(k 37).trans (t 3),(k 38).trans (t 4),(k 39).trans (t 5),(k 40).trans (t 6),(k 41).trans (t 7)⟩
theorem yz.cr (h:yz W0 b g eZ st vd vo W) (i:Nat) (hi:i < 32):W.cell? ⟨b,2+i,none⟩=some (.int .i64 (st.regs.getD i 0)):=((h.blk.cell (2+i)).trans bJ).trans (ypY g eZ st vd vo h.ok.regs i hi)
end
theorem Fa (n:Int) (w:World):Calls Tryz.prog 81 #[.int .i64 n] w fun e w'=>e = .returned (.int .i64 (Mc.wd n))/\w'=w:=by
 have E:=hid (Pm n);go_enter Tryz.func81,Tryz.ntmps81;go_wp2;go_ret;exact ⟨yF E.o,rfl⟩
theorem UL (n:Int) (w:World) (h0:0<=n) (h1:n < 4294967296):Calls Tryz.prog 180 #[.int .i64 n] w fun e w'=>e = .returned (.int .i64 (Mc.sg n))/\w'=w:=by
 by_cases h:n < 2147483648
 ·have E:=hid (show n=Mc.sg n by unfold Mc.sg; rw [if_pos h]);go_enter Tryz.func180,Tryz.ntmps180;go_wp2;go_ret;exact ⟨yF E.o,rfl⟩
 ·have E:=hid (show n - 4294967296=Mc.sg n by unfold Mc.sg; rw [if_neg h]);have d:decide (n < 2147483648)=false:=by simpa using h
  have e1:IntKind.i64.wrap (n - 4294967296)=n - 4294967296:=IntWalk.i64_in _ ⟨by omega,by omega⟩;go_enter Tryz.func180,Tryz.ntmps180;go_wp2;go_ret;exact ⟨yF E.o,rfl⟩
theorem yqp (n:Int) (h0:0<=n) (h1:n<=4294967295):bits .and .i64 n 31=n % 32:=low n 5 (by decide) 31 32 rfl rfl h0 h1
theorem yj (W0:World) (b g:Nat) (eZ:Value) (st:Mc.St) (vd vo:Value) (n:Int) (W:World) (h:yz W0 b g eZ st vd vo W) (h0:0<=n) (h1:n < 32) :
  Calls Tryz.prog 118 #[.pointer (some ⟨b,0,none⟩),.int .i64 n] W fun e W'=>e = .returned (.int .i64 (Mc.reg st n))/\W'=W:=by
 obtain ⟨k,rfl⟩:=Int.eq_ofNat_of_zero_le h0;have hk:k < 32:=by omega
 have c:=h.cr k hk;have e:=yqp (k:Int) (by omega) (by omega);have e2:(k:Int) % 32=k:=by omega
 rw [e2] at e;have R:=hid (show Mc.reg st (k:Int)=st.regs.getD k 0 by unfold Mc.reg; rw [e2]; rfl);clear h e2;generalize st.regs.getD k 0=v at *;go_enter Tryz.func118,Tryz.ntmps118;go_wp2;go_ret;exact ⟨yF R.o.symm,rfl⟩
theorem FE {W:World} {B b o:Nat} {v u:Value} {n:Nat} {xs:List Value} (h:W.ownsRow B 3 1 v n xs) (hne:∀ k,v.ownBlock=some k->k≠b):(W.setCell ⟨b,o,none⟩ u).ownsRow B 3 1 v n xs :=
 h.kept (yf W b o u) (by
  cases hv:v.ownBlock with
  | none=>exact .inl rfl
  | some k=>right; intro e; exact hne k hv (by simpa using e))
theorem yQ {w a c:World} {row:Option Nat} (h:w.grownBy a none) (k:a.grownBy c row) (hb:∀ b,row=some b->w.heap.size<=b):w.grownBy c none :=
 ⟨k.os.trans h.os,k.tape.trans h.tape,k.output.trans h.output,Nat.le_trans h.size k.size,fun i hi _ =>
  (k.block i (Nat.lt_of_lt_of_le hi h.size) (fun e=>by have:=hb i e.symm; omega)).trans (h.block i hi (by simp))⟩
section
variable {W0 W W':World} {b g:Nat} {eZ vd vo:Value} {st:Mc.St}
theorem yz.put (h:yz W0 b g eZ st vd vo W) (o:Nat) (v:Value) (st':Mc.St) (hc:(jU g eZ st vd vo).set o v=jU g eZ st' vd vo) (hd:st'.data=st.data) (ho:st'.o=st.o) (hok:Mc.Ok st') :
  yz W0 b g eZ st' vd vo (W.setCell ⟨b,o,none⟩ v):=by
 refine ⟨?_,by rw [hd]; exact FE h.data h.apart.1,by rw [ho]; exact FE h.o h.apart.2.1,h.apart,h.lo,yQ h.gr (yf W b o v) (by intro k e; simp at e; have:=h.lo; omega),hok⟩
 have:=h.blk.set o v
 rw [gH,hc] at this;exact this
theorem yz.grown (h:yz W0 b g eZ st vd vo W) (hg:W.grownBy W' none):yz W0 b g eZ st vd vo W' :=
 ⟨h.blk.grown hg (by simp),h.data.kept hg (by cases hv:vd.ownBlock <;> simp),h.o.kept hg (by cases hv:vo.ownBlock <;> simp),h.apart,h.lo,ya h.gr hg,h.ok⟩
theorem yz.free (h:yz W0 b g eZ st vd vo W) (o:Nat):W.frozen? ⟨b,o,none⟩=false:=h.blk.free o
end
theorem ylJ (g:Nat) (eZ:Value) (st:Mc.St) (vd vo:Value) (h:st.regs.length=32) (i:Nat) (hi:i < 32) (v:Int):(jU g eZ st vd vo).set (2+i) (.int .i64 v)=jU g eZ { st with regs:=st.regs.set i v } vd vo:=by
 unfold jU;rw [List.set_append_right _ _ (by simp),List.set_append_left _ _ (by simp; omega)];have e:2+i - [Value.pointer (some ⟨g,0,none⟩),eZ].length=i:=by simp
 rw [e,List.map_set]
theorem La (g:Nat) (eZ:Value) (st st':Mc.St) (vd vo OE OH:Value) (h:st.regs.length=32) (hr:st'.regs=st.regs) (i:Nat) (v:Value)
  (he:[vd,.int .i64 st.pc,.int .i64 st.next,.int .i64 st.fQ,.int .i64 st.code,vo,.int .i64 st.steps,.int .i64 st.read].set i v=[OE,.int .i64 st'.pc,.int .i64 st'.next,.int .i64 st'.fQ,.int .i64 st'.code,OH,.int .i64 st'.steps,.int .i64 st'.read]) :
  (jU g eZ st vd vo).set (34+i) v=jU g eZ st' OE OH:=by
 unfold jU;rw [List.set_append_right _ _ (by simp; omega),List.set_append_right _ _ (by simp; omega),hr]
 congr 2
 rw [<- he]
 congr 1
 simp;omega
theorem yrr {st:Mc.St} (h:Mc.Ok st) (i:Nat) (v:Int) (hi:i≠0):Mc.Ok { st with regs:=st.regs.set i (Mc.wd v) }:=by
 have hw:=Mc.fJ v;have g:∀ j,(st.regs.set i (Mc.wd v)).getD j 0=st.regs.getD j 0\/(st.regs.set i (Mc.wd v)).getD j 0=Mc.wd v:=by
  intro j;rw [lN,lN,List.getElem?_set];split
  ·split
   ·exact .inr rfl
   ·left
    rename_i h1 h2;subst h1;rw [List.getElem?_eq_none (by omega)]
  ·exact .inl rfl
 refine ⟨by simpa using h.regs,fun j=>?_,?_,h.data,h.kU,h.pc,h.next,h.o,h.steps,h.read⟩
 ·rcases g j with e | e
  ·rw [e]; exact h.words j
  ·rw [e]; exact hw
 ·show (st.regs.set i (Mc.wd v)).getD 0 0=0;rw [lN,List.getElem?_set,if_neg hi];exact h.zero
namespace Ln
structure gP where
 mod:Option Nat
 ah:Int
 off:Int
structure Mod where
 obj:Lk.Obj
 means:List gP
 short:List Bool
 text:List Int
 far:List Int
 data:Int
 bss:Int
def none_:gP:=⟨none,0,0⟩
def defines (y:Lk.Sym):Bool:=!decide (y.bind=0) && !decide (y.ah=0)
def wanted (y:Lk.Sym):Bool:=decide (y.bind=1) && decide (y.ah=0)
def wants (os:List Lk.Obj) (n:List UInt8):Bool:=os.any fun o=>o.syms.any fun y=>decide (y.name=n) && wanted y
def has (os:List Lk.Obj) (n:List UInt8):Bool:=os.any fun o=>o.syms.any fun y=>decide (y.name=n) && defines y
def needs (os:List Lk.Obj) (o:Lk.Obj):Bool:=o.syms.any fun y=>defines y && (wants os y.name && !has os y.name)
def gT (n:List UInt8) (bind:Int):List Lk.Sym->Option (Int×Int)
 | []=>none
 | y :: ys=>if y.name=n/\y.bind=bind/\y.ah≠0 then some (y.ah,y.off) else gT n bind ys
def findAt (n:List UInt8) (bind:Int):Nat->List Lk.Obj->gP
 | _,[]=>none_
 | i,o :: os=>match gT n bind o.syms with
  | some (s,f)=>⟨some i,s,f⟩
  | none=>findAt n bind (i+1) os
def find (os:List Lk.Obj) (n:List UInt8) (bind:Int):gP:=findAt n bind 0 os
def named (os:List Lk.Obj) (n:List UInt8):gP:=if (find os n 1).mod.isSome then find os n 1 else find os n 2
def meaning (os:List Lk.Obj) (i:Nat) (y:Lk.Sym):gP:=if y.bind=0 then ⟨some i,y.ah,y.off⟩ else named os y.name
structure rJ where
 e:Int
 at_:Int
 name:List UInt8
def ok:rJ:=⟨0,0,[]⟩
def dX (os:List Lk.Obj) (i:Nat):List Lk.Sym->Option rJ
 | []=>none
 | y :: ys=>if y.bind≠1\/y.ah=0 then dX os i ys else if (find (os.take i) y.name 1).mod.isSome then some ⟨33,i,y.name⟩ else dX os i ys
def mW (os:List Lk.Obj):Nat->List Lk.Obj->rJ
 | _,[]=>ok
 | i,o :: r=>match dX os i o.syms with
  | some f=>f
  | none=>mW os (i+1) r
def iJ (os:List Lk.Obj):rJ:=mW os 0 os
def dL (os:List Lk.Obj) (i:Nat):List Lk.Sym->Option rJ
 | []=>none
 | y :: ys=>if wanted y=false then dL os i ys else if (named os y.name).mod.isSome then dL os i ys else some ⟨34,i,y.name⟩
def wantedAt (os:List Lk.Obj):Nat->List Lk.Obj->rJ
 | _,[]=>ok
 | i,o :: r=>match dL os i o.syms with
  | some f=>f
  | none=>wantedAt os (i+1) r
def gu (os:List Lk.Obj):rJ:=wantedAt os 0 os
def pass:List (Lk.Obj×Bool)->List Lk.Obj->List (Lk.Obj×Bool)×List Lk.Obj×Bool
 | [],os=>([],os,false)
 | (o,t) :: r,os=>if t=false/\needs os o=true then ((o,true) :: (pass r (os ++ [o])).1,(pass r (os ++ [o])).2.1,true) else ((o,t) :: (pass r os).1,(pass r os).2.1,(pass r os).2.2)
def gK:Nat->List (Lk.Obj×Bool)->List Lk.Obj->List Lk.Obj
 | 0,_,os=>os
 | k+1,ms,os=>if (pass ms os).2.2=true then gK k (pass ms os).1 (pass ms os).2.1 else (pass ms os).2.1
def aL (ah off:Int):Nat->List Lk.Rel->Int×Lk.Rel
 | _,[]=>(0,⟨0,0,0,0,0⟩)
 | i,r :: rs=>if r.ah=ah/\r.off<=off/\off < r.off+4 * mX r then (i,r) else aL ah off (i+1) rs
def iX (sh:List Bool) (i:Int):Bool:=decide (0<=i) && sh.getD i.toNat false
def rup (a b:Int):Int:=bits .andNot .i64 (a+b - 1) (b - 1)
def stays (m:Mod) (ah off at_:Int):Bool :=
 if (aL ah off 0 m.obj.aj).2.kind=6 then !decide (rup at_ ((aL ah off 0 m.obj.aj).2.addend+4)=at_)
 else if (aL ah off 0 m.obj.aj).2.kind=4 then decide (off=(aL ah off 0 m.obj.aj).2.off) || !iX m.short (aL ah off 0 m.obj.aj).1
 else true
def aQ (m:Mod) (ah:Int):Nat->List Int->Int->List Int
 | _,[],at_=>[at_]
 | i,_ :: ws,at_=>at_ :: aQ m ah (i+1) ws (if stays m ah (4 * i) at_ then at_+4 else at_)
def dP (m:Mod) (ah:Int):Nat->List Int->Int->Int
 | _,[],at_=>at_
 | i,_ :: ws,at_=>dP m ah (i+1) ws (if stays m ah (4 * i) at_ then at_+4 else at_)
def aG (o:Lk.Obj) (ah:Nat):Int:=zA (o.align.getD (ah - 1) 0)
def begin_ (m:Mod) (ah:Nat) (from_:Int):Int:=rup from_ (aG m.obj ah)
def dH (m:Mod) (ah:Nat) (from_:Int):Int:=dP m ah 0 (yw m.obj ah) (begin_ m ah from_)
def aN (m:Mod) (ah:Nat) (from_:Int):List Int:=aQ m ah 0 (yw m.obj ah) (begin_ m ah from_)
def bC (m:Mod) (t f d:Int):Mod:={ m with text:=aN m 1 t,far:=aN m 2 f,data:=rup d (aG m.obj 3) }
def dD:List Mod->Int->Int->Int->List Mod
 | [],_,_,_=>[]
 | m :: ms,t,f,d=>bC m t f d :: dD ms (dH m 1 t) (dH m 2 f) (rup d (aG m.obj 3)+4 * m.obj.data.length)
def dO:List Mod->Int->Int
 | [],d=>d
 | m :: ms,d=>dO ms (rup d (aG m.obj 3)+4 * m.obj.data.length)
def fu:List Mod->Int->List Mod
 | [],_=>[]
 | m :: ms,b=>{ m with bss:=rup b (aG m.obj 4) } :: fu ms (rup b (aG m.obj 4)+4 * m.obj.bss)
def iy:List Mod->Int->Int
 | [],b=>b
 | m :: ms,b=>iy ms (rup b (aG m.obj 4)+4 * m.obj.bss)
def lay (t f d:Int) (ms:List Mod):List Mod:=fu (dD ms t f d) (dO ms d)
def noughts (d:Int) (ms:List Mod):Int:=(iy ms (dO ms d) - dO ms d) / 4
def placeOf (ps:List Int) (off:Int):Int:=if off.tdiv 4 < 0 then 0 else ps.getD (off.tdiv 4).toNat 0
def address (m:Mod) (ah off:Int):Int :=
 if ah=1 then placeOf m.text off else if ah=2 then placeOf m.far off else if ah=3 then m.data+off else if ah=4 then m.bss+off else 0
def bW (ms:List Mod) (s:gP):Int:=match s.mod with
 | none=>0
 | some i=>match ms[i]? with
  | none=>0
  | some m=>address m s.ah s.off
def target (ms:List Mod) (m:Mod) (r:Lk.Rel):Int:=if r.sym < 0\/(m.means.length:Int)<=r.sym then 0 else bW ms (m.means.getD r.sym.toNat none_)
def distance (ms:List Mod) (m:Mod) (r:Lk.Rel):Int:=target ms m r - address m r.ah r.off
def bU (ms:List Mod) (m:Mod) (r:Lk.Rel):Bool:=decide (r.kind=4) && (decide (-1015808 < distance ms m r) && decide (distance ms m r < 1015808))
def shorten (ms:List Mod):List Mod:=ms.map fun m=>{ m with short:=m.obj.aj.map (bU ms m) }
def layout (t f d:Int) (ms:List Mod):List Mod:=lay t f d (shorten (lay t f d ms))
end Ln
end Go.Proofs.YtpgklkhgfcjceaaGreatDoor
