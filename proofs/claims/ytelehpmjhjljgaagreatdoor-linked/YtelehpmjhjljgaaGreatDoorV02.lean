
import Derived.Test.YtelehpmjhjljgaaGreatDoorV01
import Derived.Deep.AppendLies
set_option maxHeartbeats 16000000
set_option maxRecDepth 100000
namespace Go.Proofs.YtelehpmjhjljgaaGreatDoor
open Go.RowKit
def ye (w:World) (g:Nat) (cs:Array Value) (t:TypeId):Prop:=w.heap[g]?=some (.cells cs t (0,0))
section
variable {w w':World} {g:Nat} {cs:Array Value} {t:TypeId}
theorem ye.lt (h:ye w g cs t):g < w.heap.size:=(Array.getElem?_eq_some_iff.1 h).1
theorem ye.cell (h:ye w g cs t) (o:Nat):w.cell? ⟨g,o,none⟩=cs[o]?:=by simp [World.cell?,show w.heap[g]?=_ from h]
theorem ye.free (h:ye w g cs t) (o:Nat):w.frozen? ⟨g,o,none⟩=false:=by simp [World.frozen?,show w.heap[g]?=_ from h]
theorem ye.set (h:ye w g cs t) (o:Nat) (v:Value):ye (w.setCell ⟨g,o,none⟩ v) g (cs.setIfInBounds o v) t:=QC h v
theorem ye.grown (h:ye w g cs t) {row:Option Nat} (hg:w.grownBy w' row) (hne:some g≠row):ye w' g cs t:=(hg.block g h.lt hne).trans h
theorem ye.new (w:World) (cs:Array Value) (t:TypeId):ye (w.alloc (.cells cs t)) w.heap.size cs t:=heap_alloc_new w _
theorem ye.drewN (h:ye w g cs t) (n:Nat):ye (w.drewN n) g cs t:=by unfold ye; rw [XB]; exact h
end
theorem Calls.bG {P:Program} {f:Nat} {args:Array Value} {w:World} {K:Ending->World->Prop} (R:World->Prop) (hR:R w) (h:∀ w,R w->Calls P f args w K):Calls P f args w K:=h w hR
structure oP (w:World) (b:Nat) (s:ByteArray) (t:TypeId) (zs:Array Value) (p:Nat) (sh:Bool) (cs:Array Value) (W:World):Prop where
 rd:bC W b s p sh
 own:ye W (w.heap.size+1) cs t
 res:ye W w.heap.size zs t
 gr:w.grownBy W (some b)
section
variable {w W W':World} {b:Nat} {s:ByteArray} {t:TypeId} {zs cs:Array Value} {p p':Nat} {sh sh':Bool}
theorem oP.begin (h:bC w b s p sh):oP w b s t zs p sh cs ((w.alloc (.cells zs t)).alloc (.cells cs t)):=by
 refine ⟨(h.grown (aH w _ none) (by simp)).grown (aH _ _ none) (by simp),?_,?_,?_⟩
 ·have:=ye.new (w.alloc (.cells zs t)) cs t
  simpa using this
 ·exact (ye.new w zs t).grown (aH _ _ none) (by simp)
 ·exact ya (aH _ _ _) (aH _ _ _)
theorem oP.call (h:oP w b s t zs p sh cs W) (hb:b < w.heap.size) (hr:bC W' b s p' sh') (hg:W.grownBy W' (some b)):oP w b s t zs p' sh' cs W' :=
 ⟨hr,h.own.grown hg (by simp; omega),h.res.grown hg (by simp; omega),ya h.gr hg⟩
theorem oP.store (h:oP w b s t zs p sh cs W) (hb:b < w.heap.size) (o:Nat) (v:Value):oP w b s t zs p sh (cs.setIfInBounds o v) (W.setCell ⟨w.heap.size+1,o,none⟩ v) :=
 ⟨h.rd.grown (yi W (w.heap.size+1) o v) (by simp; omega),h.own.set o v,h.res.grown (yi W (w.heap.size+1) o v) (by simp),BU h.gr (yi W (w.heap.size+1) o v) (by simp)⟩
theorem oP.put (h:oP w b s t zs p sh cs W) (hb:b < w.heap.size) (o:Nat) (v:Value):oP w b s t (zs.setIfInBounds o v) p sh cs (W.setCell ⟨w.heap.size,o,none⟩ v) :=
 ⟨h.rd.grown (yi W w.heap.size o v) (by simp; omega),h.own.grown (yi W w.heap.size o v) (by simp),h.res.set o v,BU h.gr (yi W w.heap.size o v) (by simp)⟩
end
theorem sV (b:Nat) (s:ByteArray) (p n:Nat) (m:Int) (hmn:m=(n:Int)) (sh:Bool) (w:World) (h:bC w b s p sh)
  (hs:s.size<=1048576) (hp:p<=s.size) (hm:n<=4) :
  Calls Tryz.prog 100 #[.pointer (some ⟨b,0,none⟩),.int .i64 m] w fun e w'=>e = .returned (.int .i64 (Lk.rdNum (sl s) n (p,sh)).1)/\bC w' b s (Lk.rdNum (sl s) n (p,sh)).2.1 (Lk.rdNum (sl s) n (p,sh)).2.2/\w.grownBy w' (some b):=by
 subst hmn; exact Yc b s p n sh w h hs hp hm
theorem Kq (b:Nat) (s:ByteArray) (p n:Nat) (m:Int) (hmn:m=(n:Int)) (sh:Bool) (w:World) (h:bC w b s p sh)
  (hs:s.size<=1048576) (hp:p<=s.size) (hm:n<=1048576) :
  Calls Tryz.prog 99 #[.pointer (some ⟨b,0,none⟩),.int .i64 m] w fun e w'=>e = .returned (.string (bs (Lk.aF (sl s) n (p,sh)).1))/\bC w' b s (Lk.aF (sl s) n (p,sh)).2.1 (Lk.aF (sl s) n (p,sh)).2.2/\w.grownBy w' (some b):=by
 subst hmn; exact YH b s p n sh w h hs hp hm
theorem ynI (a d:Nat):(256:Int) ^ a<=(256:Int) ^ (a+d):=by
 induction d with
 | zero=>simp
 | succ d ih =>
  have h1:=Int.pow_succ (256:Int) (a+d);have hp:(0:Int) < 256 ^ (a+d):=Int.pow_pos (by decide);rw [<- Nat.add_assoc,h1];omega
theorem vJ (l:List UInt8) (n:Nat) (st:Lk.St):0<=(Lk.rdNum l n st).1/\(Lk.rdNum l n st).1 < (256:Int) ^ n:=by
 unfold Lk.rdNum;refine ⟨Lk.num_nonneg _,?_⟩;have h2:=Lk.oC (Lk.aF l n st).1;have hl:(Lk.aF l n st).1.length<=n:=by
  unfold Lk.aF;split
  ·simp; omega
  ·simp
 have hm:=ynI (Lk.aF l n st).1.length (n - (Lk.aF l n st).1.length);rw [Nat.add_sub_cancel' hl] at hm;omega
theorem yhJ (b:Nat) (s:ByteArray) (p:Nat) (sh:Bool) (w:World) (h:bC w b s p sh)
  (hs:s.size<=1048576) (hp:p<=s.size) :
  Calls Tryz.prog 135 #[.pointer (some ⟨b,0,none⟩)] w fun e w' =>
   e = .returned (.agg #[.string (bs (Lk.dD (sl s) (p,sh)).1.name),.int .i64 (Lk.dD (sl s) (p,sh)).1.bind,.int .i64 (Lk.dD (sl s) (p,sh)).1.ah,.int .i64 (Lk.dD (sl s) (p,sh)).1.off]) /\
   bC w' b s (Lk.dD (sl s) (p,sh)).2.1 (Lk.dD (sl s) (p,sh)).2.2/\w.grownBy w' (some b):=by
 have hb:=h.lt;have hlen:=rz s;unfold Lk.dD;simp only;have ba:=vJ (sl s) 1 (p,sh);have la:=nk (sl s) 1 (p,sh) (by rw [hlen]; exact hp);have c1:=fun W h=>sV b s p 1 1 rfl sh W h hs hp (by omega)
 generalize Lk.rdNum (sl s) 1 (p,sh)=a at *;obtain ⟨len,p1,s1⟩:=a;rw [hlen] at la;simp only [Int.reducePow] at *;have lt:=Gg (sl s) len.toNat (p1,s1) (by rw [hlen]; exact la)
 have c2:=fun W h=>Kq b s p1 len.toNat len (by omega) s1 W h hs la (by omega)
 generalize Lk.aF (sl s) len.toNat (p1,s1)=t at *;obtain ⟨name,p2,s2⟩:=t;rw [hlen] at lt;simp only at *;have lb:=nk (sl s) 1 (p2,s2) (by rw [hlen]; exact lt);have c3:=fun W h=>sV b s p2 1 1 rfl s2 W h hs lt (by omega)
 generalize Lk.rdNum (sl s) 1 (p2,s2)=x3 at *;obtain ⟨bind,p3,s3⟩:=x3;rw [hlen] at lb;simp only at *;have lc:=nk (sl s) 1 (p3,s3) (by rw [hlen]; exact lb);have c4:=fun W h=>sV b s p3 1 1 rfl s3 W h hs lb (by omega)
 generalize Lk.rdNum (sl s) 1 (p3,s3)=x4 at *;obtain ⟨ah,p4,s4⟩:=x4;rw [hlen] at lc;simp only at *;have c5:=fun W h=>sV b s p4 2 2 rfl s4 W h hs lc (by omega)
 generalize Lk.rdNum (sl s) 2 (p4,s4)=x5 at *;obtain ⟨off,p5,s5⟩:=x5;simp only at *;replace c1:=hid c1;replace c2:=hid c2;replace c3:=hid c3;replace c4:=hid c4;replace c5:=hid c5;have H:=hid h;clear h hlen;go_enter Tryz.func135,Tryz.ntmps135;go_wp2_with fail;refine Calls.bG (oP w b s 77 #[.string ⟨#[]⟩,.int .i64 0,.int .i64 0,.int .i64 0] p sh #[.string ⟨#[]⟩,.int .i64 0,.int .i64 0,.int .i64 0]) (oP.begin H.o) ?_;intro W1 h1;refine (c1.o W1 h1.rd).mono ?_;rintro e W2 ⟨rfl,r2,q2⟩;have S2:=hid (h1.call hb r2 q2);clear r2 q2 h1;go_wp2_with fail;refine (c2.o W2 S2.o.rd).mono ?_;rintro e W3 ⟨rfl,r3,q3⟩
 have S3:=hid (S2.o.call hb r3 q3);have k3:=S3.o.own.cell 0;have f3:=S3.o.own.free 0;clear r3 q3 S2;go_wp2_with fail;refine Calls.bG (oP w b s 77 #[.string ⟨#[]⟩,.int .i64 0,.int .i64 0,.int .i64 0] p2 s2 #[.string (bs name),.int .i64 0,.int .i64 0,.int .i64 0]) (S3.o.store hb 0 _) ?_;clear k3 f3 S3 W3;intro W3 h3;refine (c3.o W3 h3.rd).mono ?_;rintro e W4 ⟨rfl,r4,q4⟩;have S4:=hid (h3.call hb r4 q4);have k4:=S4.o.own.cell 1;have f4:=S4.o.own.free 1;clear r4 q4 h3;go_wp2_with fail;refine Calls.bG (oP w b s 77 #[.string ⟨#[]⟩,.int .i64 0,.int .i64 0,.int .i64 0] p3 s3 #[.string (bs name),.int .i64 bind,.int .i64 0,.int .i64 0]) (S4.o.store hb 1 _) ?_
 clear k4 f4 S4 W4;intro W4 h4;refine (c4.o W4 h4.rd).mono ?_;rintro e W5 ⟨rfl,r5,q5⟩;have S5:=hid (h4.call hb r5 q5);have k5:=S5.o.own.cell 2;have f5:=S5.o.own.free 2;clear r5 q5 h4;go_wp2_with fail;refine Calls.bG (oP w b s 77 #[.string ⟨#[]⟩,.int .i64 0,.int .i64 0,.int .i64 0] p4 s4 #[.string (bs name),.int .i64 bind,.int .i64 ah,.int .i64 0]) (S5.o.store hb 2 _) ?_;clear k5 f5 S5 W5;intro W5 h5;refine (c5.o W5 h5.rd).mono ?_;rintro e W6 ⟨rfl,r6,q6⟩;have S6:=hid (h5.call hb r6 q6);have k60:=S6.o.own.cell 0;have k61:=S6.o.own.cell 1;have k62:=S6.o.own.cell 2;have k63:=S6.o.own.cell 3;have f63:=S6.o.own.free 3
 have m60:=S6.o.res.cell 0;have m61:=S6.o.res.cell 1;have m62:=S6.o.res.cell 2;have m63:=S6.o.res.cell 3;have n60:=S6.o.res.free 0;have n61:=S6.o.res.free 1;have n62:=S6.o.res.free 2;have n63:=S6.o.res.free 3;clear r6 q6 h5;go_wp2;have F:=((((S6.o.store hb 3 (.int .i64 off)).put hb 0 (.string (bs name))).put hb 1 (.int .i64 bind)).put hb 2 (.int .i64 ah)).put hb 3 (.int .i64 off);refine bodyPost_ret (v:=.agg #[.string (bs name),.int .i64 bind,.int .i64 ah,.int .i64 off]) ?_ rfl ⟨rfl,F.rd,F.gr⟩;have e0:=F.res.cell 0;have e1:=F.res.cell 1;have e2:=F.res.cell 2;have e3:=F.res.cell 3;clear S6 k60 k61 k62 k63 f63 m60 m61 m62 m63 n60 n61 n62 n63
 generalize World.setCell _ _ _=WF at *;simp [results,Tryz.results135,go_sem,e0,e1,e2,e3]
theorem yir (b:Nat) (s:ByteArray) (p:Nat) (sh:Bool) (w:World) (h:bC w b s p sh)
  (hs:s.size<=1048576) (hp:p<=s.size) :
  Calls Tryz.prog 136 #[.pointer (some ⟨b,0,none⟩)] w fun e w' =>
   e = .returned (.agg #[.int .i64 (Lk.dz (sl s) (p,sh)).1.ah,.int .i64 (Lk.dz (sl s) (p,sh)).1.off,.int .i64 (Lk.dz (sl s) (p,sh)).1.kind,.int .i64 (Lk.dz (sl s) (p,sh)).1.sym,.int .i64 (Lk.dz (sl s) (p,sh)).1.addend]) /\
   bC w' b s (Lk.dz (sl s) (p,sh)).2.1 (Lk.dz (sl s) (p,sh)).2.2/\w.grownBy w' (some b):=by
 have hb:=h.lt;have hlen:=rz s;unfold Lk.dz;simp only;have l1:=nk (sl s) 1 (p,sh) (by rw [hlen]; exact hp);have b1:=vJ (sl s) 1 (p,sh);have c1:=fun W h=>sV b s p 1 1 rfl sh W h hs hp (by omega)
 generalize Lk.rdNum (sl s) 1 (p,sh)=x1 at *;obtain ⟨ah,p1,s1⟩:=x1;rw [hlen] at l1;simp only [Int.reducePow] at *;have l2:=nk (sl s) 1 (p1,s1) (by rw [hlen]; exact l1);have b2:=vJ (sl s) 1 (p1,s1);have c2:=fun W h=>sV b s p1 1 1 rfl s1 W h hs l1 (by omega)
 generalize Lk.rdNum (sl s) 1 (p1,s1)=x2 at *;obtain ⟨kind,p2,s2⟩:=x2;rw [hlen] at l2;simp only [Int.reducePow] at *;have l3:=nk (sl s) 2 (p2,s2) (by rw [hlen]; exact l2);have b3:=vJ (sl s) 2 (p2,s2);have c3:=fun W h=>sV b s p2 2 2 rfl s2 W h hs l2 (by omega)
 generalize Lk.rdNum (sl s) 2 (p2,s2)=x3 at *;obtain ⟨off,p3,s3⟩:=x3;rw [hlen] at l3;simp only [Int.reducePow] at *;have l4:=nk (sl s) 1 (p3,s3) (by rw [hlen]; exact l3);have b4:=vJ (sl s) 1 (p3,s3);have c4:=fun W h=>sV b s p3 1 1 rfl s3 W h hs l3 (by omega)
 generalize Lk.rdNum (sl s) 1 (p3,s3)=x4 at *;obtain ⟨sym,p4,s4⟩:=x4;rw [hlen] at l4;simp only [Int.reducePow] at *;have b5:=vJ (sl s) 2 (p4,s4);have c5:=fun W h=>sV b s p4 2 2 rfl s4 W h hs l4 (by omega)
 generalize Lk.rdNum (sl s) 2 (p4,s4)=x5 at *;obtain ⟨add,p5,s5⟩:=x5;simp only [Int.reducePow] at *;replace c1:=hid c1;replace c2:=hid c2;replace c3:=hid c3;replace c4:=hid c4;replace c5:=hid c5;have H:=hid h;clear h hlen;go_enter Tryz.func136,Tryz.ntmps136;go_wp2_with fail;refine Calls.bG (oP w b s 83 #[.int .i64 0,.int .i64 0,.int .i64 0,.int .i64 0,.int .i64 0] p sh #[.int .i64 0,.int .i64 0,.int .i64 0,.int .i64 0,.int .i64 0]) (oP.begin H.o) ?_;intro W1 h1;refine (c1.o W1 h1.rd).mono ?_;rintro e V1 ⟨rfl,r1,q1⟩;have S1:=hid (h1.call hb r1 q1);have k1:=S1.o.own.cell 0;have f1:=S1.o.own.free 0
 clear r1 q1 h1;go_wp2_with fail;refine Calls.bG (oP w b s 83 #[.int .i64 0,.int .i64 0,.int .i64 0,.int .i64 0,.int .i64 0] p1 s1 #[.int .i64 ah,.int .i64 0,.int .i64 0,.int .i64 0,.int .i64 0]) (S1.o.store hb 0 _) ?_;clear k1 f1 S1 V1;intro W2 h2;refine (c2.o W2 h2.rd).mono ?_;rintro e V2 ⟨rfl,r2,q2⟩;have S2:=hid (h2.call hb r2 q2);have k2:=S2.o.own.cell 2;have f2:=S2.o.own.free 2;clear r2 q2 h2;go_wp2_with fail;refine Calls.bG (oP w b s 83 #[.int .i64 0,.int .i64 0,.int .i64 0,.int .i64 0,.int .i64 0] p2 s2 #[.int .i64 ah,.int .i64 0,.int .i64 kind,.int .i64 0,.int .i64 0]) (S2.o.store hb 2 _) ?_
 clear k2 f2 S2 V2;intro W3 h3;refine (c3.o W3 h3.rd).mono ?_;rintro e V3 ⟨rfl,r3,q3⟩;have S3:=hid (h3.call hb r3 q3);have k3:=S3.o.own.cell 1;have f3:=S3.o.own.free 1;clear r3 q3 h3;go_wp2_with fail;refine Calls.bG (oP w b s 83 #[.int .i64 0,.int .i64 0,.int .i64 0,.int .i64 0,.int .i64 0] p3 s3 #[.int .i64 ah,.int .i64 off,.int .i64 kind,.int .i64 0,.int .i64 0]) (S3.o.store hb 1 _) ?_;clear k3 f3 S3 V3;intro W4 h4;refine (c4.o W4 h4.rd).mono ?_;rintro e V4 ⟨rfl,r4,q4⟩;have S4:=hid (h4.call hb r4 q4);have k4:=S4.o.own.cell 3;have f4:=S4.o.own.free 3;clear r4 q4 h4;go_wp2_with fail;refine Calls.bG (oP w b s 83 #[.int .i64 0,.int .i64 0,.int .i64 0,.int .i64 0,.int .i64 0] p4 s4 #[.int .i64 ah,.int .i64 off,.int .i64 kind,.int .i64 sym,.int .i64 0]) (S4.o.store hb 3 _) ?_
 clear k4 f4 S4 V4;intro W5 h5;refine (c5.o W5 h5.rd).mono ?_;rintro e V5 ⟨rfl,r5,q5⟩;have S5:=hid (h5.call hb r5 q5);clear r5 q5 h5;have k0:=S5.o.own.cell 0;have k1:=S5.o.own.cell 1;have k2:=S5.o.own.cell 2;have k3:=S5.o.own.cell 3;have k4:=S5.o.own.cell 4;have f4:=S5.o.own.free 4;have m0:=S5.o.res.cell 0;have n0:=S5.o.res.free 0;have m1:=S5.o.res.cell 1;have n1:=S5.o.res.free 1;have m2:=S5.o.res.cell 2;have n2:=S5.o.res.free 2;have m3:=S5.o.res.cell 3;have n3:=S5.o.res.free 3;have m4:=S5.o.res.cell 4;have n4:=S5.o.res.free 4;by_cases hge:32768<=add
 ·have HG:=hid (show Lk.tL add=(add - 65536) from by unfold Lk.tL; rw [if_pos hge]);go_wp2;have F:=((((((S5.o.store hb 4 (.int .i64 add)).store hb 4 (.int .i64 (add - 65536))).put hb 0 (.int .i64 ah)).put hb 1 (.int .i64 off)).put hb 2 (.int .i64 kind)).put hb 3 (.int .i64 sym)).put hb 4 (.int .i64 (add - 65536));refine bodyPost_ret (v:=.agg #[.int .i64 ah,.int .i64 off,.int .i64 kind,.int .i64 sym,.int .i64 (add - 65536)]) ?_ rfl ⟨by rw [HG.o],F.rd,F.gr⟩;have e0:=F.res.cell 0;have e1:=F.res.cell 1;have e2:=F.res.cell 2;have e3:=F.res.cell 3;have e4:=F.res.cell 4;clear S5 k0 k1 k2 k3 k4 f4 m0 m1 m2 m3 m4 n0 n1 n2 n3 n4
  generalize World.setCell _ _ _=WF at *;simp [results,Tryz.results136,go_sem,e0,e1,e2,e3,e4]
 ·have HG:=hid (show Lk.tL add=add from by unfold Lk.tL; rw [if_neg hge]);go_wp2;have F:=(((((S5.o.store hb 4 (.int .i64 add)).put hb 0 (.int .i64 ah)).put hb 1 (.int .i64 off)).put hb 2 (.int .i64 kind)).put hb 3 (.int .i64 sym)).put hb 4 (.int .i64 add);refine bodyPost_ret (v:=.agg #[.int .i64 ah,.int .i64 off,.int .i64 kind,.int .i64 sym,.int .i64 add]) ?_ rfl ⟨by rw [HG.o],F.rd,F.gr⟩;have e0:=F.res.cell 0;have e1:=F.res.cell 1;have e2:=F.res.cell 2;have e3:=F.res.cell 3;have e4:=F.res.cell 4;clear S5 k0 k1 k2 k3 k4 f4 m0 m1 m2 m3 m4 n0 n1 n2 n3 n4;generalize World.setCell _ _ _=WF at *;simp [results,Tryz.results136,go_sem,e0,e1,e2,e3,e4]
def iO (y:Lk.Sym):List Value:=[.string (bs y.name),.int .i64 y.bind,.int .i64 y.ah,.int .i64 y.off]
def iH (r:Lk.Rel):List Value:=[.int .i64 r.ah,.int .i64 r.off,.int .i64 r.kind,.int .i64 r.sym,.int .i64 r.addend]
theorem ZF (W:World) (o:Obj) (cs:Array Value) (t:TypeId):∀ j u,cs.toList[j]?=some u->((W.alloc o).alloc (.cells cs t)).cell? ((⟨W.heap.size+1,0,none⟩:Addr).add j)=some u:=by
 have h:((W.alloc o).alloc (.cells cs t)).heap[W.heap.size+1]?=some (.cells cs t (0,0)):=by
  have:=heap_alloc_new (W.alloc o) (.cells cs t)
  simpa using this
 exact World.news_of_block h
theorem YK {w wr w1:World} {o o':Obj} {b:Nat} {s:ByteArray} {p:Nat} {sh:Bool} {row:Option Nat} (hb:b < w.heap.size) (hg:w.grownBy wr (some b)) (hr:bC wr b s p sh) (hk:((wr.alloc o).alloc o').grownBy w1 row) (hrow:∀ g,row=some g->w.heap.size<=g) :
  bC w1 b s p sh/\w.grownBy w1 (some b):=by
 have h1:wr.grownBy (wr.alloc o) none:=aH wr o none;exact Y5 hb (BU hg h1 (by simp)) (hr.grown h1 (by simp)) hk hrow
theorem RG {α:Type} (l:List UInt8) (f:Lk.St->α×Lk.St) (hf:∀ st,st.1<=l.length->(f st).2.1<=l.length) (c:Nat) (st:Lk.St) (h:st.1<=l.length):(Lk.aN f c st).2.1<=l.length:=by
 induction c generalizing st with
 | zero=>exact h
 | succ c ih =>
  unfold Lk.aN;split
  ·exact h
  ·exact ih _ (hf st h)
theorem YJ (l:List UInt8) (st:Lk.St) (h:st.1<=l.length):(Lk.dD l st).2.1<=l.length:=by
 unfold Lk.dD;exact nk _ _ _ (nk _ _ _ (nk _ _ _ (Gg _ _ _ (nk _ _ _ h))))
theorem YI (l:List UInt8) (st:Lk.St) (h:st.1<=l.length):(Lk.dz l st).2.1<=l.length:=by
 simp only [Lk.dz];refine nk _ _ _ ?_;refine nk _ _ _ ?_;refine nk _ _ _ ?_;refine nk _ _ _ ?_;exact nk _ _ _ h
theorem Mx (l:List UInt8) (n c:Nat) (st:Lk.St) (h:st.1<=l.length):(Lk.bn l n c st).2.1<=l.length:=by
 rw [Lk.ng]; exact RG l _ (fun st h=>nk l n st h) c st h
theorem yhh (b:Nat) (s:ByteArray) (p count:Nat) (sh:Bool) (w:World) (h:bC w b s p sh)
  (hs:s.size<=1048576) (hp:p<=s.size) (hc:count<=65535) :
  Calls Tryz.prog 119 #[.pointer (some ⟨b,0,none⟩),.int .i64 count] w fun e w'=>∃ v,e = .returned v /\
   w'.ownsRow w.heap.size 77 4 v (Lk.aN (Lk.dD (sl s)) count (p,sh)).1.length ((Lk.aN (Lk.dD (sl s)) count (p,sh)).1.flatMap iO) /\
   bC w' b s (Lk.aN (Lk.dD (sl s)) count (p,sh)).2.1 (Lk.aN (Lk.dD (sl s)) count (p,sh)).2.2/\w.grownBy w' (some b):=by
 obtain ⟨i0,hi,hz0,hz1,hz2⟩:=info_parts Tryz.vF;have hb:=h.lt;have H:=hid h;clear h;go_enter Tryz.func119,Tryz.ntmps119;go_wp2_with fail
 go_loopw [5,6] (fun v i wr=>∃ (k:Nat) (acc:List Lk.Sym) (st:Lk.St),k<=count/\i = .int .i64 k/\acc.length=k/\st.1<=s.size /\
   wr.ownsRow w.heap.size 77 4 v acc.length (acc.flatMap iO)/\bC wr b s st.1 st.2/\w.grownBy wr (some b) /\
   Lk.aN (Lk.dD (sl s)) count (p,sh)=(acc ++ (Lk.aN (Lk.dD (sl s)) (count - k) st).1,(Lk.aN (Lk.dD (sl s)) (count - k) st).2)) (fun _ i _=>count - (intOf i).toNat)
 case atStart=>exact ⟨0,[],(p,sh),Nat.zero_le _,rfl,rfl,hp,World.ownsRow_nil _ _ _ _,H.o,World.grownBy.refl _ _,by simp⟩
 case round =>
  obtain ⟨k,acc,st,hk,rfl,hacc,hst,hown,hrd,hgr,heq⟩:=hrel;have HE:=hid heq;have HA:=hid hacc;clear heq;by_cases hlt:k < count
  ·cases hsh:st.2
   ·rw [hsh] at hrd;have hsu:count - k=(count - (k+1))+1:=by omega
    have hle:=YJ (sl s) (st.1,false) (by rw [rz]; exact hst);have cN:=hid (yhJ b s st.1 false wr hrd hs hst);have HN:=hid (show Lk.aN (Lk.dD (sl s)) (count - k) st=((Lk.dD (sl s) (st.1,false)).1 :: (Lk.aN (Lk.dD (sl s)) (count - (k+1)) (Lk.dD (sl s) (st.1,false)).2).1,(Lk.aN (Lk.dD (sl s)) (count - (k+1)) (Lk.dD (sl s) (st.1,false)).2).2) from by
     rw [hsu];have e:st=(st.1,false):=Prod.ext rfl hsh;rw [e]; rfl)
    rw [rz] at hle;clear hsu hsh;generalize Lk.dD (sl s) (st.1,false)=r at *;obtain ⟨x,st'⟩:=r;simp only at cN HN hle;have cS:=hid (MB b s st.1 false wr hrd);have HR:=hid hrd;clear hrd;have zD:acc.length<=65535:=by omega
    go_wp2_with fail;refine cS.o.mono ?_;rintro e w1 ⟨rfl,rfl⟩;go_wp2_with fail;refine cN.o.mono ?_;rintro e w2 ⟨rfl,sD,dN⟩;have hown2:=EU hown hb dN;have jK:=ya hgr dN;have HR2:=hid sD;have HG2:=hid jK;have hsz:=jK.size;clear sD dN jK hown hgr HR cS cN;go_wp2_with (at_builtin; refine wpList_append_own _ rfl _ _ 72 rfl w.heap.size 77 i0 (.agg #[.string ⟨#[]⟩,.int .i64 0,.int .i64 0,.int .i64 0]) 4 40 Tryz.underlying72 hi hz0 hz1 hz2 rfl (by decide) _ _ _ rfl ((hown2.alloc _).alloc _) ⟨w2.heap.size+1,0,none⟩ 1 1 (iO x) rfl rfl (ZF _ _ _ _) (by intro u hu; simp [iO] at hu; rcases hu with rfl | rfl | rfl | rfl <;> rfl) (by unfold maxLen; omega) (by omega) (by simp; omega) ?_; intro v' w3 hown' hgrow _)
    have K:=YK hb HG2.o HR2.o hgrow (fun g hg=>(hown2.lt g hg).1);clear hgrow hown2;go_wp2
    go_roundw
    case rel =>
     refine ⟨k+1,acc ++ [x],st',by omega,by go_num,by simp [HA.o],hle,?_,K.1,K.2,?_⟩
     ·simpa using hown'
     ·rw [HE.o,HN.o]; simp
    case measure=>simp [intOf]; omega
   ·rw [hsh] at hrd;have hfin:Lk.aN (Lk.dD (sl s)) count (p,sh)=(acc,(st.1,true)):=by
     have hsu:count - k=(count - (k+1))+1:=by omega
     rw [HE.o,hsu];have e:st=(st.1,true):=Prod.ext rfl hsh;rw [e];simp [Lk.aN]
    have HF:=hid hfin;clear hfin hsh HE;have cS:=hid (MB b s st.1 true wr hrd);have HR:=hid hrd;clear hrd;go_wp2_with fail;refine cS.o.mono ?_;rintro e w1 ⟨rfl,rfl⟩;go_wp2;go_ret;rw [HF.o];exact ⟨_,rfl,hown,HR.o,hgr⟩
  ·have hfin:Lk.aN (Lk.dD (sl s)) count (p,sh)=(acc,st):=by
    have hsu:count - k=0:=by omega
    rw [HE.o,hsu];simp [Lk.aN]
   have HF:=hid hfin;clear hfin HE;have HR:=hid hrd;clear hrd;have hd:decide ((k:Int) < (count:Int))=false:=by simp; omega
   go_wp2;go_ret;rw [HF.o];exact ⟨_,rfl,hown,HR.o,hgr⟩
theorem yhH (b:Nat) (s:ByteArray) (p count:Nat) (sh:Bool) (w:World) (h:bC w b s p sh)
  (hs:s.size<=1048576) (hp:p<=s.size) (hc:count<=65535) :
  Calls Tryz.prog 120 #[.pointer (some ⟨b,0,none⟩),.int .i64 count] w fun e w'=>∃ v,e = .returned v /\
   w'.ownsRow w.heap.size 83 5 v (Lk.aN (Lk.dz (sl s)) count (p,sh)).1.length ((Lk.aN (Lk.dz (sl s)) count (p,sh)).1.flatMap iH) /\
   bC w' b s (Lk.aN (Lk.dz (sl s)) count (p,sh)).2.1 (Lk.aN (Lk.dz (sl s)) count (p,sh)).2.2/\w.grownBy w' (some b):=by
 obtain ⟨i0,hi,hz0,hz1,hz2⟩:=info_parts Tryz.vE;have hb:=h.lt;have H:=hid h;clear h;go_enter Tryz.func120,Tryz.ntmps120;go_wp2_with fail
 go_loopw [5,6] (fun v i wr=>∃ (k:Nat) (acc:List Lk.Rel) (st:Lk.St),k<=count/\i = .int .i64 k/\acc.length=k/\st.1<=s.size /\
   wr.ownsRow w.heap.size 83 5 v acc.length (acc.flatMap iH)/\bC wr b s st.1 st.2/\w.grownBy wr (some b) /\
   Lk.aN (Lk.dz (sl s)) count (p,sh)=(acc ++ (Lk.aN (Lk.dz (sl s)) (count - k) st).1,(Lk.aN (Lk.dz (sl s)) (count - k) st).2)) (fun _ i _=>count - (intOf i).toNat)
 case atStart=>exact ⟨0,[],(p,sh),Nat.zero_le _,rfl,rfl,hp,World.ownsRow_nil _ _ _ _,H.o,World.grownBy.refl _ _,by simp⟩
 case round =>
  obtain ⟨k,acc,st,hk,rfl,hacc,hst,hown,hrd,hgr,heq⟩:=hrel;have HE:=hid heq;have HA:=hid hacc;clear heq;by_cases hlt:k < count
  ·cases hsh:st.2
   ·rw [hsh] at hrd;have hsu:count - k=(count - (k+1))+1:=by omega
    have hle:=YI (sl s) (st.1,false) (by rw [rz]; exact hst);have cN:=hid (yir b s st.1 false wr hrd hs hst);have HN:=hid (show Lk.aN (Lk.dz (sl s)) (count - k) st=((Lk.dz (sl s) (st.1,false)).1 :: (Lk.aN (Lk.dz (sl s)) (count - (k+1)) (Lk.dz (sl s) (st.1,false)).2).1,(Lk.aN (Lk.dz (sl s)) (count - (k+1)) (Lk.dz (sl s) (st.1,false)).2).2) from by
     rw [hsu];have e:st=(st.1,false):=Prod.ext rfl hsh;rw [e]; rfl)
    rw [rz] at hle;clear hsu hsh;generalize Lk.dz (sl s) (st.1,false)=r at *;obtain ⟨x,st'⟩:=r;simp only at cN HN hle;have cS:=hid (MB b s st.1 false wr hrd);have HR:=hid hrd;clear hrd;have zD:acc.length<=65535:=by omega
    go_wp2_with fail;refine cS.o.mono ?_;rintro e w1 ⟨rfl,rfl⟩;go_wp2_with fail;refine cN.o.mono ?_;rintro e w2 ⟨rfl,sD,dN⟩;have hown2:=EU hown hb dN;have jK:=ya hgr dN;have HR2:=hid sD;have HG2:=hid jK;have hsz:=jK.size;clear sD dN jK hown hgr HR cS cN;go_wp2_with (at_builtin; refine wpList_append_own _ rfl _ _ 73 rfl w.heap.size 83 i0 (.agg #[.int .i64 0,.int .i64 0,.int .i64 0,.int .i64 0,.int .i64 0]) 5 40 Tryz.underlying73 hi hz0 hz1 hz2 rfl (by decide) _ _ _ rfl ((hown2.alloc _).alloc _) ⟨w2.heap.size+1,0,none⟩ 1 1 (iH x) rfl rfl (ZF _ _ _ _) (by intro u hu; simp [iH] at hu; rcases hu with rfl | rfl | rfl | rfl | rfl <;> rfl) (by unfold maxLen; omega) (by omega) (by simp; omega) ?_; intro v' w3 hown' hgrow _)
    have K:=YK hb HG2.o HR2.o hgrow (fun g hg=>(hown2.lt g hg).1);clear hgrow hown2;go_wp2
    go_roundw
    case rel =>
     refine ⟨k+1,acc ++ [x],st',by omega,by go_num,by simp [HA.o],hle,?_,K.1,K.2,?_⟩
     ·simpa using hown'
     ·rw [HE.o,HN.o]; simp
    case measure=>simp [intOf]; omega
   ·rw [hsh] at hrd;have hfin:Lk.aN (Lk.dz (sl s)) count (p,sh)=(acc,(st.1,true)):=by
     have hsu:count - k=(count - (k+1))+1:=by omega
     rw [HE.o,hsu];have e:st=(st.1,true):=Prod.ext rfl hsh;rw [e];simp [Lk.aN]
    have HF:=hid hfin;clear hfin hsh HE;have cS:=hid (MB b s st.1 true wr hrd);have HR:=hid hrd;clear hrd;go_wp2_with fail;refine cS.o.mono ?_;rintro e w1 ⟨rfl,rfl⟩;go_wp2;go_ret;rw [HF.o];exact ⟨_,rfl,hown,HR.o,hgr⟩
  ·have hfin:Lk.aN (Lk.dz (sl s)) count (p,sh)=(acc,st):=by
    have hsu:count - k=0:=by omega
    rw [HE.o,hsu];simp [Lk.aN]
   have HF:=hid hfin;clear hfin HE;have HR:=hid hrd;clear hrd;have hd:decide ((k:Int) < (count:Int))=false:=by simp; omega
   go_wp2;go_ret;rw [HF.o];exact ⟨_,rfl,hown,HR.o,hgr⟩
theorem qO (l:List UInt8):(bs l).toList=l:=by
 rw [ByteArray.toList_eq]; simp [bs]
theorem uX {w:World} {base base':Nat} {e:TypeId} {size:Nat} {v:Value} {n:Nat} {xs:List Value} (h:w.ownsRow base e size v n xs) (hb:base'<=base):w.ownsRow base' e size v n xs:=by
 refine ⟨h.1,?_⟩;rcases h.2 with h2 | ⟨g,cap,cur,hv,hg,r⟩
 ·exact .inl h2
 ·exact .inr ⟨g,cap,cur,hv,by omega,r⟩
theorem yj {w:World} {base:Nat} {e:TypeId} {size:Nat} {v:Value} {n:Nat} {xs:List Value} (h:w.ownsRow base e size v n xs):∃ ao cap,v = .slice ao n cap:=by
 rcases h.2 with ⟨h1,h2⟩ | ⟨g,cap,cur,hv,_⟩
 ·exact ⟨none,0,by rw [h1,h2]⟩
 ·exact ⟨_,cap,hv⟩
structure Row where
 e:TypeId
 size:Nat
 v:Value
 n:Nat
 xs:List Value
def Row.In (r:Row) (W:World) (base:Nat):Prop:=W.ownsRow base r.e r.size r.v r.n r.xs
structure o9 (w:World) (b g:Nat) (s:ByteArray) (p:Nat) (sh:Bool) (cs:Array Value) (rows:List Row) (W:World):Prop where
 rd:bC W b s p sh
 obj:ye W g cs 75
 rows:∀ r∈rows,r.In W (g+1)
 gr:w.grownBy W (some b)
section
variable {w W W':World} {b g:Nat} {s:ByteArray} {cs:Array Value} {rows:List Row} {p p':Nat} {sh sh':Bool}
theorem o9.begin (h:bC W b s p sh) (hg:w.grownBy W (some b)) (cs:Array Value):o9 w b W.heap.size s p sh cs [] (W.alloc (.cells cs 75)) :=
 ⟨h.grown (aH W _ none) (by simp),ye.new W cs 75,(by simp),BU hg (aH W _ none) (by simp)⟩
theorem o9.call (h:o9 w b g s p sh cs rows W) (hb:b < g) (hr:bC W' b s p' sh') (hg:W.grownBy W' (some b)):o9 w b g s p' sh' cs rows W' :=
 ⟨hr,h.obj.grown hg (by simp; omega),fun r hr=>EU (h.rows r hr) (by omega) hg,ya h.gr hg⟩
theorem o9.row (h:o9 w b g s p sh cs rows W) (hb:b < g) (hr:bC W' b s p' sh') (hg:W.grownBy W' (some b)) (r:Row) (hrow:r.In W' W.heap.size):o9 w b g s p' sh' cs (r :: rows) W':=by
 have h1:=h.call hb hr hg;refine ⟨h1.rd,h1.obj,?_,h1.gr⟩;intro q hq;rcases List.mem_cons.1 hq with rfl | hq
 ·exact uX hrow h.obj.lt
 ·exact h1.rows q hq
theorem o9.store (h:o9 w b g s p sh cs rows W) (hb:b < g) (hw:w.heap.size<=g) (o:Nat) (v:Value):o9 w b g s p sh (cs.setIfInBounds o v) rows (W.setCell ⟨g,o,none⟩ v) :=
 ⟨h.rd.grown (yi W g o v) (by simp; omega),h.obj.set o v,fun r hr=>ownsRow_setCell_below (h.rows r hr) (Nat.lt_succ_self g) v,BU h.gr (yi W g o v) (by simp; omega)⟩
end
def yq (W:World) (g:Nat) (o:Lk.Obj):Prop :=
 ∃ vt vf vd va vs vr,ye W g #[vt,vf,vd,.int .i64 o.bss,va,vs,vr] 75 /\
  W.ownsRow 0 3 1 vt o.text.length (o.text.map (Value.int .i64))/\W.ownsRow 0 3 1 vf o.far.length (o.far.map (Value.int .i64)) /\
  W.ownsRow 0 3 1 vd o.data.length (o.data.map (Value.int .i64))/\W.ownsRow 0 3 1 va o.align.length (o.align.map (Value.int .i64)) /\
  W.ownsRow 0 77 4 vs o.syms.length (o.syms.flatMap iO)/\W.ownsRow 0 83 5 vr o.aj.length (o.aj.flatMap iH)
theorem Ml (b:Nat) (s:ByteArray) (p count size:Nat) (mc ms:Int) (hmc:mc=(count:Int)) (hms:ms=(size:Int)) (sh:Bool) (w:World) (h:bC w b s p sh)
  (hs:s.size<=1048576) (hp:p<=s.size) (hc:count<=65535) (hm:size<=4) :
  Calls Tryz.prog 118 #[.pointer (some ⟨b,0,none⟩),.int .i64 mc,.int .i64 ms] w fun e w'=>∃ v,e = .returned v /\
   w'.ownsRow w.heap.size 3 1 v (Lk.bn (sl s) size count (p,sh)).1.length ((Lk.bn (sl s) size count (p,sh)).1.map (Value.int .i64)) /\
   bC w' b s (Lk.bn (sl s) size count (p,sh)).2.1 (Lk.bn (sl s) size count (p,sh)).2.2/\w.grownBy w' (some b):=by
 subst hmc hms; exact yhg b s p count size sh w h hs hp hc hm
theorem yhi (b:Nat) (s:ByteArray) (p count:Nat) (mc:Int) (hmc:mc=(count:Int)) (sh:Bool) (w:World) (h:bC w b s p sh)
  (hs:s.size<=1048576) (hp:p<=s.size) (hc:count<=65535) :
  Calls Tryz.prog 119 #[.pointer (some ⟨b,0,none⟩),.int .i64 mc] w fun e w'=>∃ v,e = .returned v /\
   w'.ownsRow w.heap.size 77 4 v (Lk.aN (Lk.dD (sl s)) count (p,sh)).1.length ((Lk.aN (Lk.dD (sl s)) count (p,sh)).1.flatMap iO) /\
   bC w' b s (Lk.aN (Lk.dD (sl s)) count (p,sh)).2.1 (Lk.aN (Lk.dD (sl s)) count (p,sh)).2.2/\w.grownBy w' (some b):=by
 subst hmc; exact yhh b s p count sh w h hs hp hc
theorem yhI (b:Nat) (s:ByteArray) (p count:Nat) (mc:Int) (hmc:mc=(count:Int)) (sh:Bool) (w:World) (h:bC w b s p sh)
  (hs:s.size<=1048576) (hp:p<=s.size) (hc:count<=65535) :
  Calls Tryz.prog 120 #[.pointer (some ⟨b,0,none⟩),.int .i64 mc] w fun e w'=>∃ v,e = .returned v /\
   w'.ownsRow w.heap.size 83 5 v (Lk.aN (Lk.dz (sl s)) count (p,sh)).1.length ((Lk.aN (Lk.dz (sl s)) count (p,sh)).1.flatMap iH) /\
   bC w' b s (Lk.aN (Lk.dz (sl s)) count (p,sh)).2.1 (Lk.aN (Lk.dz (sl s)) count (p,sh)).2.2/\w.grownBy w' (some b):=by
 subst hmc; exact yhH b s p count sh w h hs hp hc
theorem yhG (b:Nat) (s:ByteArray) (p:Nat) (sh:Bool) (w:World) (h:bC w b s p sh)
  (hs:s.size<=1048576) (hp:p<=s.size) (hmark:(Lk.aF (sl s) 2 (p,sh)).1=[76,75]) :
  Calls Tryz.prog 96 #[.pointer (some ⟨b,0,none⟩)] w fun e w'=>∃ g,e = .returned (.pointer (some ⟨g,0,none⟩))/\w.heap.size<=g /\
   yq w' g (Lk.gQ (sl s) (Lk.aF (sl s) 2 (p,sh)).2).1 /\
   bC w' b s (Lk.gQ (sl s) (Lk.aF (sl s) 2 (p,sh)).2).2.1 (Lk.gQ (sl s) (Lk.aF (sl s) 2 (p,sh)).2).2.2/\w.grownBy w' (some b):=by
 have hb:=h.lt;have hlen:=rz s;have l0:=Gg (sl s) 2 (p,sh) (by rw [hlen]; exact hp);have c0:=fun W h=>Kq b s p 2 2 rfl sh W h hs hp (by omega)
 generalize Lk.aF (sl s) 2 (p,sh)=x0 at *;obtain ⟨mk,p0,s0⟩:=x0;simp only at hmark;subst hmark;rw [hlen] at l0;unfold Lk.gQ;simp only at *;have b1:=vJ (sl s) 2 (p0,s0);have l1:=nk (sl s) 2 (p0,s0) (by rw [hlen]; exact l0);have c1:=fun W h=>sV b s p0 2 2 rfl s0 W h hs l0 (by omega)
 generalize Lk.rdNum (sl s) 2 (p0,s0)=x1 at *;obtain ⟨text,p1,s1⟩:=x1;rw [hlen] at l1;simp only [Int.reducePow] at *;have b2:=vJ (sl s) 2 (p1,s1);have l2:=nk (sl s) 2 (p1,s1) (by rw [hlen]; exact l1);have c2:=fun W h=>sV b s p1 2 2 rfl s1 W h hs l1 (by omega)
 generalize Lk.rdNum (sl s) 2 (p1,s1)=x2 at *;obtain ⟨far,p2,s2⟩:=x2;rw [hlen] at l2;simp only [Int.reducePow] at *;have b3:=vJ (sl s) 2 (p2,s2);have l3:=nk (sl s) 2 (p2,s2) (by rw [hlen]; exact l2);have c3:=fun W h=>sV b s p2 2 2 rfl s2 W h hs l2 (by omega)
 generalize Lk.rdNum (sl s) 2 (p2,s2)=x3 at *;obtain ⟨data,p3,s3⟩:=x3;rw [hlen] at l3;simp only [Int.reducePow] at *;have b4:=vJ (sl s) 2 (p3,s3);have l4:=nk (sl s) 2 (p3,s3) (by rw [hlen]; exact l3);have c4:=fun W h=>sV b s p3 2 2 rfl s3 W h hs l3 (by omega)
 generalize Lk.rdNum (sl s) 2 (p3,s3)=x4 at *;obtain ⟨bss,p4,s4⟩:=x4;rw [hlen] at l4;simp only [Int.reducePow] at *;have l5:=Mx (sl s) 1 4 (p4,s4) (by rw [hlen]; exact l4);have c5:=fun W h=>Ml b s p4 4 1 4 1 rfl rfl s4 W h hs l4 (by omega) (by omega)
 generalize Lk.bn (sl s) 1 4 (p4,s4)=x5 at *;obtain ⟨al,p5,s5⟩:=x5;rw [hlen] at l5;simp only at *;have b6:=vJ (sl s) 1 (p5,s5);have l6:=nk (sl s) 1 (p5,s5) (by rw [hlen]; exact l5);have c6:=fun W h=>sV b s p5 1 1 rfl s5 W h hs l5 (by omega)
 generalize Lk.rdNum (sl s) 1 (p5,s5)=x6 at *;obtain ⟨syms,p6,s6⟩:=x6;rw [hlen] at l6;simp only [Int.reducePow] at *;have b7:=vJ (sl s) 1 (p6,s6);have l7:=nk (sl s) 1 (p6,s6) (by rw [hlen]; exact l6);have c7:=fun W h=>sV b s p6 1 1 rfl s6 W h hs l6 (by omega)
 generalize Lk.rdNum (sl s) 1 (p6,s6)=x7 at *;obtain ⟨aj,p7,s7⟩:=x7;rw [hlen] at l7;simp only [Int.reducePow] at *;have l8:=RG (sl s) _ (YJ (sl s)) syms.toNat (p7,s7) (by rw [hlen]; exact l7)
 have c8:=fun W h=>yhi b s p7 syms.toNat syms (by omega) s7 W h hs l7 (by omega)
 generalize Lk.aN (Lk.dD (sl s)) syms.toNat (p7,s7)=x8 at *;obtain ⟨ys,p8,s8⟩:=x8;rw [hlen] at l8;simp only at *;have l9:=RG (sl s) _ (YI (sl s)) aj.toNat (p8,s8) (by rw [hlen]; exact l8)
 have c9:=fun W h=>yhI b s p8 aj.toNat aj (by omega) s8 W h hs l8 (by omega)
 generalize Lk.aN (Lk.dz (sl s)) aj.toNat (p8,s8)=x9 at *;obtain ⟨rs,p9,s9⟩:=x9;rw [hlen] at l9;simp only at *;have l10:=Mx (sl s) 4 text.toNat (p9,s9) (by rw [hlen]; exact l9)
 have c10:=fun W h=>Ml b s p9 text.toNat 4 text 4 (by omega) rfl s9 W h hs l9 (by omega) (by omega)
 generalize Lk.bn (sl s) 4 text.toNat (p9,s9)=x10 at *;obtain ⟨tx,BA,s10⟩:=x10;rw [hlen] at l10;simp only at *;have Er:=Mx (sl s) 4 far.toNat (BA,s10) (by rw [hlen]; exact l10)
 have c11:=fun W h=>Ml b s BA far.toNat 4 far 4 (by omega) rfl s10 W h hs l10 (by omega) (by omega)
 generalize Lk.bn (sl s) 4 far.toNat (BA,s10)=x11 at *;obtain ⟨fx,BG,s11⟩:=x11;rw [hlen] at Er;simp only at *;have JY:=Mx (sl s) 4 data.toNat (BG,s11) (by rw [hlen]; exact Er)
 have c12:=fun W h=>Ml b s BG data.toNat 4 data 4 (by omega) rfl s11 W h hs Er (by omega) (by omega)
 generalize Lk.bn (sl s) 4 data.toNat (BG,s11)=x12 at *;obtain ⟨dx,xP,s12⟩:=x12;rw [hlen] at JY;simp only at *;replace c0:=hid c0;replace c1:=hid c1;replace c2:=hid c2;replace c3:=hid c3;replace c4:=hid c4;replace c5:=hid c5;replace c6:=hid c6;replace c7:=hid c7;replace c8:=hid c8;replace c9:=hid c9;replace c10:=hid c10;replace c11:=hid c11;replace c12:=hid c12;have H:=hid h;clear h hlen;have ht:((bs [76,75]).toList == [76,75])=true:=by rw [qO]; rfl
 go_enter Tryz.func96,Tryz.ntmps96;go_wp2_with fail;refine (c0.o w H.o).mono ?_;rintro e W0 ⟨rfl,r0,q0⟩;replace r0:=hid r0;replace q0:=hid q0;go_wp2_with fail;refine (c1.o W0 r0.o).mono ?_;rintro e W1 ⟨rfl,r1,g1⟩;have q1:=hid (ya q0.o g1);replace r1:=hid r1;clear g1 r0 q0;go_wp2_with fail;refine (c2.o W1 r1.o).mono ?_;rintro e W2 ⟨rfl,r2,g2⟩;have q2:=hid (ya q1.o g2);replace r2:=hid r2;clear g2 r1 q1;go_wp2_with fail;refine (c3.o W2 r2.o).mono ?_;rintro e W3 ⟨rfl,r3,g3⟩;have q3:=hid (ya q2.o g3);replace r3:=hid r3;clear g3 r2 q2;go_wp2_with fail;have hbg:b < W3.heap.size:=r3.o.lt;have hwg:w.heap.size<=W3.heap.size:=q3.o.size
 generalize hG:W3.heap.size=g at *;refine Calls.bG (o9 w b g s p3 s3 #[.slice none 0 0,.slice none 0 0,.slice none 0 0,.int .i64 0,.slice none 0 0,.slice none 0 0,.slice none 0 0] []) (by rw [<- hG]; exact o9.begin r3.o q3.o _) ?_;clear r3 q3 hG;intro V3 h3;refine (c4.o V3 h3.rd).mono ?_;rintro e U4 ⟨rfl,r,q⟩;have S4:=hid (h3.call hbg r q);clear r q h3;have k:=S4.o.obj.cell 3;have f:=S4.o.obj.free 3;go_wp2_with fail;refine Calls.bG (o9 w b g s p4 s4 #[.slice none 0 0,.slice none 0 0,.slice none 0 0,.int .i64 bss,.slice none 0 0,.slice none 0 0,.slice none 0 0] []) (S4.o.store hbg hwg 3 _) ?_;clear k f S4 U4
 intro V4 h4;refine (c5.o V4 h4.rd).mono ?_;rintro e U5 ⟨va,rfl,o,r,q⟩;obtain ⟨rP,rT,rfl⟩:=yj o;have S5:=hid (h4.row hbg r q ⟨3,1,(.slice rP al.length rT),al.length,al.map (Value.int .i64)⟩ o);clear r q o h4;have k:=S5.o.obj.cell 4;have f:=S5.o.obj.free 4;go_wp2_with fail;refine Calls.bG (o9 w b g s p5 s5 #[.slice none 0 0,.slice none 0 0,.slice none 0 0,.int .i64 bss,(.slice rP al.length rT),.slice none 0 0,.slice none 0 0] [⟨3,1,(.slice rP al.length rT),al.length,al.map (Value.int .i64)⟩]) (S5.o.store hbg hwg 4 _) ?_;clear k f S5 U5;intro V5 h5;refine (c6.o V5 h5.rd).mono ?_;rintro e U6 ⟨rfl,r,q⟩
 have S6:=hid (h5.call hbg r q);clear r q h5;go_wp2_with fail;refine Calls.bG (o9 w b g s p6 s6 #[.slice none 0 0,.slice none 0 0,.slice none 0 0,.int .i64 bss,(.slice rP al.length rT),.slice none 0 0,.slice none 0 0] [⟨3,1,(.slice rP al.length rT),al.length,al.map (Value.int .i64)⟩]) S6.o ?_;clear S6 U6;intro V6 h6;refine (c7.o V6 h6.rd).mono ?_;rintro e U7 ⟨rfl,r,q⟩;have S7:=hid (h6.call hbg r q);clear r q h6;go_wp2_with fail;refine Calls.bG (o9 w b g s p7 s7 #[.slice none 0 0,.slice none 0 0,.slice none 0 0,.int .i64 bss,(.slice rP al.length rT),.slice none 0 0,.slice none 0 0] [⟨3,1,(.slice rP al.length rT),al.length,al.map (Value.int .i64)⟩]) S7.o ?_
 clear S7 U7;intro V7 h7;refine (c8.o V7 h7.rd).mono ?_;rintro e U8 ⟨vs,rfl,o,r,q⟩;obtain ⟨pE,pG,rfl⟩:=yj o;have S8:=hid (h7.row hbg r q ⟨77,4,(.slice pE ys.length pG),ys.length,ys.flatMap iO⟩ o);clear r q o h7;have k:=S8.o.obj.cell 5;have f:=S8.o.obj.free 5;go_wp2_with fail;refine Calls.bG (o9 w b g s p8 s8 #[.slice none 0 0,.slice none 0 0,.slice none 0 0,.int .i64 bss,(.slice rP al.length rT),(.slice pE ys.length pG),.slice none 0 0] [⟨77,4,(.slice pE ys.length pG),ys.length,ys.flatMap iO⟩,⟨3,1,(.slice rP al.length rT),al.length,al.map (Value.int .i64)⟩]) (S8.o.store hbg hwg 5 _) ?_;clear k f S8 U8
 intro V8 h8;refine (c9.o V8 h8.rd).mono ?_;rintro e U9 ⟨vr,rfl,o,r,q⟩;obtain ⟨qX,qZ,rfl⟩:=yj o;have S9:=hid (h8.row hbg r q ⟨83,5,(.slice qX rs.length qZ),rs.length,rs.flatMap iH⟩ o);clear r q o h8;have k:=S9.o.obj.cell 6;have f:=S9.o.obj.free 6;go_wp2_with fail;refine Calls.bG (o9 w b g s p9 s9 #[.slice none 0 0,.slice none 0 0,.slice none 0 0,.int .i64 bss,(.slice rP al.length rT),(.slice pE ys.length pG),(.slice qX rs.length qZ)] [⟨83,5,(.slice qX rs.length qZ),rs.length,rs.flatMap iH⟩,⟨77,4,(.slice pE ys.length pG),ys.length,ys.flatMap iO⟩,⟨3,1,(.slice rP al.length rT),al.length,al.map (Value.int .i64)⟩]) (S9.o.store hbg hwg 6 _) ?_
 clear k f S9 U9;intro V9 h9;refine (c10.o V9 h9.rd).mono ?_;rintro e U10 ⟨vt,rfl,o,r,q⟩;obtain ⟨tJ,tK,rfl⟩:=yj o;have Al:=hid (h9.row hbg r q ⟨3,1,(.slice tJ tx.length tK),tx.length,tx.map (Value.int .i64)⟩ o);clear r q o h9;have k:=Al.o.obj.cell 0;have f:=Al.o.obj.free 0;go_wp2_with fail;refine Calls.bG (o9 w b g s BA s10 #[(.slice tJ tx.length tK),.slice none 0 0,.slice none 0 0,.int .i64 bss,(.slice rP al.length rT),(.slice pE ys.length pG),(.slice qX rs.length qZ)] [⟨3,1,(.slice tJ tx.length tK),tx.length,tx.map (Value.int .i64)⟩,⟨83,5,(.slice qX rs.length qZ),rs.length,rs.flatMap iH⟩,⟨77,4,(.slice pE ys.length pG),ys.length,ys.flatMap iO⟩,⟨3,1,(.slice rP al.length rT),al.length,al.map (Value.int .i64)⟩]) (Al.o.store hbg hwg 0 _) ?_
 clear k f Al U10;intro wh h10;refine (c11.o wh h10.rd).mono ?_;rintro e U11 ⟨vf,rfl,o,r,q⟩;obtain ⟨xK,xL,rfl⟩:=yj o;have Am:=hid (h10.row hbg r q ⟨3,1,(.slice xK fx.length xL),fx.length,fx.map (Value.int .i64)⟩ o);clear r q o h10;have k:=Am.o.obj.cell 1;have f:=Am.o.obj.free 1;go_wp2_with fail;refine Calls.bG (o9 w b g s BG s11 #[(.slice tJ tx.length tK),(.slice xK fx.length xL),.slice none 0 0,.int .i64 bss,(.slice rP al.length rT),(.slice pE ys.length pG),(.slice qX rs.length qZ)] [⟨3,1,(.slice xK fx.length xL),fx.length,fx.map (Value.int .i64)⟩,⟨3,1,(.slice tJ tx.length tK),tx.length,tx.map (Value.int .i64)⟩,⟨83,5,(.slice qX rs.length qZ),rs.length,rs.flatMap iH⟩,⟨77,4,(.slice pE ys.length pG),ys.length,ys.flatMap iO⟩,⟨3,1,(.slice rP al.length rT),al.length,al.map (Value.int .i64)⟩]) (Am.o.store hbg hwg 1 _) ?_
 clear k f Am U11;intro tX h11;refine (c12.o tX h11.rd).mono ?_;rintro e U12 ⟨vd,rfl,o,r,q⟩;obtain ⟨Bg,Bo,rfl⟩:=yj o;have DU:=hid (h11.row hbg r q ⟨3,1,(.slice Bg dx.length Bo),dx.length,dx.map (Value.int .i64)⟩ o);clear r q o h11;have k:=DU.o.obj.cell 2;have f:=DU.o.obj.free 2;go_wp2;go_ret;have F:=DU.o.store hbg hwg 2 (.slice Bg dx.length Bo);refine ⟨g,rfl,hwg,⟨(.slice tJ tx.length tK),(.slice xK fx.length xL),(.slice Bg dx.length Bo),(.slice rP al.length rT),(.slice pE ys.length pG),(.slice qX rs.length qZ),F.obj,?_,?_,?_,?_,?_,?_⟩,F.rd,F.gr⟩
 ·exact uX (F.rows ⟨3,1,(.slice tJ tx.length tK),tx.length,tx.map (Value.int .i64)⟩ (by simp)) (Nat.zero_le _)
 ·exact uX (F.rows ⟨3,1,(.slice xK fx.length xL),fx.length,fx.map (Value.int .i64)⟩ (by simp)) (Nat.zero_le _)
 ·exact uX (F.rows ⟨3,1,(.slice Bg dx.length Bo),dx.length,dx.map (Value.int .i64)⟩ (by simp)) (Nat.zero_le _)
 ·exact uX (F.rows ⟨3,1,(.slice rP al.length rT),al.length,al.map (Value.int .i64)⟩ (by simp)) (Nat.zero_le _)
 ·exact uX (F.rows ⟨77,4,(.slice pE ys.length pG),ys.length,ys.flatMap iO⟩ (by simp)) (Nat.zero_le _)
 ·exact uX (F.rows ⟨83,5,(.slice qX rs.length qZ),rs.length,rs.flatMap iH⟩ (by simp)) (Nat.zero_le _)
def ym (w:World) (ao:Option Addr) (xs:List Int):Prop :=
 0 < xs.length->∃ g off,ao=some ⟨g,off,none⟩/\∀ i (h:i < xs.length),w.cell? ⟨g,off+i,none⟩=some (.int .i64 xs[i])
theorem ym.aB {w:World} {base:Nat} {ao:Option Addr} {n cap:Nat} {xs:List Int} (h:w.ownsRow base 3 1 (.slice ao n cap) n (xs.map (Value.int .i64))):ym w ao xs:=by
 intro h0;have hn:xs.length=n:=by have:=h.1; simpa using this
 rcases h.2 with ⟨h1,h2⟩ | ⟨g,cap',cur,hv,_⟩
 ·simp at h1; omega
 ·simp only [Value.slice.injEq] at hv;obtain ⟨rfl,_,rfl⟩:=hv;refine ⟨g,0,rfl,fun i hi=>?_⟩
  have:=h.cellAt i (by omega)
  rw [Nat.zero_add,this];simp [hi]
theorem ym.kept {w w':World} {ao:Option Addr} {xs:List Int} (h:ym w ao xs) (hc:∀ a v,w.cell? a=some v->w'.cell? a=some v):ym w' ao xs:=by
 intro h0;obtain ⟨g,off,h1,h2⟩:=h h0;exact ⟨g,off,h1,fun i hi=>hc _ _ (h2 i hi)⟩
def j6 (xs:List Int):Prop:=∀ i (h:i < xs.length),0<=xs[i]/\xs[i]<=4294967295
def oI (xs:List Int):Prop:=xs.length=4/\∀ i (h:i < xs.length),2<=xs[i]/\xs[i]<=4
def yg (e:Ending) (P:Prop):Prop:=∃ b,e = .returned (.bool b)/\(b=true↔P)
theorem yg.yes {P:Prop} (h:P):yg (.returned (.bool true)) P:=⟨true,rfl,by simp [h]⟩
theorem yg.no {P:Prop} (h:¬ P):yg (.returned (.bool false)) P:=⟨false,rfl,by simp [h]⟩
theorem yg.of {P:Prop} {b:Bool} (h:b=true↔P):yg (.returned (.bool b)) P:=⟨b,rfl,h⟩
theorem yg.split {e:Ending} {P:Prop} (h:yg e P):(e = .returned (.bool false)/\Hd (¬ P))\/(e = .returned (.bool true)/\Hd P):=by
 obtain ⟨b,rfl,h2⟩:=h
 cases b
 ·exact .inl ⟨rfl,fun hp=>by have:=h2.2 hp; simp at this⟩
 ·exact .inr ⟨rfl,h2.1 rfl⟩
theorem yg.iff {e:Ending} {P Q:Prop} (h:yg e P) (k:P↔Q):yg e Q:=by
 obtain ⟨b,h1,h2⟩:=h;exact ⟨b,h1,h2.trans k⟩
theorem QX (ao:Option Addr) (cap:Nat) (xs:List Int) (w:World) (h:ym w ao xs) (hn:xs.length<=65535) :
  Calls Tryz.prog 137 #[.slice ao xs.length cap] w fun e w'=>yg e (j6 xs)/\w'=w:=by
 have H:=hid h;clear h;go_enter Tryz.func137,Tryz.ntmps137;go_wp2
 go_loop [7] (fun i=>∃ k:Nat,k<=xs.length/\i = .int .i64 k/\∀ j (hj:j < xs.length),j < k->0<=xs[j]/\xs[j]<=4294967295) (fun i=>xs.length - (intOf i).toNat)
 case atStart=>exact ⟨0,Nat.zero_le _,rfl,fun j _ hj=>absurd hj (Nat.not_lt_zero j)⟩
 case round =>
  obtain ⟨k,hk,rfl,hall⟩:=hrel;have HA:=hid hall;clear hall;by_cases hlt:k < xs.length
  ·obtain ⟨g,off,rfl,hc⟩:=H.o (by omega);have hck:=hc k hlt;clear hc;by_cases h1:0<=xs[k]
   ·by_cases h2:xs[k]<=4294967295
    ·go_wp2
     go_round
     case rel=>exact ⟨k+1,by omega,by go_num,fun j hj hjk=>(Nat.lt_succ_iff_lt_or_eq.1 hjk).elim (fun h=>HA.o j hj h) (fun h=>by subst h; exact ⟨h1,h2⟩)⟩
     case measure=>simp [intOf]; omega
    ·have h3:4294967295 < xs[k]:=by omega
     have N:=hid (show ¬ j6 xs from fun hw=>h2 (hw k hlt).2);clear h2;go_wp2;go_ret;exact ⟨yg.no N.o,rfl⟩
   ·have h3:xs[k] < 0:=by omega
    have N:=hid (show ¬ j6 xs from fun hw=>h1 (hw k hlt).1);clear h1;go_wp2;go_ret;exact ⟨yg.no N.o,rfl⟩
  ·go_wp2;go_ret;exact ⟨yg.yes fun i hi=>HA.o i hi (by omega),rfl⟩
theorem ygI (ao:Option Addr) (cap:Nat) (xs:List Int) (w:World) (h:ym w ao xs) (hn:xs.length<=65535) :
  Calls Tryz.prog 122 #[.slice ao xs.length cap] w fun e w'=>yg e (oI xs)/\w'=w:=by
 have H:=hid h;clear h;by_cases h4:xs.length=4
 ·have H4:=hid h4;have hb4:((xs.length:Int) == 4)=true:=by rw [beq_iff_eq]; omega
  clear h4;go_enter Tryz.func122,Tryz.ntmps122;go_wp2
  go_loop [10] (fun i=>∃ k:Nat,k<=xs.length/\i = .int .i64 k/\∀ j (hj:j < xs.length),j < k->2<=xs[j]/\xs[j]<=4) (fun i=>xs.length - (intOf i).toNat)
  case atStart=>exact ⟨0,Nat.zero_le _,rfl,fun j _ hj=>absurd hj (Nat.not_lt_zero j)⟩
  case round =>
   obtain ⟨k,hk,rfl,hall⟩:=hrel;have HA:=hid hall;clear hall;by_cases hlt:k < xs.length
   ·obtain ⟨g,off,rfl,hc⟩:=H.o (by omega);have hck:=hc k hlt;clear hc;by_cases h1:2<=xs[k]
    ·by_cases h2:xs[k]<=4
     ·go_wp2
      go_round
      case rel=>exact ⟨u2,.int .i64 xs[k],.int .i64 (k+1),⟨k+1,by omega,by go_num,fun j hj hjk=>(Nat.lt_succ_iff_lt_or_eq.1 hjk).elim (fun h=>HA.o j hj h) (fun h=>by subst h; exact ⟨h1,h2⟩)⟩,rfl,rfl,rfl⟩
      case measure=>simp [intOf]; omega
     ·have h3:4 < xs[k]:=by omega
      have N:=hid (show ¬ oI xs from fun hw=>h2 (hw.2 k hlt).2);clear h2;go_wp2;go_ret;exact ⟨yg.no N.o,rfl⟩
    ·have h3:xs[k] < 2:=by omega
     have N:=hid (show ¬ oI xs from fun hw=>h1 (hw.2 k hlt).1);clear h1;go_wp2;go_ret;exact ⟨yg.no N.o,rfl⟩
   ·go_wp2;go_ret;exact ⟨yg.yes ⟨H4.o,fun i hi=>HA.o i hi (by omega)⟩,rfl⟩
 ·have N:=hid (show ¬ oI xs from fun hw=>h4 hw.1);have hb4:((xs.length:Int) == 4)=false:=by rw [beq_eq_false_iff_ne]; omega
  clear h4;go_enter Tryz.func122,Tryz.ntmps122;go_wp2;go_ret;exact ⟨yg.no N.o,rfl⟩
theorem yq.kept {W W':World} {g:Nat} {o:Lk.Obj} (h:yq W g o) (hg:W.grownBy W' none):yq W' g o:=by
 obtain ⟨vt,vf,vd,va,vs,vr,hb,h1,h2,h3,h4,h5,h6⟩:=h;have k:∀ {e:TypeId} {size:Nat} {v:Value} {n:Nat} {xs:List Value},W.ownsRow 0 e size v n xs->W'.ownsRow 0 e size v n xs:=by
  intro e size v n xs h;refine h.kept hg ?_
  cases v.ownBlock <;> simp
 exact ⟨vt,vf,vd,va,vs,vr,hb.grown hg (by simp),k h1,k h2,k h3,k h4,k h5,k h6⟩
theorem yq.open {W:World} {g:Nat} {o:Lk.Obj} (h:yq W g o):∃ at_ ct af cf ad cd aa ca gF cs ar cr,
  ye W g #[.slice at_ o.text.length ct,.slice af o.far.length cf,.slice ad o.data.length cd,.int .i64 o.bss,.slice aa o.align.length ca,.slice gF o.syms.length cs,.slice ar o.aj.length cr] 75 /\
  W.ownsRow 0 3 1 (.slice at_ o.text.length ct) o.text.length (o.text.map (Value.int .i64))/\W.ownsRow 0 3 1 (.slice af o.far.length cf) o.far.length (o.far.map (Value.int .i64)) /\
  W.ownsRow 0 3 1 (.slice ad o.data.length cd) o.data.length (o.data.map (Value.int .i64))/\W.ownsRow 0 3 1 (.slice aa o.align.length ca) o.align.length (o.align.map (Value.int .i64)) /\
  W.ownsRow 0 77 4 (.slice gF o.syms.length cs) o.syms.length (o.syms.flatMap iO)/\W.ownsRow 0 83 5 (.slice ar o.aj.length cr) o.aj.length (o.aj.flatMap iH):=by
 obtain ⟨vt,vf,vd,va,vs,vr,hb,h1,h2,h3,h4,h5,h6⟩:=h;obtain ⟨at_,ct,rfl⟩:=yj h1;obtain ⟨af,cf,rfl⟩:=yj h2;obtain ⟨ad,cd,rfl⟩:=yj h3;obtain ⟨aa,ca,rfl⟩:=yj h4;obtain ⟨gF,cs,rfl⟩:=yj h5;obtain ⟨ar,cr,rfl⟩:=yj h6;exact ⟨at_,ct,af,cf,ad,cd,aa,ca,gF,cs,ar,cr,hb,h1,h2,h3,h4,h5,h6⟩
def Fb (o:Lk.Obj):Prop:=(o.text.length<=1200/\o.far.length<=1200/\o.data.length<=64)/\(0<=o.bss/\o.bss<=64)/\o.syms.length<=16/\o.aj.length<=32
def kV (o:Lk.Obj):Prop:=o.text.length<=65535/\o.far.length<=65535/\o.data.length<=65535/\o.align.length<=65535/\o.syms.length<=65535/\o.aj.length<=65535
theorem yhR (g:Nat) (o:Lk.Obj) (w:World) (h:yq w g o) (hn:kV o) :
  Calls Tryz.prog 121 #[.pointer (some ⟨g,0,none⟩)] w fun e w'=>yg e (Fb o)/\w'=w:=by
 obtain ⟨at_,ct,af,cf,ad,cd,aa,ca,gF,cs,ar,cr,hb,-⟩:=h.open;have k0:=hb.cell 0;have k1:=hb.cell 1;have k2:=hb.cell 2;have k3:=hb.cell 3;have k5:=hb.cell 5;have k6:=hb.cell 6;obtain ⟨n1,n2,n3,n4,n5,n6⟩:=hn;clear h hb;unfold Fb;generalize o.text.length=lt at *;generalize o.far.length=lf at *;generalize o.data.length=ld at *;generalize o.syms.length=ls at *;generalize o.aj.length=lr at *;generalize o.bss=z at *;by_cases c1:lt<=1200
 rotate_left
 ·have D:decide ((1200:Int) < (lt:Int))=true:=by simp; omega
  go_enter Tryz.func121,Tryz.ntmps121;go_wp2;go_ret;exact ⟨yg.no (by omega),rfl⟩
 have d1:decide ((1200:Int) < (lt:Int))=false:=by simp; omega
 by_cases c2:lf<=1200
 rotate_left
 ·have D:decide ((1200:Int) < (lf:Int))=true:=by simp; omega
  go_enter Tryz.func121,Tryz.ntmps121;go_wp2;go_ret;exact ⟨yg.no (by omega),rfl⟩
 have d2:decide ((1200:Int) < (lf:Int))=false:=by simp; omega
 by_cases c3:ld<=64
 rotate_left
 ·have D:decide ((64:Int) < (ld:Int))=true:=by simp; omega
  go_enter Tryz.func121,Tryz.ntmps121;go_wp2;go_ret;exact ⟨yg.no (by omega),rfl⟩
 have d3:decide ((64:Int) < (ld:Int))=false:=by simp; omega
 by_cases c4:0<=z
 rotate_left
 ·have D:decide (z < 0)=true:=by simp; omega
  go_enter Tryz.func121,Tryz.ntmps121;go_wp2;go_ret;exact ⟨yg.no (by omega),rfl⟩
 have d4:decide (z < 0)=false:=by simp; omega
 by_cases c5:z<=64
 rotate_left
 ·have D:decide ((64:Int) < z)=true:=by simp; omega
  go_enter Tryz.func121,Tryz.ntmps121;go_wp2;go_ret;exact ⟨yg.no (by omega),rfl⟩
 have d5:decide ((64:Int) < z)=false:=by simp; omega
 by_cases c6:ls<=16
 rotate_left
 ·have D:decide ((ls:Int)<=16)=false:=by simp; omega
  go_enter Tryz.func121,Tryz.ntmps121;go_wp2;go_ret;exact ⟨yg.no (by omega),rfl⟩
 have d6:decide ((ls:Int)<=16)=true:=by simp; omega
 by_cases c7:lr<=32
 rotate_left
 ·have D:decide ((lr:Int)<=32)=false:=by simp; omega
  go_enter Tryz.func121,Tryz.ntmps121;go_wp2;go_ret;exact ⟨yg.no (by omega),rfl⟩
 have d7:decide ((lr:Int)<=32)=true:=by simp; omega
 go_enter Tryz.func121,Tryz.ntmps121;go_wp2;go_ret;exact ⟨yg.yes (by omega),rfl⟩
def pR (o:Lk.Obj):Prop:=j6 o.text/\j6 o.far/\j6 o.data
theorem yhT (g:Nat) (o:Lk.Obj) (w:World) (h:yq w g o) (hn:kV o) :
  Calls Tryz.prog 123 #[.pointer (some ⟨g,0,none⟩)] w fun e w'=>yg e (pR o)/\w'=w:=by
 obtain ⟨at_,ct,af,cf,ad,cd,aa,ca,gF,cs,ar,cr,hb,h1,h2,h3,-⟩:=h.open;have k0:=hb.cell 0;have k1:=hb.cell 1;have k2:=hb.cell 2;obtain ⟨n1,n2,n3,n4,n5,n6⟩:=hn;have c1:=hid (QX at_ ct o.text w (ym.aB h1) n1);have c2:=hid (QX af cf o.far w (ym.aB h2) n2);have c3:=hid (QX ad cd o.data w (ym.aB h3) n3);clear h hb h1 h2 h3;unfold pR;generalize o.text.length=l1 at *;generalize o.far.length=l2 at *;generalize o.data.length=l3 at *;generalize j6 o.text=P1 at *;generalize j6 o.far=P2 at *;generalize j6 o.data=P3 at *;go_enter Tryz.func123,Tryz.ntmps123;go_wp2_with fail;refine c1.o.mono ?_;rintro e w1 ⟨t1,rfl⟩
 rcases t1.split with ⟨rfl,p1⟩ | ⟨rfl,p1⟩ <;> clear t1 c1
 ·go_wp2;go_ret;exact ⟨yg.no (fun hp=>p1.o hp.1),rfl⟩
 go_wp2_with fail;refine c2.o.mono ?_;rintro e w2 ⟨t2,rfl⟩;rcases t2.split with ⟨rfl,p2⟩ | ⟨rfl,p2⟩ <;> clear t2 c2
 ·go_wp2;go_ret;exact ⟨yg.no (fun hp=>p2.o hp.2.1),rfl⟩
 go_wp2_with fail;refine c3.o.mono ?_;rintro e w3 ⟨t3,rfl⟩;rcases t3.split with ⟨rfl,p3⟩ | ⟨rfl,p3⟩ <;> clear t3 c3
 ·go_wp2;go_ret;exact ⟨yg.no (fun hp=>p3.o hp.2.2),rfl⟩
 go_wp2;go_ret;exact ⟨yg.yes ⟨p1.o,p2.o,p3.o⟩,rfl⟩
theorem Xl (c:Int) (w:World) (h1:48<=c) (h2:c<=57) :
  Calls Tryz.prog 157 #[.int .u8 c] w fun e w'=>e = .returned (.bool true)/\w'=w:=by
 go_enter Tryz.func157,Tryz.ntmps157;go_wp2;go_ret;exact ⟨by simp,rfl⟩
theorem Kh (c:Int) (w:World) (h:c < 48\/57 < c) :
  Calls Tryz.prog 157 #[.int .u8 c] w fun e w'=>e = .returned (.bool false)/\w'=w:=by
 by_cases h1:48<=c
 ·have h2:57 < c:=by omega
  clear h;go_enter Tryz.func157,Tryz.ntmps157;go_wp2;go_ret;exact ⟨by simp; omega,rfl⟩
 ·have h2:decide (48<=c)=false:=by simp; omega
  clear h;go_enter Tryz.func157,Tryz.ntmps157;go_wp2;go_ret;exact ⟨rfl,rfl⟩
theorem yZ {w:World} {base:Nat} {e:TypeId} {size:Nat} {ao:Option Addr} {n cap:Nat} {xs:List Value} (h:w.ownsRow base e size (.slice ao n cap) n xs):n<=cap/\cap<=maxLen:=by
 rcases h.2 with ⟨h1,h2⟩ | ⟨g,cap',cur,hv,_,_,h3,h4,_⟩
 ·simp at h1; omega
 ·simp only [Value.slice.injEq] at hv;obtain ⟨_,_,rfl⟩:=hv;exact ⟨h3,h4⟩
def yh (o:Lk.Obj) (ah:Int):List Int:=if ah=1 then o.text else if ah=2 then o.far else if ah=3 then o.data else []
theorem Mi (g:Nat) (o:Lk.Obj) (ah:Int) (w:World) (h:yq w g o) :
  Calls Tryz.prog 82 #[.pointer (some ⟨g,0,none⟩),.int .i64 ah] w fun e w'=>∃ ao cap,e = .returned (.slice ao (yh o ah).length cap)/\(ym w ao (yh o ah)/\(yh o ah).length<=cap/\cap<=maxLen)/\w'=w:=by
 obtain ⟨at_,ct,af,cf,ad,cd,aa,ca,gF,cs,ar,cr,hb,h1,h2,h3,-⟩:=h.open;have k0:=hb.cell 0;have k1:=hb.cell 1;have k2:=hb.cell 2;have q1:=hid (ym.aB h1);have q2:=hid (ym.aB h2);have q3:=hid (ym.aB h3);have z1:=hid (yZ h1);have z2:=hid (yZ h2);have z3:=hid (yZ h3);clear h hb h1 h2 h3;unfold yh;by_cases e1:ah=1
 ·subst e1;go_enter Tryz.func82,Tryz.ntmps82;go_wp2;go_ret;exact ⟨at_,ct,rfl,⟨q1.o,z1.o⟩,rfl⟩
 by_cases e2:ah=2
 ·subst e2;go_enter Tryz.func82,Tryz.ntmps82;go_wp2;go_ret;exact ⟨af,cf,rfl,⟨q2.o,z2.o⟩,rfl⟩
 by_cases e3:ah=3
 ·subst e3;go_enter Tryz.func82,Tryz.ntmps82;go_wp2;go_ret;exact ⟨ad,cd,rfl,⟨q3.o,z3.o⟩,rfl⟩
 ·rw [if_neg e1,if_neg e2,if_neg e3];have d1:(ah == 1)=false:=beq_eq_false_iff_ne.2 e1;have d2:(ah == 2)=false:=beq_eq_false_iff_ne.2 e2;have d3:(ah == 3)=false:=beq_eq_false_iff_ne.2 e3;clear e1 e2 e3;go_enter Tryz.func82,Tryz.ntmps82;go_wp2;go_ret;exact ⟨none,0,rfl,⟨fun h=>by simp at h,by simp,by simp⟩,rfl⟩
end Go.Proofs.YtelehpmjhjljgaaGreatDoor
