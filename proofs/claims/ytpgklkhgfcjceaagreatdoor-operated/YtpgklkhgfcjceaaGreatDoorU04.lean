
import Derived.Test.YtpgklkhgfcjceaaGreatDoorU03
import Derived.Deep.RegionHeld3
set_option maxHeartbeats 16000000
set_option maxRecDepth 100000
namespace Go.Proofs.YtpgklkhgfcjceaaGreatDoor
open Go.RowKit
theorem yJ (l:List UInt8):(bs l).toList=l:=by
 rw [ByteArray.toList_eq]; simp [bs]
theorem yZ {w:World} {base base':Nat} {e:TypeId} {size:Nat} {v:Value} {n:Nat} {xs:List Value} (h:w.ownsRow base e size v n xs) (hb:base'<=base):w.ownsRow base' e size v n xs:=by
 refine ⟨h.1,?_⟩;rcases h.2 with h2 | ⟨g,cap,cur,hv,hg,r⟩
 ·exact .inl h2
 ·exact .inr ⟨g,cap,cur,hv,by omega,r⟩
theorem yh {w:World} {base:Nat} {e:TypeId} {size:Nat} {v:Value} {n:Nat} {xs:List Value} (h:w.ownsRow base e size v n xs):∃ ao cap,v = .slice ao n cap:=by
 rcases h.2 with ⟨h1,h2⟩ | ⟨g,cap,cur,hv,_⟩
 ·exact ⟨none,0,by rw [h1,h2]⟩
 ·exact ⟨_,cap,hv⟩
structure Row where
 e:TypeId
 size:Nat
 v:Value
 n:Nat
 xs:List Value
def Row.In (r:Row) (W:World) (base:Nat):Prop:=W.ownsRow base r.e r.size r.v r.n r.xs
structure rT (w:World) (b g:Nat) (s:ByteArray) (p:Nat) (sh:Bool) (cs:Array Value) (rows:List Row) (W:World):Prop where
 rd:bF W b s p sh
 obj:yc W g cs 71
 rows:∀ r∈rows,r.In W (g+1)
 gr:w.grownBy W (some b)
section
variable {w W W':World} {b g:Nat} {s:ByteArray} {cs:Array Value} {rows:List Row} {p p':Nat} {sh sh':Bool}
theorem rT.begin (h:bF W b s p sh) (hg:w.grownBy W (some b)) (cs:Array Value):rT w b W.heap.size s p sh cs [] (W.alloc (.cells cs 71)) :=
 ⟨h.grown (aH W _ none) (by simp),yc.new W cs 71,(by simp),II hg (aH W _ none) (by simp)⟩
theorem rT.call (h:rT w b g s p sh cs rows W) (hb:b < g) (hr:bF W' b s p' sh') (hg:W.grownBy W' (some b)):rT w b g s p' sh' cs rows W' :=
 ⟨hr,h.obj.grown hg (by simp; omega),fun r hr=>Lc (h.rows r hr) (by omega) hg,ya h.gr hg⟩
theorem rT.row (h:rT w b g s p sh cs rows W) (hb:b < g) (hr:bF W' b s p' sh') (hg:W.grownBy W' (some b)) (r:Row) (hrow:r.In W' W.heap.size):rT w b g s p' sh' cs (r :: rows) W':=by
 have h1:=h.call hb hr hg;refine ⟨h1.rd,h1.obj,?_,h1.gr⟩;intro q hq;rcases List.mem_cons.1 hq with rfl | hq
 ·exact yZ hrow h.obj.lt
 ·exact h1.rows q hq
theorem rT.store (h:rT w b g s p sh cs rows W) (hb:b < g) (hw:w.heap.size<=g) (o:Nat) (v:Value):rT w b g s p sh (cs.setIfInBounds o v) rows (W.setCell ⟨g,o,none⟩ v) :=
 ⟨h.rd.grown (yf W g o v) (by simp; omega),h.obj.set o v,fun r hr=>ownsRow_setCell_below (h.rows r hr) (Nat.lt_succ_self g) v,II h.gr (yf W g o v) (by simp; omega)⟩
end
def yv (W:World) (g:Nat) (o:Lk.Obj):Prop :=
 ∃ vt vf vd va vs vr,yc W g #[vt,vf,vd,.int .i64 o.bss,va,vs,vr] 71 /\
  W.ownsRow 0 3 1 vt o.text.length (o.text.map (Value.int .i64))/\W.ownsRow 0 3 1 vf o.far.length (o.far.map (Value.int .i64)) /\
  W.ownsRow 0 3 1 vd o.data.length (o.data.map (Value.int .i64))/\W.ownsRow 0 3 1 va o.align.length (o.align.map (Value.int .i64)) /\
  W.ownsRow 0 100 4 vs o.syms.length (o.syms.flatMap iB)/\W.ownsRow 0 102 5 vr o.aj.length (o.aj.flatMap iN)
theorem K7 (b:Nat) (s:ByteArray) (p count size:Nat) (mc ms:Int) (hmc:mc=(count:Int)) (hms:ms=(size:Int)) (sh:Bool) (w:World) (h:bF w b s p sh)
  (hs:s.size<=1048576) (hp:p<=s.size) (hc:count<=65535) (hm:size<=4) :
  Calls Tryz.prog 79 #[.pointer (some ⟨b,0,none⟩),.int .i64 mc,.int .i64 ms] w fun e w'=>∃ v,e = .returned v /\
   w'.ownsRow w.heap.size 3 1 v (Lk.aR (sl s) size count (p,sh)).1.length ((Lk.aR (sl s) size count (p,sh)).1.map (Value.int .i64)) /\
   bF w' b s (Lk.aR (sl s) size count (p,sh)).2.1 (Lk.aR (sl s) size count (p,sh)).2.2/\w.grownBy w' (some b):=by
 subst hmc hms; exact yhu b s p count size sh w h hs hp hc hm
theorem yhw (b:Nat) (s:ByteArray) (p count:Nat) (mc:Int) (hmc:mc=(count:Int)) (sh:Bool) (w:World) (h:bF w b s p sh)
  (hs:s.size<=1048576) (hp:p<=s.size) (hc:count<=65535) :
  Calls Tryz.prog 210 #[.pointer (some ⟨b,0,none⟩),.int .i64 mc] w fun e w'=>∃ v,e = .returned v /\
   w'.ownsRow w.heap.size 100 4 v (Lk.aM (Lk.dR (sl s)) count (p,sh)).1.length ((Lk.aM (Lk.dR (sl s)) count (p,sh)).1.flatMap iB) /\
   bF w' b s (Lk.aM (Lk.dR (sl s)) count (p,sh)).2.1 (Lk.aM (Lk.dR (sl s)) count (p,sh)).2.2/\w.grownBy w' (some b):=by
 subst hmc; exact yhv b s p count sh w h hs hp hc
theorem yih (b:Nat) (s:ByteArray) (p count:Nat) (mc:Int) (hmc:mc=(count:Int)) (sh:Bool) (w:World) (h:bF w b s p sh)
  (hs:s.size<=1048576) (hp:p<=s.size) (hc:count<=65535) :
  Calls Tryz.prog 211 #[.pointer (some ⟨b,0,none⟩),.int .i64 mc] w fun e w'=>∃ v,e = .returned v /\
   w'.ownsRow w.heap.size 102 5 v (Lk.aM (Lk.dN (sl s)) count (p,sh)).1.length ((Lk.aM (Lk.dN (sl s)) count (p,sh)).1.flatMap iN) /\
   bF w' b s (Lk.aM (Lk.dN (sl s)) count (p,sh)).2.1 (Lk.aM (Lk.dN (sl s)) count (p,sh)).2.2/\w.grownBy w' (some b):=by
 subst hmc; exact yig b s p count sh w h hs hp hc
theorem yif (b:Nat) (s:ByteArray) (p:Nat) (sh:Bool) (w:World) (h:bF w b s p sh)
  (hs:s.size<=1048576) (hp:p<=s.size) (hmark:(Lk.aF (sl s) 2 (p,sh)).1=[76,75]) :
  Calls Tryz.prog 163 #[.pointer (some ⟨b,0,none⟩)] w fun e w'=>∃ g,e = .returned (.pointer (some ⟨g,0,none⟩))/\w.heap.size<=g /\
   yv w' g (Lk.iM (sl s) (Lk.aF (sl s) 2 (p,sh)).2).1 /\
   bF w' b s (Lk.iM (sl s) (Lk.aF (sl s) 2 (p,sh)).2).2.1 (Lk.iM (sl s) (Lk.aF (sl s) 2 (p,sh)).2).2.2/\w.grownBy w' (some b):=by
 have hb:=h.lt;have hlen:=yu s;have l0:=Li (sl s) 2 (p,sh) (by rw [hlen]; exact hp);have c0:=fun W h=>Le b s p 2 2 rfl sh W h hs hp (by omega)
 generalize Lk.aF (sl s) 2 (p,sh)=x0 at *;obtain ⟨mk,p0,s0⟩:=x0;simp only at hmark;subst hmark;rw [hlen] at l0;unfold Lk.iM;simp only at *;have b1:=yS (sl s) 2 (p0,s0);have l1:=yE (sl s) 2 (p0,s0) (by rw [hlen]; exact l0);have c1:=fun W h=>yL b s p0 2 2 rfl s0 W h hs l0 (by omega)
 generalize Lk.rdNum (sl s) 2 (p0,s0)=x1 at *;obtain ⟨text,p1,s1⟩:=x1;rw [hlen] at l1;simp only [Int.reducePow] at *;have b2:=yS (sl s) 2 (p1,s1);have l2:=yE (sl s) 2 (p1,s1) (by rw [hlen]; exact l1);have c2:=fun W h=>yL b s p1 2 2 rfl s1 W h hs l1 (by omega)
 generalize Lk.rdNum (sl s) 2 (p1,s1)=x2 at *;obtain ⟨far,p2,s2⟩:=x2;rw [hlen] at l2;simp only [Int.reducePow] at *;have b3:=yS (sl s) 2 (p2,s2);have l3:=yE (sl s) 2 (p2,s2) (by rw [hlen]; exact l2);have c3:=fun W h=>yL b s p2 2 2 rfl s2 W h hs l2 (by omega)
 generalize Lk.rdNum (sl s) 2 (p2,s2)=x3 at *;obtain ⟨data,p3,s3⟩:=x3;rw [hlen] at l3;simp only [Int.reducePow] at *;have b4:=yS (sl s) 2 (p3,s3);have l4:=yE (sl s) 2 (p3,s3) (by rw [hlen]; exact l3);have c4:=fun W h=>yL b s p3 2 2 rfl s3 W h hs l3 (by omega)
 generalize Lk.rdNum (sl s) 2 (p3,s3)=x4 at *;obtain ⟨bss,p4,s4⟩:=x4;rw [hlen] at l4;simp only [Int.reducePow] at *;have l5:=Lh (sl s) 1 4 (p4,s4) (by rw [hlen]; exact l4);have c5:=fun W h=>K7 b s p4 4 1 4 1 rfl rfl s4 W h hs l4 (by omega) (by omega)
 generalize Lk.aR (sl s) 1 4 (p4,s4)=x5 at *;obtain ⟨al,p5,s5⟩:=x5;rw [hlen] at l5;simp only at *;have b6:=yS (sl s) 1 (p5,s5);have l6:=yE (sl s) 1 (p5,s5) (by rw [hlen]; exact l5);have c6:=fun W h=>yL b s p5 1 1 rfl s5 W h hs l5 (by omega)
 generalize Lk.rdNum (sl s) 1 (p5,s5)=x6 at *;obtain ⟨syms,p6,s6⟩:=x6;rw [hlen] at l6;simp only [Int.reducePow] at *;have b7:=yS (sl s) 1 (p6,s6);have l7:=yE (sl s) 1 (p6,s6) (by rw [hlen]; exact l6);have c7:=fun W h=>yL b s p6 1 1 rfl s6 W h hs l6 (by omega)
 generalize Lk.rdNum (sl s) 1 (p6,s6)=x7 at *;obtain ⟨aj,p7,s7⟩:=x7;rw [hlen] at l7;simp only [Int.reducePow] at *;have l8:=Vk (sl s) _ (ykt (sl s)) syms.toNat (p7,s7) (by rw [hlen]; exact l7)
 have c8:=fun W h=>yhw b s p7 syms.toNat syms (by omega) s7 W h hs l7 (by omega)
 generalize Lk.aM (Lk.dR (sl s)) syms.toNat (p7,s7)=x8 at *;obtain ⟨ys,p8,s8⟩:=x8;rw [hlen] at l8;simp only at *;have l9:=Vk (sl s) _ (yks (sl s)) aj.toNat (p8,s8) (by rw [hlen]; exact l8)
 have c9:=fun W h=>yih b s p8 aj.toNat aj (by omega) s8 W h hs l8 (by omega)
 generalize Lk.aM (Lk.dN (sl s)) aj.toNat (p8,s8)=x9 at *;obtain ⟨rs,p9,s9⟩:=x9;rw [hlen] at l9;simp only at *;have l10:=Lh (sl s) 4 text.toNat (p9,s9) (by rw [hlen]; exact l9)
 have c10:=fun W h=>K7 b s p9 text.toNat 4 text 4 (by omega) rfl s9 W h hs l9 (by omega) (by omega)
 generalize Lk.aR (sl s) 4 text.toNat (p9,s9)=x10 at *;obtain ⟨tx,wZ,s10⟩:=x10;rw [hlen] at l10;simp only at *;have AV:=Lh (sl s) 4 far.toNat (wZ,s10) (by rw [hlen]; exact l10)
 have c11:=fun W h=>K7 b s wZ far.toNat 4 far 4 (by omega) rfl s10 W h hs l10 (by omega) (by omega)
 generalize Lk.aR (sl s) 4 far.toNat (wZ,s10)=UA at *;obtain ⟨fx,Eb,s11⟩:=UA;rw [hlen] at AV;simp only at *;have GX:=Lh (sl s) 4 data.toNat (Eb,s11) (by rw [hlen]; exact AV)
 have c12:=fun W h=>K7 b s Eb data.toNat 4 data 4 (by omega) rfl s11 W h hs AV (by omega) (by omega)
 generalize Lk.aR (sl s) 4 data.toNat (Eb,s11)=x12 at *;obtain ⟨dx,Ce,s12⟩:=x12;rw [hlen] at GX;simp only at *;replace c0:=hid c0;replace c1:=hid c1;replace c2:=hid c2;replace c3:=hid c3;replace c4:=hid c4;replace c5:=hid c5;replace c6:=hid c6;replace c7:=hid c7;replace c8:=hid c8;replace c9:=hid c9;replace c10:=hid c10;replace c11:=hid c11;replace c12:=hid c12;have H:=hid h;clear h hlen;have ht:((bs [76,75]).toList == [76,75])=true:=by rw [yJ]; rfl
 go_enter Tryz.func163,Tryz.ntmps163;go_wp2_with fail;refine (c0.o w H.o).mono ?_;rintro e W0 ⟨rfl,r0,q0⟩;replace r0:=hid r0;replace q0:=hid q0;go_wp2_with fail;refine (c1.o W0 r0.o).mono ?_;rintro e W1 ⟨rfl,r1,g1⟩;have q1:=hid (ya q0.o g1);replace r1:=hid r1;clear g1 r0 q0;go_wp2_with fail;refine (c2.o W1 r1.o).mono ?_;rintro e W2 ⟨rfl,r2,g2⟩;have q2:=hid (ya q1.o g2);replace r2:=hid r2;clear g2 r1 q1;go_wp2_with fail;refine (c3.o W2 r2.o).mono ?_;rintro e W3 ⟨rfl,r3,g3⟩;have q3:=hid (ya q2.o g3);replace r3:=hid r3;clear g3 r2 q2;go_wp2_with fail;have hbg:b < W3.heap.size:=r3.o.lt;have hwg:w.heap.size<=W3.heap.size:=q3.o.size
 generalize hG:W3.heap.size=g at *;refine Calls.aK (rT w b g s p3 s3 #[.slice none 0 0,.slice none 0 0,.slice none 0 0,.int .i64 0,.slice none 0 0,.slice none 0 0,.slice none 0 0] []) (by rw [<- hG]; exact rT.begin r3.o q3.o _) ?_;clear r3 q3 hG;intro V3 h3;refine (c4.o V3 h3.rd).mono ?_;rintro e U4 ⟨rfl,r,q⟩;have S4:=hid (h3.call hbg r q);clear r q h3;have k:=S4.o.obj.cell 3;have f:=S4.o.obj.free 3;go_wp2_with fail;refine Calls.aK (rT w b g s p4 s4 #[.slice none 0 0,.slice none 0 0,.slice none 0 0,.int .i64 bss,.slice none 0 0,.slice none 0 0,.slice none 0 0] []) (S4.o.store hbg hwg 3 _) ?_;clear k f S4 U4
 intro V4 h4;refine (c5.o V4 h4.rd).mono ?_;rintro e U5 ⟨va,rfl,o,r,q⟩;obtain ⟨vR,vS,rfl⟩:=yh o;have S5:=hid (h4.row hbg r q ⟨3,1,(.slice vR al.length vS),al.length,al.map (Value.int .i64)⟩ o);clear r q o h4;have k:=S5.o.obj.cell 4;have f:=S5.o.obj.free 4;go_wp2_with fail;refine Calls.aK (rT w b g s p5 s5 #[.slice none 0 0,.slice none 0 0,.slice none 0 0,.int .i64 bss,(.slice vR al.length vS),.slice none 0 0,.slice none 0 0] [⟨3,1,(.slice vR al.length vS),al.length,al.map (Value.int .i64)⟩]) (S5.o.store hbg hwg 4 _) ?_;clear k f S5 U5;intro V5 h5;refine (c6.o V5 h5.rd).mono ?_;rintro e U6 ⟨rfl,r,q⟩
 have S6:=hid (h5.call hbg r q);clear r q h5;go_wp2_with fail;refine Calls.aK (rT w b g s p6 s6 #[.slice none 0 0,.slice none 0 0,.slice none 0 0,.int .i64 bss,(.slice vR al.length vS),.slice none 0 0,.slice none 0 0] [⟨3,1,(.slice vR al.length vS),al.length,al.map (Value.int .i64)⟩]) S6.o ?_;clear S6 U6;intro V6 h6;refine (c7.o V6 h6.rd).mono ?_;rintro e U7 ⟨rfl,r,q⟩;have S7:=hid (h6.call hbg r q);clear r q h6;go_wp2_with fail;refine Calls.aK (rT w b g s p7 s7 #[.slice none 0 0,.slice none 0 0,.slice none 0 0,.int .i64 bss,(.slice vR al.length vS),.slice none 0 0,.slice none 0 0] [⟨3,1,(.slice vR al.length vS),al.length,al.map (Value.int .i64)⟩]) S7.o ?_
 clear S7 U7;intro V7 h7;refine (c8.o V7 h7.rd).mono ?_;rintro e U8 ⟨vs,rfl,o,r,q⟩;obtain ⟨CS,CX,rfl⟩:=yh o;have S8:=hid (h7.row hbg r q ⟨100,4,(.slice CS ys.length CX),ys.length,ys.flatMap iB⟩ o);clear r q o h7;have k:=S8.o.obj.cell 5;have f:=S8.o.obj.free 5;go_wp2_with fail;refine Calls.aK (rT w b g s p8 s8 #[.slice none 0 0,.slice none 0 0,.slice none 0 0,.int .i64 bss,(.slice vR al.length vS),(.slice CS ys.length CX),.slice none 0 0] [⟨100,4,(.slice CS ys.length CX),ys.length,ys.flatMap iB⟩,⟨3,1,(.slice vR al.length vS),al.length,al.map (Value.int .i64)⟩]) (S8.o.store hbg hwg 5 _) ?_;clear k f S8 U8
 intro V8 h8;refine (c9.o V8 h8.rd).mono ?_;rintro e U9 ⟨vr,rfl,o,r,q⟩;obtain ⟨Ga,Gj,rfl⟩:=yh o;have S9:=hid (h8.row hbg r q ⟨102,5,(.slice Ga rs.length Gj),rs.length,rs.flatMap iN⟩ o);clear r q o h8;have k:=S9.o.obj.cell 6;have f:=S9.o.obj.free 6;go_wp2_with fail;refine Calls.aK (rT w b g s p9 s9 #[.slice none 0 0,.slice none 0 0,.slice none 0 0,.int .i64 bss,(.slice vR al.length vS),(.slice CS ys.length CX),(.slice Ga rs.length Gj)] [⟨102,5,(.slice Ga rs.length Gj),rs.length,rs.flatMap iN⟩,⟨100,4,(.slice CS ys.length CX),ys.length,ys.flatMap iB⟩,⟨3,1,(.slice vR al.length vS),al.length,al.map (Value.int .i64)⟩]) (S9.o.store hbg hwg 6 _) ?_
 clear k f S9 U9;intro V9 h9;refine (c10.o V9 h9.rd).mono ?_;rintro e Tc ⟨vt,rfl,o,r,q⟩;obtain ⟨JU,J6,rfl⟩:=yh o;have rU:=hid (h9.row hbg r q ⟨3,1,(.slice JU tx.length J6),tx.length,tx.map (Value.int .i64)⟩ o);clear r q o h9;have k:=rU.o.obj.cell 0;have f:=rU.o.obj.free 0;go_wp2_with fail;refine Calls.aK (rT w b g s wZ s10 #[(.slice JU tx.length J6),.slice none 0 0,.slice none 0 0,.int .i64 bss,(.slice vR al.length vS),(.slice CS ys.length CX),(.slice Ga rs.length Gj)] [⟨3,1,(.slice JU tx.length J6),tx.length,tx.map (Value.int .i64)⟩,⟨102,5,(.slice Ga rs.length Gj),rs.length,rs.flatMap iN⟩,⟨100,4,(.slice CS ys.length CX),ys.length,ys.flatMap iB⟩,⟨3,1,(.slice vR al.length vS),al.length,al.map (Value.int .i64)⟩]) (rU.o.store hbg hwg 0 _) ?_
 clear k f rU Tc;intro Nw h10;refine (c11.o Nw h10.rd).mono ?_;rintro e Xp ⟨vf,rfl,o,r,q⟩;obtain ⟨NH,NT,rfl⟩:=yh o;have sV:=hid (h10.row hbg r q ⟨3,1,(.slice NH fx.length NT),fx.length,fx.map (Value.int .i64)⟩ o);clear r q o h10;have k:=sV.o.obj.cell 1;have f:=sV.o.obj.free 1;go_wp2_with fail;refine Calls.aK (rT w b g s Eb s11 #[(.slice JU tx.length J6),(.slice NH fx.length NT),.slice none 0 0,.int .i64 bss,(.slice vR al.length vS),(.slice CS ys.length CX),(.slice Ga rs.length Gj)] [⟨3,1,(.slice NH fx.length NT),fx.length,fx.map (Value.int .i64)⟩,⟨3,1,(.slice JU tx.length J6),tx.length,tx.map (Value.int .i64)⟩,⟨102,5,(.slice Ga rs.length Gj),rs.length,rs.flatMap iN⟩,⟨100,4,(.slice CS ys.length CX),ys.length,ys.flatMap iB⟩,⟨3,1,(.slice vR al.length vS),al.length,al.map (Value.int .i64)⟩]) (sV.o.store hbg hwg 1 _) ?_
 clear k f sV Xp;intro Ny h11;refine (c12.o Ny h11.rd).mono ?_;rintro e U12 ⟨vd,rfl,o,r,q⟩;obtain ⟨Ql,Qt,rfl⟩:=yh o;have Aj:=hid (h11.row hbg r q ⟨3,1,(.slice Ql dx.length Qt),dx.length,dx.map (Value.int .i64)⟩ o);clear r q o h11;have k:=Aj.o.obj.cell 2;have f:=Aj.o.obj.free 2;go_wp2;go_ret;have F:=Aj.o.store hbg hwg 2 (.slice Ql dx.length Qt);refine ⟨g,rfl,hwg,⟨(.slice JU tx.length J6),(.slice NH fx.length NT),(.slice Ql dx.length Qt),(.slice vR al.length vS),(.slice CS ys.length CX),(.slice Ga rs.length Gj),F.obj,?_,?_,?_,?_,?_,?_⟩,F.rd,F.gr⟩
 ·exact yZ (F.rows ⟨3,1,(.slice JU tx.length J6),tx.length,tx.map (Value.int .i64)⟩ (by simp)) (Nat.zero_le _)
 ·exact yZ (F.rows ⟨3,1,(.slice NH fx.length NT),fx.length,fx.map (Value.int .i64)⟩ (by simp)) (Nat.zero_le _)
 ·exact yZ (F.rows ⟨3,1,(.slice Ql dx.length Qt),dx.length,dx.map (Value.int .i64)⟩ (by simp)) (Nat.zero_le _)
 ·exact yZ (F.rows ⟨3,1,(.slice vR al.length vS),al.length,al.map (Value.int .i64)⟩ (by simp)) (Nat.zero_le _)
 ·exact yZ (F.rows ⟨100,4,(.slice CS ys.length CX),ys.length,ys.flatMap iB⟩ (by simp)) (Nat.zero_le _)
 ·exact yZ (F.rows ⟨102,5,(.slice Ga rs.length Gj),rs.length,rs.flatMap iN⟩ (by simp)) (Nat.zero_le _)
def yC (w:World) (ao:Option Addr) (xs:List Int):Prop :=
 0 < xs.length->∃ g off,ao=some ⟨g,off,none⟩/\∀ i (h:i < xs.length),w.cell? ⟨g,off+i,none⟩=some (.int .i64 xs[i])
theorem yC.aU {w:World} {base:Nat} {ao:Option Addr} {n cap:Nat} {xs:List Int} (h:w.ownsRow base 3 1 (.slice ao n cap) n (xs.map (Value.int .i64))):yC w ao xs:=by
 intro h0;have hn:xs.length=n:=by have:=h.1; simpa using this
 rcases h.2 with ⟨h1,h2⟩ | ⟨g,cap',cur,hv,_⟩
 ·simp at h1; omega
 ·simp only [Value.slice.injEq] at hv;obtain ⟨rfl,_,rfl⟩:=hv;refine ⟨g,0,rfl,fun i hi=>?_⟩
  have:=h.cellAt i (by omega)
  rw [Nat.zero_add,this];simp [hi]
theorem yC.kept {w w':World} {ao:Option Addr} {xs:List Int} (h:yC w ao xs) (hc:∀ a v,w.cell? a=some v->w'.cell? a=some v):yC w' ao xs:=by
 intro h0;obtain ⟨g,off,h1,h2⟩:=h h0;exact ⟨g,off,h1,fun i hi=>hc _ _ (h2 i hi)⟩
def sS (xs:List Int):Prop:=∀ i (h:i < xs.length),0<=xs[i]/\xs[i]<=4294967295
def Co (xs:List Int):Prop:=xs.length=4/\∀ i (h:i < xs.length),2<=xs[i]/\xs[i]<=4
def yg (e:Ending) (P:Prop):Prop:=∃ b,e = .returned (.bool b)/\(b=true↔P)
theorem yg.yes {P:Prop} (h:P):yg (.returned (.bool true)) P:=⟨true,rfl,by simp [h]⟩
theorem yg.no {P:Prop} (h:¬ P):yg (.returned (.bool false)) P:=⟨false,rfl,by simp [h]⟩
theorem yg.of {P:Prop} {b:Bool} (h:b=true↔P):yg (.returned (.bool b)) P:=⟨b,rfl,h⟩
theorem yg.split {e:Ending} {P:Prop} (h:yg e P):(e = .returned (.bool false)/\Hd (¬ P))\/(e = .returned (.bool true)/\Hd P):=by
 obtain ⟨b,rfl,h2⟩:=h
 cases b
 ·exact .inl ⟨rfl,fun hp=>by have:=h2.2 hp; simp at this⟩
 ·exact .inr ⟨rfl,h2.1 rfl⟩
theorem yg.iff {e:Ending} {P Q:Prop} (h:yg e P) (k:P↔Q):yg e Q:=by
 obtain ⟨b,h1,h2⟩:=h;exact ⟨b,h1,h2.trans k⟩
theorem UF (ao:Option Addr) (cap:Nat) (xs:List Int) (w:World) (h:yC w ao xs) (hn:xs.length<=65535) :
  Calls Tryz.prog 158 #[.slice ao xs.length cap] w fun e w'=>yg e (sS xs)/\w'=w:=by
 have H:=hid h;clear h;go_enter Tryz.func158,Tryz.ntmps158;go_wp2
 go_loop [7] (fun i=>∃ k:Nat,k<=xs.length/\i = .int .i64 k/\∀ j (hj:j < xs.length),j < k->0<=xs[j]/\xs[j]<=4294967295) (fun i=>xs.length - (intOf i).toNat)
 case atStart=>exact ⟨0,Nat.zero_le _,rfl,fun j _ hj=>absurd hj (Nat.not_lt_zero j)⟩
 case round =>
  obtain ⟨k,hk,rfl,hall⟩:=hrel;have HA:=hid hall;clear hall;by_cases hlt:k < xs.length
  ·obtain ⟨g,off,rfl,hc⟩:=H.o (by omega);have hck:=hc k hlt;clear hc;by_cases h1:0<=xs[k]
   ·by_cases h2:xs[k]<=4294967295
    ·go_wp2
     go_round
     case rel=>exact ⟨k+1,by omega,by go_num,fun j hj hjk=>(Nat.lt_succ_iff_lt_or_eq.1 hjk).elim (fun h=>HA.o j hj h) (fun h=>by subst h; exact ⟨h1,h2⟩)⟩
     case measure=>simp [intOf]; omega
    ·have h3:4294967295 < xs[k]:=by omega
     have N:=hid (show ¬ sS xs from fun hw=>h2 (hw k hlt).2);clear h2;go_wp2;go_ret;exact ⟨yg.no N.o,rfl⟩
   ·have h3:xs[k] < 0:=by omega
    have N:=hid (show ¬ sS xs from fun hw=>h1 (hw k hlt).1);clear h1;go_wp2;go_ret;exact ⟨yg.no N.o,rfl⟩
  ·go_wp2;go_ret;exact ⟨yg.yes fun i hi=>HA.o i hi (by omega),rfl⟩
theorem ygP (ao:Option Addr) (cap:Nat) (xs:List Int) (w:World) (h:yC w ao xs) (hn:xs.length<=65535) :
  Calls Tryz.prog 94 #[.slice ao xs.length cap] w fun e w'=>yg e (Co xs)/\w'=w:=by
 have H:=hid h;clear h;by_cases h4:xs.length=4
 ·have H4:=hid h4;have hb4:((xs.length:Int) == 4)=true:=by rw [beq_iff_eq]; omega
  clear h4;go_enter Tryz.func94,Tryz.ntmps94;go_wp2
  go_loop [10] (fun i=>∃ k:Nat,k<=xs.length/\i = .int .i64 k/\∀ j (hj:j < xs.length),j < k->2<=xs[j]/\xs[j]<=4) (fun i=>xs.length - (intOf i).toNat)
  case atStart=>exact ⟨0,Nat.zero_le _,rfl,fun j _ hj=>absurd hj (Nat.not_lt_zero j)⟩
  case round =>
   obtain ⟨k,hk,rfl,hall⟩:=hrel;have HA:=hid hall;clear hall;by_cases hlt:k < xs.length
   ·obtain ⟨g,off,rfl,hc⟩:=H.o (by omega);have hck:=hc k hlt;clear hc;by_cases h1:2<=xs[k]
    ·by_cases h2:xs[k]<=4
     ·go_wp2
      go_round
      case rel=>exact ⟨u2,.int .i64 xs[k],.int .i64 (k+1),⟨k+1,by omega,by go_num,fun j hj hjk=>(Nat.lt_succ_iff_lt_or_eq.1 hjk).elim (fun h=>HA.o j hj h) (fun h=>by subst h; exact ⟨h1,h2⟩)⟩,rfl,rfl,rfl⟩
      case measure=>simp [intOf]; omega
     ·have h3:4 < xs[k]:=by omega
      have N:=hid (show ¬ Co xs from fun hw=>h2 (hw.2 k hlt).2);clear h2;go_wp2;go_ret;exact ⟨yg.no N.o,rfl⟩
    ·have h3:xs[k] < 2:=by omega
     have N:=hid (show ¬ Co xs from fun hw=>h1 (hw.2 k hlt).1);clear h1;go_wp2;go_ret;exact ⟨yg.no N.o,rfl⟩
   ·go_wp2;go_ret;exact ⟨yg.yes ⟨H4.o,fun i hi=>HA.o i hi (by omega)⟩,rfl⟩
 ·have N:=hid (show ¬ Co xs from fun hw=>h4 hw.1);have hb4:((xs.length:Int) == 4)=false:=by rw [beq_eq_false_iff_ne]; omega
  clear h4;go_enter Tryz.func94,Tryz.ntmps94;go_wp2;go_ret;exact ⟨yg.no N.o,rfl⟩
theorem yv.kept {W W':World} {g:Nat} {o:Lk.Obj} (h:yv W g o) (hg:W.grownBy W' none):yv W' g o:=by
 obtain ⟨vt,vf,vd,va,vs,vr,hb,h1,h2,h3,h4,h5,h6⟩:=h;have k:∀ {e:TypeId} {size:Nat} {v:Value} {n:Nat} {xs:List Value},W.ownsRow 0 e size v n xs->W'.ownsRow 0 e size v n xs:=by
  intro e size v n xs h;refine h.kept hg ?_
  cases v.ownBlock <;> simp
 exact ⟨vt,vf,vd,va,vs,vr,hb.grown hg (by simp),k h1,k h2,k h3,k h4,k h5,k h6⟩
theorem yv.open {W:World} {g:Nat} {o:Lk.Obj} (h:yv W g o):∃ at_ ct af cf ad cd aa ca gJ cs ar cr,
  yc W g #[.slice at_ o.text.length ct,.slice af o.far.length cf,.slice ad o.data.length cd,.int .i64 o.bss,.slice aa o.align.length ca,.slice gJ o.syms.length cs,.slice ar o.aj.length cr] 71 /\
  W.ownsRow 0 3 1 (.slice at_ o.text.length ct) o.text.length (o.text.map (Value.int .i64))/\W.ownsRow 0 3 1 (.slice af o.far.length cf) o.far.length (o.far.map (Value.int .i64)) /\
  W.ownsRow 0 3 1 (.slice ad o.data.length cd) o.data.length (o.data.map (Value.int .i64))/\W.ownsRow 0 3 1 (.slice aa o.align.length ca) o.align.length (o.align.map (Value.int .i64)) /\
  W.ownsRow 0 100 4 (.slice gJ o.syms.length cs) o.syms.length (o.syms.flatMap iB)/\W.ownsRow 0 102 5 (.slice ar o.aj.length cr) o.aj.length (o.aj.flatMap iN):=by
 obtain ⟨vt,vf,vd,va,vs,vr,hb,h1,h2,h3,h4,h5,h6⟩:=h;obtain ⟨at_,ct,rfl⟩:=yh h1;obtain ⟨af,cf,rfl⟩:=yh h2;obtain ⟨ad,cd,rfl⟩:=yh h3;obtain ⟨aa,ca,rfl⟩:=yh h4;obtain ⟨gJ,cs,rfl⟩:=yh h5;obtain ⟨ar,cr,rfl⟩:=yh h6;exact ⟨at_,ct,af,cf,ad,cd,aa,ca,gJ,cs,ar,cr,hb,h1,h2,h3,h4,h5,h6⟩
def JF (o:Lk.Obj):Prop:=(o.text.length<=1200/\o.far.length<=1200/\o.data.length<=64)/\(0<=o.bss/\o.bss<=64)/\o.syms.length<=16/\o.aj.length<=32
def wU (o:Lk.Obj):Prop:=o.text.length<=65535/\o.far.length<=65535/\o.data.length<=65535/\o.align.length<=65535/\o.syms.length<=65535/\o.aj.length<=65535
theorem yir (g:Nat) (o:Lk.Obj) (w:World) (h:yv w g o) (hn:wU o) :
  Calls Tryz.prog 93 #[.pointer (some ⟨g,0,none⟩)] w fun e w'=>yg e (JF o)/\w'=w:=by
 obtain ⟨at_,ct,af,cf,ad,cd,aa,ca,gJ,cs,ar,cr,hb,-⟩:=h.open;have k0:=hb.cell 0;have k1:=hb.cell 1;have k2:=hb.cell 2;have k3:=hb.cell 3;have k5:=hb.cell 5;have k6:=hb.cell 6;obtain ⟨n1,n2,n3,n4,n5,n6⟩:=hn;clear h hb;unfold JF;generalize o.text.length=lt at *;generalize o.far.length=lf at *;generalize o.data.length=ld at *;generalize o.syms.length=ls at *;generalize o.aj.length=lr at *;generalize o.bss=z at *;by_cases c1:lt<=1200
 rotate_left
 ·have D:decide ((1200:Int) < (lt:Int))=true:=by simp; omega
  go_enter Tryz.func93,Tryz.ntmps93;go_wp2;go_ret;exact ⟨yg.no (by omega),rfl⟩
 have d1:decide ((1200:Int) < (lt:Int))=false:=by simp; omega
 by_cases c2:lf<=1200
 rotate_left
 ·have D:decide ((1200:Int) < (lf:Int))=true:=by simp; omega
  go_enter Tryz.func93,Tryz.ntmps93;go_wp2;go_ret;exact ⟨yg.no (by omega),rfl⟩
 have d2:decide ((1200:Int) < (lf:Int))=false:=by simp; omega
 by_cases c3:ld<=64
 rotate_left
 ·have D:decide ((64:Int) < (ld:Int))=true:=by simp; omega
  go_enter Tryz.func93,Tryz.ntmps93;go_wp2;go_ret;exact ⟨yg.no (by omega),rfl⟩
 have d3:decide ((64:Int) < (ld:Int))=false:=by simp; omega
 by_cases c4:0<=z
 rotate_left
 ·have D:decide (z < 0)=true:=by simp; omega
  go_enter Tryz.func93,Tryz.ntmps93;go_wp2;go_ret;exact ⟨yg.no (by omega),rfl⟩
 have d4:decide (z < 0)=false:=by simp; omega
 by_cases c5:z<=64
 rotate_left
 ·have D:decide ((64:Int) < z)=true:=by simp; omega
  go_enter Tryz.func93,Tryz.ntmps93;go_wp2;go_ret;exact ⟨yg.no (by omega),rfl⟩
 have d5:decide ((64:Int) < z)=false:=by simp; omega
 by_cases c6:ls<=16
 rotate_left
 ·have D:decide ((ls:Int)<=16)=false:=by simp; omega
  go_enter Tryz.func93,Tryz.ntmps93;go_wp2;go_ret;exact ⟨yg.no (by omega),rfl⟩
 have d6:decide ((ls:Int)<=16)=true:=by simp; omega
 by_cases c7:lr<=32
 rotate_left
 ·have D:decide ((lr:Int)<=32)=false:=by simp; omega
  go_enter Tryz.func93,Tryz.ntmps93;go_wp2;go_ret;exact ⟨yg.no (by omega),rfl⟩
 have d7:decide ((lr:Int)<=32)=true:=by simp; omega
 go_enter Tryz.func93,Tryz.ntmps93;go_wp2;go_ret;exact ⟨yg.yes (by omega),rfl⟩
def JD (o:Lk.Obj):Prop:=sS o.text/\sS o.far/\sS o.data
theorem yit (g:Nat) (o:Lk.Obj) (w:World) (h:yv w g o) (hn:wU o) :
  Calls Tryz.prog 95 #[.pointer (some ⟨g,0,none⟩)] w fun e w'=>yg e (JD o)/\w'=w:=by
 obtain ⟨at_,ct,af,cf,ad,cd,aa,ca,gJ,cs,ar,cr,hb,h1,h2,h3,-⟩:=h.open;have k0:=hb.cell 0;have k1:=hb.cell 1;have k2:=hb.cell 2;obtain ⟨n1,n2,n3,n4,n5,n6⟩:=hn;have c1:=hid (UF at_ ct o.text w (yC.aU h1) n1);have c2:=hid (UF af cf o.far w (yC.aU h2) n2);have c3:=hid (UF ad cd o.data w (yC.aU h3) n3);clear h hb h1 h2 h3;unfold JD;generalize o.text.length=l1 at *;generalize o.far.length=l2 at *;generalize o.data.length=l3 at *;generalize sS o.text=P1 at *;generalize sS o.far=P2 at *;generalize sS o.data=P3 at *;go_enter Tryz.func95,Tryz.ntmps95;go_wp2_with fail;refine c1.o.mono ?_;rintro e w1 ⟨t1,rfl⟩
 rcases t1.split with ⟨rfl,p1⟩ | ⟨rfl,p1⟩ <;> clear t1 c1
 ·go_wp2;go_ret;exact ⟨yg.no (fun hp=>p1.o hp.1),rfl⟩
 go_wp2_with fail;refine c2.o.mono ?_;rintro e w2 ⟨t2,rfl⟩;rcases t2.split with ⟨rfl,p2⟩ | ⟨rfl,p2⟩ <;> clear t2 c2
 ·go_wp2;go_ret;exact ⟨yg.no (fun hp=>p2.o hp.2.1),rfl⟩
 go_wp2_with fail;refine c3.o.mono ?_;rintro e w3 ⟨t3,rfl⟩;rcases t3.split with ⟨rfl,p3⟩ | ⟨rfl,p3⟩ <;> clear t3 c3
 ·go_wp2;go_ret;exact ⟨yg.no (fun hp=>p3.o hp.2.2),rfl⟩
 go_wp2;go_ret;exact ⟨yg.yes ⟨p1.o,p2.o,p3.o⟩,rfl⟩
theorem Vd (c:Int) (w:World) (h1:48<=c) (h2:c<=57) :
  Calls Tryz.prog 130 #[.int .u8 c] w fun e w'=>e = .returned (.bool true)/\w'=w:=by
 go_enter Tryz.func130,Tryz.ntmps130;go_wp2;go_ret;exact ⟨by simp,rfl⟩
theorem Mx (c:Int) (w:World) (h:c < 48\/57 < c) :
  Calls Tryz.prog 130 #[.int .u8 c] w fun e w'=>e = .returned (.bool false)/\w'=w:=by
 by_cases h1:48<=c
 ·have h2:57 < c:=by omega
  clear h;go_enter Tryz.func130,Tryz.ntmps130;go_wp2;go_ret;exact ⟨by simp; omega,rfl⟩
 ·have h2:decide (48<=c)=false:=by simp; omega
  clear h;go_enter Tryz.func130,Tryz.ntmps130;go_wp2;go_ret;exact ⟨rfl,rfl⟩
theorem rR {w:World} {base:Nat} {e:TypeId} {size:Nat} {ao:Option Addr} {n cap:Nat} {xs:List Value} (h:w.ownsRow base e size (.slice ao n cap) n xs):n<=cap/\cap<=maxLen:=by
 rcases h.2 with ⟨h1,h2⟩ | ⟨g,cap',cur,hv,_,_,h3,h4,_⟩
 ·simp at h1; omega
 ·simp only [Value.slice.injEq] at hv;obtain ⟨_,_,rfl⟩:=hv;exact ⟨h3,h4⟩
def yw (o:Lk.Obj) (ah:Int):List Int:=if ah=1 then o.text else if ah=2 then o.far else if ah=3 then o.data else []
theorem QK (g:Nat) (o:Lk.Obj) (ah:Int) (w:World) (h:yv w g o) :
  Calls Tryz.prog 109 #[.pointer (some ⟨g,0,none⟩),.int .i64 ah] w fun e w'=>∃ ao cap,e = .returned (.slice ao (yw o ah).length cap)/\(yC w ao (yw o ah)/\(yw o ah).length<=cap/\cap<=maxLen)/\w'=w:=by
 obtain ⟨at_,ct,af,cf,ad,cd,aa,ca,gJ,cs,ar,cr,hb,h1,h2,h3,-⟩:=h.open;have k0:=hb.cell 0;have k1:=hb.cell 1;have k2:=hb.cell 2;have q1:=hid (yC.aU h1);have q2:=hid (yC.aU h2);have q3:=hid (yC.aU h3);have z1:=hid (rR h1);have z2:=hid (rR h2);have z3:=hid (rR h3);clear h hb h1 h2 h3;unfold yw;by_cases e1:ah=1
 ·subst e1;go_enter Tryz.func109,Tryz.ntmps109;go_wp2;go_ret;exact ⟨at_,ct,rfl,⟨q1.o,z1.o⟩,rfl⟩
 by_cases e2:ah=2
 ·subst e2;go_enter Tryz.func109,Tryz.ntmps109;go_wp2;go_ret;exact ⟨af,cf,rfl,⟨q2.o,z2.o⟩,rfl⟩
 by_cases e3:ah=3
 ·subst e3;go_enter Tryz.func109,Tryz.ntmps109;go_wp2;go_ret;exact ⟨ad,cd,rfl,⟨q3.o,z3.o⟩,rfl⟩
 ·rw [if_neg e1,if_neg e2,if_neg e3];have d1:(ah == 1)=false:=beq_eq_false_iff_ne.2 e1;have d2:(ah == 2)=false:=beq_eq_false_iff_ne.2 e2;have d3:(ah == 3)=false:=beq_eq_false_iff_ne.2 e3;clear e1 e2 e3;go_enter Tryz.func109,Tryz.ntmps109;go_wp2;go_ret;exact ⟨none,0,rfl,⟨fun h=>by simp at h,by simp,by simp⟩,rfl⟩
def vC (o:Lk.Obj) (ah:Int):Int:=if ah=4 then o.bss else (yw o ah).length
theorem K9 {o:Lk.Obj} (h:wU o) (ah:Int):(yw o ah).length<=65535:=by
 obtain ⟨n1,n2,n3,n4,n5,n6⟩:=h;unfold yw;split
 ·exact n1
 split
 ·exact n2
 split
 ·exact n3
 ·simp
theorem QW (g:Nat) (o:Lk.Obj) (ah:Int) (w:World) (h:yv w g o) (hn:wU o) (hz:0<=o.bss/\o.bss<=64) :
  Calls Tryz.prog 87 #[.pointer (some ⟨g,0,none⟩),.int .i64 ah] w fun e w'=>e = .returned (.int .i64 (4 * vC o ah))/\w'=w:=by
 have c:=hid (QK g o ah w h);have hl:=K9 hn ah;obtain ⟨at_,ct,af,cf,ad,cd,aa,ca,gJ,cs,ar,cr,hb,-⟩:=h.open;have k3:=hb.cell 3;clear h hb hn;unfold vC;by_cases e1:ah=4
 ·subst e1;obtain ⟨z1,z2⟩:=hz;go_enter Tryz.func87,Tryz.ntmps87;go_wp2;go_ret;exact ⟨by simp,rfl⟩
 ·rw [if_neg e1];have d1:(ah == 4)=false:=beq_eq_false_iff_ne.2 e1;clear e1;generalize yw o ah=ws at *;go_enter Tryz.func87,Tryz.ntmps87;go_wp2_with fail;refine c.o.mono ?_;rintro e w1 ⟨ao,cap,rfl,-,rfl⟩;go_wp2;go_ret;exact ⟨rfl,rfl⟩
def rH (c:Int):Prop:=c=95\/(48<=c/\c<=57)\/(97<=c/\c<=122)
def FJ (s:ByteArray):Prop:=1<=s.size/\s.size<=6/\(∀ h:0 < s.size,¬ (48<=(s[0].toNat:Int)/\(s[0].toNat:Int)<=57))/\∀ i (h:i < s.size),rH (s[i].toNat:Int)
theorem Y1 (c:Int) (w:World) (h0:0<=c) :
  Calls Tryz.prog 185 #[.int .u8 c] w fun e w'=>yg e (rH c)/\w'=w:=by
 rcases (show c<=47\/(48<=c/\c<=57)\/(58<=c/\c<=94)\/(95<=c/\c<=95)\/(96<=c/\c<=96)\/(97<=c/\c<=122)\/123<=c from by omega) with r | ⟨r1,r2⟩ | ⟨r1,r2⟩ | ⟨r1,r2⟩ | ⟨r1,r2⟩ | ⟨r1,r2⟩ | r
 ·have N:=hid (show ¬ rH c from fun h=>by unfold rH at h; omega);have d1:decide (97<=c)=false:=by simp; omega
  have d2:(c == 95)=false:=by simp; omega
  have cD:=hid (Mx c w (by omega));go_enter Tryz.func185,Tryz.ntmps185;go_wp2_with fail;refine cD.o.mono ?_;rintro e w1 ⟨rfl,rfl⟩;go_wp2;go_ret;exact ⟨yg.no N.o,rfl⟩
 ·have N:=hid (show rH c from by unfold rH; omega);have d1:decide (97<=c)=false:=by simp; omega
  have d2:(c == 95)=false:=by simp; omega
  have cD:=hid (Vd c w r1 r2);go_enter Tryz.func185,Tryz.ntmps185;go_wp2_with fail;refine cD.o.mono ?_;rintro e w1 ⟨rfl,rfl⟩;go_wp2;go_ret;exact ⟨yg.yes N.o,rfl⟩
 ·have N:=hid (show ¬ rH c from fun h=>by unfold rH at h; omega);have d1:decide (97<=c)=false:=by simp; omega
  have d2:(c == 95)=false:=by simp; omega
  have cD:=hid (Mx c w (by omega));go_enter Tryz.func185,Tryz.ntmps185;go_wp2_with fail;refine cD.o.mono ?_;rintro e w1 ⟨rfl,rfl⟩;go_wp2;go_ret;exact ⟨yg.no N.o,rfl⟩
 ·obtain rfl:c=95:=by omega
  go_enter Tryz.func185,Tryz.ntmps185;go_wp2;go_ret;exact ⟨yg.yes (by unfold rH; omega),rfl⟩
 ·obtain rfl:c=96:=by omega
  have cD:=hid (Mx 96 w (by omega));go_enter Tryz.func185,Tryz.ntmps185;go_wp2_with fail;refine cD.o.mono ?_;rintro e w1 ⟨rfl,rfl⟩;go_wp2;go_ret;exact ⟨yg.no (fun h=>by unfold rH at h; omega),rfl⟩
 ·have N:=hid (show rH c from by unfold rH; omega);have d1:decide (97<=c)=true:=by simp; omega
  have d2:decide (c<=122)=true:=by simp; omega
  go_enter Tryz.func185,Tryz.ntmps185;go_wp2;go_ret;exact ⟨yg.yes N.o,rfl⟩
 ·have N:=hid (show ¬ rH c from fun h=>by unfold rH at h; omega);have d1:decide (97<=c)=true:=by simp; omega
  have d3:decide (c<=122)=false:=by simp; omega
  have d2:(c == 95)=false:=by simp; omega
  have cD:=hid (Mx c w (by omega));go_enter Tryz.func185,Tryz.ntmps185;go_wp2_with fail;refine cD.o.mono ?_;rintro e w1 ⟨rfl,rfl⟩;go_wp2;go_ret;exact ⟨yg.no N.o,rfl⟩
theorem ymO (s:ByteArray) (w:World) (hs:s.size<=1048576) :
  Calls Tryz.prog 202 #[.string s] w fun e w'=>yg e (FJ s)/\w'=w:=by
 by_cases c1:s.size < 1
 ·have N:=hid (show ¬ FJ s from fun h=>by have:=h.1; omega);have D:decide ((s.size:Int) < 1)=true:=by simp; omega
  go_enter Tryz.func202,Tryz.ntmps202;go_wp2;go_ret;exact ⟨yg.no N.o,rfl⟩
 by_cases c2:6 < s.size
 ·have N:=hid (show ¬ FJ s from fun h=>by have:=h.2.1; omega);have D1:decide ((s.size:Int) < 1)=false:=by simp; omega
  have D:decide ((6:Int) < (s.size:Int))=true:=by simp; omega
  go_enter Tryz.func202,Tryz.ntmps202;go_wp2;go_ret;exact ⟨yg.no N.o,rfl⟩
 have D1:decide ((s.size:Int) < 1)=false:=by simp; omega
 have D2:decide ((6:Int) < (s.size:Int))=false:=by simp; omega
 have h0:0 < s.size:=by omega
 by_cases c3:48<=(s[0].toNat:Int)/\(s[0].toNat:Int)<=57
 ·have N:=hid (show ¬ FJ s from fun h=>h.2.2.1 h0 c3);have cD:=hid (fun w=>Vd (s[0].toNat:Int) w c3.1 c3.2);clear c3;go_enter Tryz.func202,Tryz.ntmps202;go_wp2_with fail;refine (cD.o _).mono ?_;rintro e w1 ⟨rfl,rfl⟩;go_wp2;go_ret;exact ⟨yg.no N.o,rfl⟩
 have C3:=hid c3;have cD:=hid (fun w=>Mx (s[0].toNat:Int) w (by omega));clear c3;go_enter Tryz.func202,Tryz.ntmps202;go_wp2_with fail;refine (cD.o _).mono ?_;rintro e w1 ⟨rfl,rfl⟩;go_wp2_with fail
 go_loop [3] (fun i=>∃ k:Nat,k<=s.size/\i = .int .i64 k/\∀ j (hj:j < s.size),j < k->rH (s[j].toNat:Int)) (fun i=>s.size - (intOf i).toNat)
 case atStart=>exact ⟨0,Nat.zero_le _,rfl,fun j _ hj=>absurd hj (Nat.not_lt_zero j)⟩
 case round =>
  obtain ⟨k,hk,rfl,hall⟩:=hrel;have HA:=hid hall;clear hall;by_cases hlt:k < s.size
  ·have cM:=hid (fun w=>Y1 (s[k].toNat:Int) w (by omega));go_wp2_with fail;refine (cM.o _).mono ?_;rintro e w1 ⟨t1,rfl⟩;rcases t1.split with ⟨rfl,p1⟩ | ⟨rfl,p1⟩ <;> clear t1 cM
   ·have N:=hid (show ¬ FJ s from fun h=>p1.o (h.2.2.2 k hlt));go_wp2;go_ret;exact ⟨yg.no N.o,rfl⟩
   ·go_wp2
    go_round
    case rel=>exact ⟨k+1,by omega,by go_num,fun j hj hjk=>(Nat.lt_succ_iff_lt_or_eq.1 hjk).elim (fun h=>HA.o j hj h) (fun h=>by subst h; exact p1.o)⟩
    case measure=>simp [intOf]; omega
  ·go_wp2;go_ret;exact ⟨yg.yes ⟨by omega,by omega,fun _=>C3.o,fun i hi=>HA.o i hi (by omega)⟩,rfl⟩
def oO (w:World) (ao:Option Addr) (ys:List Lk.Sym):Prop :=
 0 < ys.length->∃ g,ao=some ⟨g,0,none⟩/\g < w.heap.size/\∀ i (h:i < ys.length),w.cell? ⟨g,i * 4,none⟩=some (.string (bs ys[i].name))/\w.cell? ⟨g,i * 4+1,none⟩=some (.int .i64 ys[i].bind) /\
  w.cell? ⟨g,i * 4+2,none⟩=some (.int .i64 ys[i].ah)/\w.cell? ⟨g,i * 4+3,none⟩=some (.int .i64 ys[i].off)
theorem MH {α:Type} (f:α->List Value) (size:Nat) (hf:∀ x,(f x).length=size) (l:List α) (i j:Nat) (hi:i < l.length) (hj:j < size):(l.flatMap f)[i * size+j]?=(f l[i])[j]?:=by
 induction l generalizing i with
 | nil=>simp at hi
 | cons x t ih =>
  rw [List.flatMap_cons]
  cases i with
  | zero =>
   rw [List.getElem?_append_left (by rw [hf]; omega)];simp
  | succ i =>
   rw [List.getElem?_append_right (by rw [hf,Nat.succ_mul]; omega),hf]
   have:(i+1) * size+j - size=i * size+j:=by rw [Nat.succ_mul]; omega
   rw [this,ih i (by simpa using hi)];simp
theorem oO.aU {w:World} {base:Nat} {ao:Option Addr} {n cap:Nat} {ys:List Lk.Sym} (h:w.ownsRow base 100 4 (.slice ao n cap) n (ys.flatMap iB)):oO w ao ys:=by
 intro h0;have hl:(ys.flatMap iB).length=ys.length * 4:=by
  clear h h0
  induction ys with
  | nil=>rfl
  | cons y t ih=>rw [List.flatMap_cons,eP,ih]; simp [iB]; omega
 have hn:ys.length=n:=by have:=h.1; omega
 have hlt:=h.lt;rcases h.2 with ⟨h1,h2⟩ | ⟨g,cap',cur,hv,_⟩
 ·simp at h1; omega
 ·simp only [Value.slice.injEq] at hv;obtain ⟨rfl,_,rfl⟩:=hv;refine ⟨g,rfl,(hlt g rfl).2,fun i hi=>?_⟩;have q:=fun j (hj:j < 4)=>(h.cellAt (i * 4+j) (by omega)).trans (MH iB 4 (fun _=>rfl) ys i j hi hj)
  exact ⟨q 0 (by omega),q 1 (by omega),q 2 (by omega),q 3 (by omega)⟩
theorem oO.grown {w w':World} {ao:Option Addr} {ys:List Lk.Sym} (h:oO w ao ys) (hg:w.grownBy w' none):oO w' ao ys:=by
 intro h0;obtain ⟨g,h1,h2,h3⟩:=h h0;refine ⟨g,h1,Nat.lt_of_lt_of_le h2 hg.size,fun i hi=>?_⟩;obtain ⟨a,b,c,d⟩:=h3 i hi;exact ⟨hg.cell a (by simp),hg.cell b (by simp),hg.cell c (by simp),hg.cell d (by simp)⟩
theorem yoy (ao:Option Addr) (cap:Nat) (ys:List Lk.Sym) (nm:List UInt8) (w:World) (h:oO w ao ys) (hn:ys.length<=65535) :
  Calls Tryz.prog 160 #[.slice ao ys.length cap,.string (bs nm)] w fun e w'=>yg e (∃ i,∃ h:i < ys.length,ys[i].name=nm)/\w.grownBy w' none:=by
 have H:=hid h;clear h;go_enter Tryz.func160,Tryz.ntmps160;go_wp2
 go_loopw [9] (fun i wr=>∃ k:Nat,k<=ys.length/\i = .int .i64 k/\(∀ j (hj:j < ys.length),j < k->ys[j].name≠nm)/\w.grownBy wr none) (fun i _=>ys.length - (intOf i).toNat)
 case atStart=>exact ⟨0,Nat.zero_le _,rfl,fun j _ hj=>absurd hj (Nat.not_lt_zero j),World.grownBy.refl _ _⟩
 case round =>
  obtain ⟨k,hk,rfl,hall,hgr⟩:=hrel;have HA:=hid hall;have HG:=hid hgr;clear hall hgr;by_cases hlt:k < ys.length
  ·obtain ⟨g,rfl,hgs,hc⟩:=H.o.grown HG.o (by omega);obtain ⟨k0,k1,k2,k3⟩:=hc k hlt;clear hc;by_cases e1:ys[k].name=nm
   ·have E:=hid e1;have b1:((bs ys[k].name).toList == (bs nm).toList)=true:=by rw [e1]; simp
    clear e1;go_wp2;go_ret;exact ⟨yg.yes ⟨k,hlt,E.o⟩,ya HG.o (aH _ _ _)⟩
   ·have E:=hid e1;have b1:((bs ys[k].name).toList == (bs nm).toList)=false:=by rw [yJ,yJ]; simpa using e1
    clear e1;go_wp2
    go_roundw
    case rel=>exact ⟨k+1,by omega,by go_num,fun j hj hjk=>(Nat.lt_succ_iff_lt_or_eq.1 hjk).elim (fun h=>HA.o j hj h) (fun h=>by subst h; exact E.o),ya HG.o (aH _ _ _)⟩
    case measure=>simp [intOf]; omega
  ·go_wp2;go_ret;exact ⟨yg.no (fun ⟨i,hi,h⟩=>HA.o i hi (by omega) h),HG.o⟩
def Fg (o:Lk.Obj) (y:Lk.Sym):Prop :=
 FJ (bs y.name)/\(0<=y.bind/\y.bind<=2)/\(0<=y.ah/\y.ah<=4)/\¬ (y.ah=0/\y.bind=0)/\0<=y.off/\y.off % 4=0/\y.off<=4 * vC o y.ah
theorem yv.drewN {W:World} {g:Nat} {o:Lk.Obj} (h:yv W g o) (n:Nat):yv (W.drewN n) g o:=h.kept (ye (World.grownBy.refl _ _) n)
theorem Yn (g:Nat) (o:Lk.Obj) (y:Lk.Sym) (w:World) (h:yv w g o) (hn:wU o) (hz:0<=o.bss/\o.bss<=64) (hl:y.name.length<=255) :
  Calls Tryz.prog 159 #[.pointer (some ⟨g,0,none⟩),.agg #[.string (bs y.name),.int .i64 y.bind,.int .i64 y.ah,.int .i64 y.off]] w fun e w'=>yg e (Fg o y)/\w.grownBy w' none:=by
 have hlen:0<=vC o y.ah/\vC o y.ah<=65535:=by
  have:=K9 hn y.ah
  unfold vC; split <;> omega
 have cL:=hid (fun W (h:yv W g o)=>QW g o y.ah W h hn hz);have cN:=hid (fun W=>ymO (bs y.name) W (by rw [w9]; omega));have H:=hid h;have HQ:=hid (show Fg o y↔FJ (bs y.name)/\(0<=y.bind/\y.bind<=2)/\(0<=y.ah/\y.ah<=4)/\¬ (y.ah=0/\y.bind=0)/\0<=y.off/\y.off % 4=0/\y.off<=4 * vC o y.ah from Iff.rfl);clear h hn hz hl;generalize Fg o y=Q at *;generalize vC o y.ah=L at *;generalize bs y.name=nm at *;generalize FJ nm=P at *;obtain ⟨_,bind,ah,off⟩:=y;simp only at *;have G:=hid (fun o:Obj=>aH w o none);have no:Hd (∀ W,(¬ Q)->w.grownBy W none->yg (.returned (.bool false)) Q/\w.grownBy W none):=fun W a b=>⟨yg.no a,b⟩
 go_enter Tryz.func159,Tryz.ntmps159;go_wp2_with fail;refine (cN.o _).mono ?_;rintro e w1 ⟨t,rfl⟩;rcases t.split with ⟨rfl,p1⟩ | ⟨rfl,p1⟩ <;> clear t
 ·go_wp2;go_ret;exact no.o _ (fun hq=>p1.o (HQ.o.1 hq).1) (G.o _)
 by_cases r1:bind < 0
 ·have d:decide (bind < 0)=true:=by simp; omega
  go_wp2;go_ret;exact no.o _ (fun hq=>by have:=(HQ.o.1 hq).2.1.1; omega) (G.o _)
 have d1:decide (bind < 0)=false:=by simp; omega
 by_cases r2:2 < bind
 ·have d:decide (2 < bind)=true:=by simp; omega
  go_wp2;go_ret;exact no.o _ (fun hq=>by have:=(HQ.o.1 hq).2.1.2; omega) (G.o _)
 have d2:decide (2 < bind)=false:=by simp; omega
 by_cases r3:ah < 0
 ·have d:decide (ah < 0)=true:=by simp; omega
  go_wp2;go_ret;exact no.o _ (fun hq=>by have:=(HQ.o.1 hq).2.2.1.1; omega) (G.o _)
 have d3:decide (ah < 0)=false:=by simp; omega
 by_cases r4:4 < ah
 ·have d:decide (4 < ah)=true:=by simp; omega
  go_wp2;go_ret;exact no.o _ (fun hq=>by have:=(HQ.o.1 hq).2.2.1.2; omega) (G.o _)
 have d4:decide (4 < ah)=false:=by simp; omega
 by_cases r5:ah=0/\bind=0
 ·have q1:ah<=0:=by omega
  have q2:bind<=0:=by omega
  have R5:=hid r5;clear r5;go_wp2;go_ret;exact no.o _ (fun hq=>(HQ.o.1 hq).2.2.2.1 R5.o) (G.o _)
 have R5:=hid r5;rcases (show 1<=ah\/(ah=0/\1<=bind) from by omega) with q1 | ⟨rfl,q2⟩ <;> clear r5
 all_goals
  by_cases r6:off < 0
  ·have d:decide (0<=off)=false:=by simp; omega
   go_wp2
   go_quiet (fail)
   go_wp2;go_ret;exact no.o _ (fun hq=>by have:=(HQ.o.1 hq).2.2.2.2.1; omega) (ye (G.o _) _)
  have d6:decide (0<=off)=true:=by simp; omega
  have r6':0<=off:=by omega
  by_cases r7:off % 4=0
  rotate_left
  ·have d:(off % 4 == 0)=false:=beq_eq_false_iff_ne.2 r7;have R7:=hid r7;clear r7;go_wp2
   go_quiet (fail)
   go_wp2;go_ret;exact no.o _ (fun hq=>R7.o (HQ.o.1 hq).2.2.2.2.2.1) (ye (G.o _) _)
  have d7:(off % 4 == 0)=true:=beq_iff_eq.2 r7;have R7:=hid r7;clear r7;go_wp2
  go_quiet ((go_at_call 87; exact Calls.quiet_of_same (cL.o _ ((H.o.kept (G.o _)).drewN _))))
  go_wp2;go_ret;refine ⟨yg.of ?_,ye (G.o _) _⟩;rw [HQ.o,decide_eq_true_iff];exact ⟨fun h=>⟨p1.o,⟨by omega,by omega⟩,⟨by omega,by omega⟩,R5.o,r6',R7.o,h⟩,fun h=>h.2.2.2.2.2.2⟩
def Pq (o:Lk.Obj):Prop:=∀ i (h:i < o.syms.length),Fg o o.syms[i]/\¬ ∃ j,∃ hj:j < o.syms.length,j < i/\o.syms[j].name=o.syms[i].name
theorem yhF (g:Nat) (o:Lk.Obj) (y:Lk.Sym) (w:World) (h:yv w g o) (hn:wU o) (hz:0<=o.bss/\o.bss<=64) (hl:y.name.length<=255) (hy:Fg o y) :
  Calls Tryz.prog 159 #[.pointer (some ⟨g,0,none⟩),.agg #[.string (bs y.name),.int .i64 y.bind,.int .i64 y.ah,.int .i64 y.off]] w fun e w'=>e = .returned (.bool true)/\w.grownBy w' none :=
 (Yn g o y w h hn hz hl).mono fun e w' ⟨t,k⟩=>by
  rcases t.split with ⟨_,p⟩ | ⟨rfl,_⟩
  ·exact absurd hy p.o
  ·exact ⟨rfl,k⟩
theorem yis (g:Nat) (o:Lk.Obj) (y:Lk.Sym) (w:World) (h:yv w g o) (hn:wU o) (hz:0<=o.bss/\o.bss<=64) (hl:y.name.length<=255) (hy:¬ Fg o y) :
  Calls Tryz.prog 159 #[.pointer (some ⟨g,0,none⟩),.agg #[.string (bs y.name),.int .i64 y.bind,.int .i64 y.ah,.int .i64 y.off]] w fun e w'=>e = .returned (.bool false)/\w.grownBy w' none :=
 (Yn g o y w h hn hz hl).mono fun e w' ⟨t,k⟩=>by
  rcases t.split with ⟨rfl,_⟩ | ⟨_,p⟩
  ·exact ⟨rfl,k⟩
  ·exact absurd p.o hy
theorem ynt (ys:List Lk.Sym) (k:Nat) (hk:k < ys.length) (nm:List UInt8):(∃ i,∃ h:i < (ys.take k).length,(ys.take k)[i].name=nm)↔∃ j,∃ hj:j < ys.length,j < k/\ys[j].name=nm:=by
 constructor
 ·rintro ⟨i,h,e⟩;simp only [List.length_take] at h;refine ⟨i,by omega,by omega,?_⟩;rw [List.getElem_take] at e;exact e
 ·rintro ⟨j,hj,hk',e⟩;refine ⟨j,by simp; omega,?_⟩;rw [List.getElem_take];exact e
theorem oO.take {w:World} {ao:Option Addr} {ys:List Lk.Sym} (h:oO w ao ys) (k:Nat):oO w ao (ys.take k):=by
 intro h0;simp only [List.length_take] at h0;obtain ⟨g,h1,h2,h3⟩:=h (by omega);refine ⟨g,h1,h2,fun i hi=>?_⟩;have hi':i < ys.length:=by simp at hi; omega
 have:=h3 i hi'
 simpa [List.getElem_take] using this
theorem Zn (ao:Option Addr) (cap k:Nat) (ys:List Lk.Sym) (nm:List UInt8) (w:World) (h:oO w ao ys) (hn:ys.length<=65535) (hk:k < ys.length) :
  Calls Tryz.prog 160 #[.slice ao k cap,.string (bs nm)] w fun e w'=>yg e (∃ j,∃ hj:j < ys.length,j < k/\ys[j].name=nm)/\w.grownBy w' none:=by
 have hl:(ys.take k).length=k:=by simp; omega
 have c:=(yoy ao cap (ys.take k) nm w (h.take k) (by omega)).mono fun e w' (hh:_/\_)=>(⟨hh.1.iff (ynt ys k hk nm),hh.2⟩:yg e (∃ j,∃ hj:j < ys.length,j < k/\ys[j].name=nm)/\w.grownBy w' none)
 rw [hl] at c;exact c
theorem yoz (ao:Option Addr) (cap k:Nat) (ys:List Lk.Sym) (nm:List UInt8) (w:World) (h:oO w ao ys) (hn:ys.length<=65535) (hk:k < ys.length) (hy:∃ j,∃ hj:j < ys.length,j < k/\ys[j].name=nm) :
  Calls Tryz.prog 160 #[.slice ao k cap,.string (bs nm)] w fun e w'=>e = .returned (.bool true)/\w.grownBy w' none :=
 (Zn ao cap k ys nm w h hn hk).mono fun e w' ⟨t,q⟩=>by
  rcases t.split with ⟨_,p⟩ | ⟨rfl,_⟩
  ·exact absurd hy p.o
  ·exact ⟨rfl,q⟩
theorem ypJ (ao:Option Addr) (cap k:Nat) (ys:List Lk.Sym) (nm:List UInt8) (w:World) (h:oO w ao ys) (hn:ys.length<=65535) (hk:k < ys.length) (hy:¬ ∃ j,∃ hj:j < ys.length,j < k/\ys[j].name=nm) :
  Calls Tryz.prog 160 #[.slice ao k cap,.string (bs nm)] w fun e w'=>e = .returned (.bool false)/\w.grownBy w' none :=
 (Zn ao cap k ys nm w h hn hk).mono fun e w' ⟨t,q⟩=>by
  rcases t.split with ⟨rfl,_⟩ | ⟨_,p⟩
  ·exact ⟨rfl,q⟩
  ·exact absurd p.o hy
theorem yv.drew {W:World} {g:Nat} {o:Lk.Obj} (h:yv W g o):yv W.drew g o:=h.kept ⟨rfl,rfl,rfl,Nat.le_refl _,fun _ _ _=>rfl⟩
theorem tX (t:Array Value) (ds:List Deferred) (i:Tmp) (v:Value):Act.put ⟨t,ds⟩ (some i) v=⟨t.setIfInBounds i v,ds⟩:=rfl
theorem yi {a b:World} {row:Option Nat} (h:a.grownBy b row):a.grownBy b.drew row:=⟨h.os,h.tape,h.output,h.size,h.block⟩
theorem yd {w w':World} {a:Addr} {v:Value} (h:w.cell? a=some v) (hg:w.grownBy w' none):w'.cell? a=some v:=hg.cell h (by simp)
theorem ygQ (g:Nat) (o:Lk.Obj) (w:World) (h:yv w g o) (hn:wU o) (hz:0<=o.bss/\o.bss<=64) (hl:∀ y∈o.syms,y.name.length<=255) :
  Calls Tryz.prog 96 #[.pointer (some ⟨g,0,none⟩)] w fun e w'=>yg e (Pq o)/\w.grownBy w' none:=by
 obtain ⟨at_,ct,af,cf,ad,cd,aa,ca,gJ,cs,ar,cr,hb,h1,h2,h3,h4,h5,h6⟩:=h.open;have k5:=hb.cell 5;have S:=hid (oO.aU h5);have hcap:=rR h5;have hns:=hn.2.2.2.2.1;have HZ:=hid hz;have HL:=hid hl;have HO:=hid h;have HN:=hid hn;have HB:=hid hb;have hgw:=hb.lt;clear h hn hl hb h1 h2 h3 h4 h5 h6 hz;have hcap1:=hcap.1;have hcap2:=hcap.2;unfold maxLen at hcap2;clear hcap;go_enter Tryz.func96,Tryz.ntmps96;go_wp2
 go_loopw [10] (fun i wr=>∃ k:Nat,k<=o.syms.length/\i = .int .i64 k/\(∀ i (h:i < o.syms.length),i < k->Fg o o.syms[i]/\¬ ∃ j,∃ hj:j < o.syms.length,j < i/\o.syms[j].name=o.syms[i].name)/\w.grownBy wr none) (fun i _=>o.syms.length - (intOf i).toNat)
 case atStart=>exact ⟨0,Nat.zero_le _,rfl,fun j _ hj=>absurd hj (Nat.not_lt_zero j),World.grownBy.refl _ _⟩
 case round =>
  obtain ⟨k,hk,rfl,hall,hgr⟩:=hrel;have HA:=hid hall;have HG:=hid hgr;clear hall hgr;by_cases hlt:k < o.syms.length
  ·obtain ⟨sg,hao,hgs,hc⟩:=S.o.grown HG.o (by omega);have HAO:=hid hao;subst hao;obtain ⟨q0,q1,q2,q3⟩:=hc k hlt;clear hc;have hl:=HL.o o.syms[k] (iC hlt);have hgl:g < wr.heap.size:=(HB.o.grown HG.o (by simp)).lt;have hgc:=(HB.o.grown HG.o (by simp)).cell 5;have hne:=World.new_ne wr ⟨g,5,none⟩ (by simpa using hgc);have hgrow:=aH wr (.cells #[.string (bs o.syms[k].name),.int .i64 o.syms[k].bind,.int .i64 o.syms[k].ah,.int .i64 o.syms[k].off] 100) none;have hblk:=yc.new wr #[.string (bs o.syms[k].name),.int .i64 o.syms[k].bind,.int .i64 o.syms[k].ah,.int .i64 o.syms[k].off] 100;have c0:Hd (((wr.alloc (.cells #[.string (bs o.syms[k].name),.int .i64 o.syms[k].bind,.int .i64 o.syms[k].ah,.int .i64 o.syms[k].off] 100)).drew).cell? ⟨wr.heap.size,0,none⟩=some (.string (bs o.syms[k].name))):=hblk.cell 0
   have c1:Hd (((wr.alloc (.cells #[.string (bs o.syms[k].name),.int .i64 o.syms[k].bind,.int .i64 o.syms[k].ah,.int .i64 o.syms[k].off] 100)).drew).cell? ⟨wr.heap.size,1,none⟩=some (.int .i64 o.syms[k].bind)):=hblk.cell 1;have c2:Hd (((wr.alloc (.cells #[.string (bs o.syms[k].name),.int .i64 o.syms[k].bind,.int .i64 o.syms[k].ah,.int .i64 o.syms[k].off] 100)).drew).cell? ⟨wr.heap.size,2,none⟩=some (.int .i64 o.syms[k].ah)):=hblk.cell 2;have c3:Hd (((wr.alloc (.cells #[.string (bs o.syms[k].name),.int .i64 o.syms[k].bind,.int .i64 o.syms[k].ah,.int .i64 o.syms[k].off] 100)).drew).cell? ⟨wr.heap.size,3,none⟩=some (.int .i64 o.syms[k].off)):=hblk.cell 3
   have c4:Hd (((wr.alloc (.cells #[.string (bs o.syms[k].name),.int .i64 o.syms[k].bind,.int .i64 o.syms[k].ah,.int .i64 o.syms[k].off] 100)).drew).cell? ⟨g,5,none⟩=some (.slice (some ⟨sg,0,none⟩) o.syms.length cs)):=yd (show wr.cell? ⟨g,5,none⟩=some (.slice (some ⟨sg,0,none⟩) o.syms.length cs) from by simpa using hgc) (yi hgrow);clear hgrow hblk;have hk1:(0:Int)<=(k:Int):=by omega
   have hk2:(k:Int)<=(cs:Int):=by omega
   by_cases hS:Fg o o.syms[k]
   ·have cV:=hid (fun W (hW:yv W g o)=>yhF g o o.syms[k] W hW HN.o HZ.o hl hS);have HS:=hid hS;clear hS;by_cases hN:∃ j,∃ hj:j < o.syms.length,j < k/\o.syms[j].name=o.syms[k].name
    ·have cN:=hid (fun W (hW:oO W (some ⟨sg,0,none⟩) o.syms)=>yoz (some ⟨sg,0,none⟩) cs k o.syms o.syms[k].name W hW hns hlt hN);have NN:=hid hN;clear hN;go_wp2
     go_region_held3 (fun w'=>w'.cell? ⟨wr.heap.size,0,none⟩=some (.string (bs o.syms[k].name))/\w'.cell? ⟨wr.heap.size,1,none⟩=some (.int .i64 o.syms[k].bind)/\w'.cell? ⟨wr.heap.size,2,none⟩=some (.int .i64 o.syms[k].ah)/\w'.cell? ⟨wr.heap.size,3,none⟩=some (.int .i64 o.syms[k].off)/\w'.cell? ⟨g,5,none⟩=some (.slice (some ⟨sg,0,none⟩) o.syms.length cs))
      (go_keep)
      (first | (go_at_call 159; refine (cV.o _ (yv.drew (yv.kept (HO.o.kept HG.o) (aH _ _ _)))).mono ?_; rintro e w' ⟨rfl,hq⟩; have s0:=yd c0.o hq; have s1:=yd c1.o hq; have s2:=yd c2.o hq; have s3:=yd c3.o hq; have s4:=yd c4.o hq) | (go_at_call 160; refine (cN.o _ ?_).mono ?_; (exact ((S.o.grown HG.o).grown (yi (aH _ _ _))).grown hq); rintro e w'' ⟨rfl,hq2⟩; have z0:=yd s0 hq2; have z1:=yd s1 hq2; have z2:=yd s2 hq2; have z3:=yd s3 hq2; have z4:=yd s4 hq2))
     go_wp2;go_ret;exact ⟨yg.no (fun hp=>(hp k hlt).2 NN.o),ya (ya HG.o (ya (yi (aH _ _ _)) hq)) hq2⟩
    ·have cN:=hid (fun W (hW:oO W (some ⟨sg,0,none⟩) o.syms)=>ypJ (some ⟨sg,0,none⟩) cs k o.syms o.syms[k].name W hW hns hlt hN);have NN:=hid hN;clear hN;go_wp2
     go_region_held3 (fun w'=>w'.cell? ⟨wr.heap.size,0,none⟩=some (.string (bs o.syms[k].name))/\w'.cell? ⟨wr.heap.size,1,none⟩=some (.int .i64 o.syms[k].bind)/\w'.cell? ⟨wr.heap.size,2,none⟩=some (.int .i64 o.syms[k].ah)/\w'.cell? ⟨wr.heap.size,3,none⟩=some (.int .i64 o.syms[k].off)/\w'.cell? ⟨g,5,none⟩=some (.slice (some ⟨sg,0,none⟩) o.syms.length cs))
      (go_keep)
      (first | (go_at_call 159; refine (cV.o _ (yv.drew (yv.kept (HO.o.kept HG.o) (aH _ _ _)))).mono ?_; rintro e w' ⟨rfl,hq⟩; have s0:=yd c0.o hq; have s1:=yd c1.o hq; have s2:=yd c2.o hq; have s3:=yd c3.o hq; have s4:=yd c4.o hq) | (go_at_call 160; refine (cN.o _ ?_).mono ?_; (exact ((S.o.grown HG.o).grown (yi (aH _ _ _))).grown hq); rintro e w'' ⟨rfl,hq2⟩; have z0:=yd s0 hq2; have z1:=yd s1 hq2; have z2:=yd s2 hq2; have z3:=yd s3 hq2; have z4:=yd s4 hq2))
     go_wp2
     go_roundw
     case rel=>exact ⟨k+1,by omega,by go_num,fun j hj hjk=>(Nat.lt_succ_iff_lt_or_eq.1 hjk).elim (fun h=>HA.o j hj h) (fun h=>by subst h; exact ⟨HS.o,NN.o⟩),ya (ya HG.o (ya (yi (aH _ _ _)) hq)) hq2⟩
     case measure=>simp [intOf]; omega
   ·have cV:=hid (fun W (hW:yv W g o)=>yis g o o.syms[k] W hW HN.o HZ.o hl hS);have HS:=hid hS;clear hS;go_wp2;refine wp_region_any (by kernel_rfl) ?_
    change wpAny _ Region.Mode.any _ _ _ _ _ (World.drew (wr.alloc _))
    refine wpAny_take (i:=0) (v:=?_) rfl (by kernel_rfl) (by kernel_rfl) (by kernel_rfl) (fun _ _ _ h=>h) (Or.inl ⟨by rfl,?_⟩) ?_
    rotate_left
    ·intro w; go_simp; with_reducible rfl
    refine wpAny_ready (rs:=[1]) (by kernel_rfl) (by simp) ?_;refine AllReady.cons rfl (fun K hK=>?_) AllReady.nil;go_simp;refine hK _ _ ?_;clear hK K;refine wpAny_ready (rs:=[2]) (by kernel_rfl) (by simp) ?_;refine AllReady.cons rfl (fun K hK=>?_) AllReady.nil;go_simp;go_wp2_with (go_at_call 159; refine (cV.o _ ?_).mono ?_; (exact (yv.drew (yv.kept (HO.o.kept HG.o) (aH _ _ _)))); rintro e w' ⟨rfl,hq⟩)
    refine wpAny_take (i:=3) (v:=?_) rfl (by kernel_rfl) (by kernel_rfl) (by kernel_rfl) (fun _ _ _ h=>h) (Or.inl ⟨by rfl,?_⟩) ?_
    rotate_left
    ·intro w; go_simp; with_reducible rfl
    refine wpAny_take (i:=4) (v:=?_) rfl (by kernel_rfl) (by kernel_rfl) (by kernel_rfl) (fun _ _ _ h=>h) (Or.inl ⟨by rfl,?_⟩) ?_
    rotate_left
    ·intro w; go_simp; with_reducible rfl
    refine wpAny_take (i:=5) (v:=undef) rfl (by kernel_rfl) (by kernel_rfl) (by kernel_rfl) (fun _ _ _ h=>h) (Or.inr ⟨by kernel_rfl,rfl⟩) ?_;refine wpAny_take (i:=6) (v:=undef) rfl (by kernel_rfl) (by kernel_rfl) (by kernel_rfl) (fun _ _ _ h=>h) (Or.inr ⟨by kernel_rfl,rfl⟩) ?_;refine wpAny_take (i:=7) (v:=undef) rfl (by kernel_rfl) (by kernel_rfl) (by kernel_rfl) (fun _ _ _ h=>h) (Or.inr ⟨by kernel_rfl,rfl⟩) ?_;refine wpAny_take (i:=8) (v:=undef) rfl (by kernel_rfl) (by kernel_rfl) (by kernel_rfl) (fun _ _ _ h=>h) (Or.inr ⟨by kernel_rfl,rfl⟩) ?_;refine wpAny_take (i:=9) (v:=undef) rfl (by kernel_rfl) (by kernel_rfl) (by kernel_rfl) (fun _ _ _ h=>h) (Or.inr ⟨by kernel_rfl,rfl⟩) ?_
    refine wpAny_take (i:=10) (v:=undef) rfl (by kernel_rfl) (by kernel_rfl) (by kernel_rfl) (fun _ _ _ h=>h) (Or.inr ⟨by kernel_rfl,rfl⟩) ?_;refine wpAny_take (i:=11) (v:=undef) rfl (by kernel_rfl) (by kernel_rfl) (by kernel_rfl) (fun _ _ _ h=>h) (Or.inr ⟨by kernel_rfl,rfl⟩) ?_;refine wpAny_take (i:=12) (v:=undef) rfl (by kernel_rfl) (by kernel_rfl) (by kernel_rfl) (fun _ _ _ h=>h) (Or.inr ⟨by kernel_rfl,rfl⟩) ?_;refine wpAny_take (i:=13) (v:=undef) rfl (by kernel_rfl) (by kernel_rfl) (by kernel_rfl) (fun _ _ _ h=>h) (Or.inr ⟨by kernel_rfl,rfl⟩) ?_;refine wpAny_take (i:=14) (v:=.bool true) rfl (by kernel_rfl) (by kernel_rfl) (by kernel_rfl) (fun _ _ _ h=>h) (Or.inl ⟨by kernel_rfl,fun _=>by kernel_rfl⟩) ?_
    refine wpAny_done (by kernel_rfl) ?_ _;simp only [tX,qE,qc,qx,gH,gF,gG];go_wp2;go_ret;exact ⟨yg.no (fun hp=>HS.o (hp k hlt).1),ya HG.o (ya (yi (aH _ _ _)) hq)⟩
  ·go_wp2;go_ret;exact ⟨yg.yes fun i hi=>HA.o i hi (by omega),HG.o⟩
end Go.Proofs.YtpgklkhgfcjceaaGreatDoor
