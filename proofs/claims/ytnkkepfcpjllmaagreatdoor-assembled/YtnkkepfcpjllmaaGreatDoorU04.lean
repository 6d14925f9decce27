
import Derived.Test.YtnkkepfcpjllmaaGreatDoorU03
import Derived.BigRegion
set_option maxHeartbeats 16000000
set_option maxRecDepth 100000
namespace Go.Proofs.YtnkkepfcpjllmaaGreatDoor
open Go.RowKit
def wK (w:World) (ao:Option Addr) (ys:List Lk.Rel):Prop :=
 0 < ys.length->∃ g,ao=some ⟨g,0,none⟩/\g < w.heap.size/\∀ i (h:i < ys.length),w.cell? ⟨g,i * 5,none⟩=some (.int .i64 ys[i].ah)/\w.cell? ⟨g,i * 5+1,none⟩=some (.int .i64 ys[i].off) /\
  w.cell? ⟨g,i * 5+2,none⟩=some (.int .i64 ys[i].kind)/\w.cell? ⟨g,i * 5+3,none⟩=some (.int .i64 ys[i].sym)/\w.cell? ⟨g,i * 5+4,none⟩=some (.int .i64 ys[i].addend)
theorem wK.aF {w:World} {base:Nat} {ao:Option Addr} {n cap:Nat} {ys:List Lk.Rel} (h:w.ownsRow base 54 5 (.slice ao n cap) n (ys.flatMap dK)):wK w ao ys:=by
 intro h0;have hl:(ys.flatMap dK).length=ys.length * 5:=by
  clear h h0
  induction ys with
  | nil=>rfl
  | cons y t ih=>rw [List.flatMap_cons,iA,ih]; simp [dK]; omega
 have hn:ys.length=n:=by have:=h.1; omega
 have hlt:=h.lt;rcases h.2 with ⟨h1,h2⟩ | ⟨g,cap',cur,hv,_⟩
 ·simp at h1; omega
 ·simp only [Value.slice.injEq] at hv;obtain ⟨rfl,_,rfl⟩:=hv;refine ⟨g,rfl,(hlt g rfl).2,fun i hi=>?_⟩;have q:=fun j (hj:j < 5)=>(h.cellAt (i * 5+j) (by omega)).trans (OL dK 5 (fun _=>rfl) ys i j hi hj)
  exact ⟨q 0 (by omega),q 1 (by omega),q 2 (by omega),q 3 (by omega),q 4 (by omega)⟩
theorem wK.grown {w w':World} {ao:Option Addr} {ys:List Lk.Rel} (h:wK w ao ys) (hg:w.grownBy w' none):wK w' ao ys:=by
 intro h0;obtain ⟨g,h1,h2,h3⟩:=h h0;refine ⟨g,h1,Nat.lt_of_lt_of_le h2 hg.size,fun i hi=>?_⟩;obtain ⟨a,b,c,d,e⟩:=h3 i hi;exact ⟨yb a hg,yb b hg,yb c hg,yb d hg,yb e hg⟩
def KU (o:Lk.Obj):Prop:=∀ i (h:i < o.aj.length),yY o o.aj[i]/\(∀ _:0 < i,yT (o.aj[i - 1]'(by omega)) o.aj[i])
theorem yfM (g:Nat) (o:Lk.Obj) (w:World) (ht:gD w) (h:yw w g o) (hn:ou o) (hb4:rD o.align) (hw:tN o) (hr:∀ r∈o.aj,r.off<=9223372036854775807) :
  Calls Tryz.prog 71 #[.pointer (some ⟨g,0,none⟩)] w fun e w'=>ye e (KU o)/\w.grownBy w' none:=by
 obtain ⟨at_,ct,af,cf,ad,cd,aa,ca,gu,cs,ar,cr,hb,h1,h2,h3,h4,h5,h6⟩:=h.open;have k6:=hb.cell 6;have S:=hid (wK.aF h6);have hns:=hn.2.2.2.2.2;have HB:=hid hb;have HO:=hid h;have HN:=hid hn;have HT:=hid ht;have wV:=hid hb4;have HW:=hid hw;have HR:=hid hr;clear h hn hb h1 h2 h3 h4 h5 h6 ht hb4 hw hr;go_enter Tryz.func71,Tryz.ntmps71;go_wp2
 go_loopw [10] (fun i wr=>∃ k:Nat,k<=o.aj.length/\i = .int .i64 k/\(∀ i (h:i < o.aj.length),i < k->yY o o.aj[i]/\(∀ _:0 < i,yT (o.aj[i - 1]'(by omega)) o.aj[i]))/\w.grownBy wr none) (fun i _=>o.aj.length - (intOf i).toNat)
 case atStart=>exact ⟨0,Nat.zero_le _,rfl,fun j _ hj=>absurd hj (Nat.not_lt_zero j),World.grownBy.refl _ _⟩
 case round =>
  obtain ⟨k,hk,rfl,hall,hgr⟩:=hrel;have HA:=hid hall;have HG:=hid hgr;clear hall hgr;by_cases hlt:k < o.aj.length
  ·obtain ⟨sg,hao,hgs,hc⟩:=S.o.grown HG.o (by omega);subst hao;obtain ⟨q0,q1,q2,q3,q4⟩:=hc k hlt;have HC:=hid hc;clear hc;have cV:=hid (fun W (hT:gD W) (hW:yw W g o)=>ygg g o o.aj[k] W hT hW HN.o wV.o HW.o (HR.o _ (lM hlt)));unfold fM at cV;have B1:=hid (yd.new wr #[.int .i64 o.aj[k].ah,.int .i64 o.aj[k].off,.int .i64 o.aj[k].kind,.int .i64 o.aj[k].sym,.int .i64 o.aj[k].addend] 54);have GA:=hid (aW wr (.cells #[.int .i64 o.aj[k].ah,.int .i64 o.aj[k].off,.int .i64 o.aj[k].kind,.int .i64 o.aj[k].sym,.int .i64 o.aj[k].addend] 54) none);go_wp2_with fail;refine (cV.o _ (HT.o.grown (ya HG.o GA.o)) (HO.o.kept (ya HG.o GA.o))).mono ?_
   rintro e W2 ⟨t,q⟩;have G2:=hid (ya (ya HG.o GA.o) q);have B2:=hid (B1.o.grown q (by simp));have GQ:=hid (ya GA.o q);rcases t.split with ⟨rfl,p1⟩ | ⟨rfl,p1⟩ <;> clear t q
   ·go_wp2;go_ret;exact ⟨ye.no (fun h=>p1.o (h k hlt).1),G2.o⟩
   by_cases hk0:k=0
   ·subst hk0;have d0:decide ((0:Int) < 0)=false:=by simp
    go_wp2
    go_quiet (fail)
    go_wp2
    go_roundw
    case rel=>exact ⟨1,by omega,rfl,fun j hj hjk=>by
     have:j=0:=by omega
     subst this;exact ⟨p1.o,fun h=>by omega⟩,yc G2.o _⟩
    case measure=>simp [intOf]; omega
   ·have hk1:1<=k:=by omega
    have hpl:k - 1 < o.aj.length:=by omega
    have fT:=(HA.o (k - 1) hpl (by omega)).1;have hoff:0<=(o.aj[k - 1]'hpl).off/\(o.aj[k - 1]'hpl).off<=1048576:=by
     obtain ⟨x1,x2,x3⟩:=fT.2.2.2.2.1;have y1:=yB HN.o (o.aj[k - 1]'hpl).ah;have y2:=yD fT.2.1;omega
    have cF:=hid (fun W=>yhO (o.aj[k - 1]'hpl) o.aj[k] W fT.2.1 hoff.1 hoff.2);have hcc:=HC.o (k - 1) hpl;generalize hpr:o.aj[k - 1]'hpl=pr at *;have Vk:=hid hpr;clear hpr;obtain ⟨r0,r1,r2,r3,r4⟩:=hcc;unfold fM at cF;have m6:=(HB.o.grown G2.o (by simp)).cell 6;have n0:=yb r0 GQ.o;have n1:=yb r1 GQ.o;have n2:=yb r2 GQ.o;have n3:=yb r3 GQ.o;have n4:=yb r4 GQ.o;have c0:=B2.o.cell 0;have c1:=B2.o.cell 1;have c2:=B2.o.cell 2;have c3:=B2.o.cell 3;have c4:=B2.o.cell 4;have M6:Hd (W2.drew.cell? ⟨g,6,none⟩=some (.slice (some ⟨sg,0,none⟩) o.aj.length cr)):=m6;have N0:Hd (W2.drew.cell? ⟨sg,(k - 1) * 5,none⟩=some (.int .i64 pr.ah)):=n0
    have N1:Hd (W2.drew.cell? ⟨sg,(k - 1) * 5+1,none⟩=some (.int .i64 pr.off)):=n1;have N2:Hd (W2.drew.cell? ⟨sg,(k - 1) * 5+2,none⟩=some (.int .i64 pr.kind)):=n2;have N3:Hd (W2.drew.cell? ⟨sg,(k - 1) * 5+3,none⟩=some (.int .i64 pr.sym)):=n3;have N4:Hd (W2.drew.cell? ⟨sg,(k - 1) * 5+4,none⟩=some (.int .i64 pr.addend)):=n4;have C0:Hd (W2.drew.cell? ⟨wr.heap.size,0,none⟩=some (.int .i64 o.aj[k].ah)):=c0;have C1:Hd (W2.drew.cell? ⟨wr.heap.size,1,none⟩=some (.int .i64 o.aj[k].off)):=c1;have C2:Hd (W2.drew.cell? ⟨wr.heap.size,2,none⟩=some (.int .i64 o.aj[k].kind)):=c2;have C3:Hd (W2.drew.cell? ⟨wr.heap.size,3,none⟩=some (.int .i64 o.aj[k].sym)):=c3
    have C4:Hd (W2.drew.cell? ⟨wr.heap.size,4,none⟩=some (.int .i64 o.aj[k].addend)):=c4;have hk2:0 < k:=by omega
    have d00:decide (0 < k)=true:=by simpa using hk2
    have d0:decide ((0:Int) < (k:Int))=true:=by simp; omega
    have g1:(1:Int)<=(k:Int):=by omega
    have g2:(k:Int) - 1 < (o.aj.length:Int):=by omega
    have g3:(0:Int)<=(k:Int) - 1:=by omega
    have hwk:IntKind.i64.wrap ((k:Int) - 1)=(k:Int) - 1:=IntWalk.i64_in _ ⟨by omega,by omega⟩;have HP:=hid fT;clear fT hoff q0 q1 q2 q3 q4 r0 r1 r2 r3 r4 hk0;go_wp2
    go_region_held3 (fun w'=>w'.cell? ⟨g,6,none⟩=some (.slice (some ⟨sg,0,none⟩) o.aj.length cr)/\w'.cell? ⟨wr.heap.size,0,none⟩=some (.int .i64 o.aj[k].ah)/\w'.cell? ⟨wr.heap.size,1,none⟩=some (.int .i64 o.aj[k].off)/\w'.cell? ⟨wr.heap.size,2,none⟩=some (.int .i64 o.aj[k].kind)/\w'.cell? ⟨wr.heap.size,3,none⟩=some (.int .i64 o.aj[k].sym)/\w'.cell? ⟨wr.heap.size,4,none⟩=some (.int .i64 o.aj[k].addend)/\w'.cell? ⟨sg,(k - 1) * 5,none⟩=some (.int .i64 pr.ah)/\w'.cell? ⟨sg,(k - 1) * 5+1,none⟩=some (.int .i64 pr.off)/\w'.cell? ⟨sg,(k - 1) * 5+2,none⟩=some (.int .i64 pr.kind)/\w'.cell? ⟨sg,(k - 1) * 5+3,none⟩=some (.int .i64 pr.sym)/\w'.cell? ⟨sg,(k - 1) * 5+4,none⟩=some (.int .i64 pr.addend))
     (go_keep)
     (first | (go_at_call 124; refine (cF.o _).mono ?_; rintro e w5 ⟨⟨b,rfl,hb⟩,hq⟩; have s6:=yb M6.o hq; have s0:=yb C0.o hq; have s1:=yb C1.o hq; have s2:=yb C2.o hq; have s3:=yb C3.o hq; have s4:=yb C4.o hq; have t0:=yb N0.o hq; have t1:=yb N1.o hq; have t2:=yb N2.o hq; have t3:=yb N3.o hq; have t4:=yb N4.o hq))
    have wN:=hid hb;have GF:=hid (ya (yg G2.o) hq);clear hb hq s6 s0 s1 s2 s3 s4 t0 t1 t2 t3 t4 c0 c1 c2 c3 c4 n0 n1 n2 n3 n4 m6
    cases b
    ·have NF:=hid (show ¬ yT pr o.aj[k] from fun h=>by have:=wN.o.2 h; simp at this);clear wN;go_wp2;go_ret;exact ⟨ye.no (fun h=>NF.o (Vk.o ▸ (h k hlt).2 hk2)),GF.o⟩
    ·have YF:=hid (show yT pr o.aj[k] from wN.o.1 rfl);clear wN;go_wp2
     go_roundw
     case rel=>exact ⟨k+1,by omega,by go_num,fun j hj hjk=>(Nat.lt_succ_iff_lt_or_eq.1 hjk).elim (fun h=>HA.o j hj h) (fun h=>by subst h; exact ⟨p1.o,fun _=>by rw [Vk.o]; exact YF.o⟩),GF.o⟩
     case measure=>simp [intOf]; omega
  ·go_wp2;go_ret;exact ⟨ye.yes fun i hi=>HA.o i hi (by omega),HG.o⟩
def BD (w:World) (b:Nat) (ao:Option Addr) (xs:List Int):Prop :=
 0 < xs.length->∃ g cs,ao=some ⟨g,0,none⟩/\g≠b/\yd w g cs 3/\∀ i (h:i < xs.length),cs[i]?=some (.int .i64 xs[i])
theorem BD.kept {w w':World} {b:Nat} {ao:Option Addr} {xs:List Int} (h:BD w b ao xs) (hk:Wk b w w'):BD w' b ao xs:=by
 intro h0;obtain ⟨g,cs,h1,h2,h3,h4⟩:=h h0;exact ⟨g,cs,h1,h2,hk.2 g cs _ h2 (by decide) h3,h4⟩
theorem BD.aF {w:World} {base b:Nat} {ao:Option Addr} {n cap:Nat} {xs:List Int} (h:w.ownsRow base 3 1 (.slice ao n cap) n (xs.map (Value.int .i64))) (hb:∀ g,Value.ownBlock (.slice ao n cap)=some g->g≠b):BD w b ao xs:=by
 intro h0;have hn:xs.length=n:=by have:=h.1; simpa using this
 rcases h.2 with ⟨h1,h2⟩ | ⟨g,cap',cur,hv,_,hh,_,_,hcs,htk⟩
 ·simp at h1; omega
 ·simp only [Value.slice.injEq] at hv;obtain ⟨rfl,_,rfl⟩:=hv;refine ⟨g,cur,rfl,hb g rfl,hh,fun i hi=>?_⟩;have e:(cur.toList.take (n * 1))[i]?=(xs.map (Value.int .i64))[i]?:=by rw [htk]
  rw [List.getElem?_take,if_pos (by omega)] at e;rw [<- Array.getElem?_toList,e];simp [hi]
theorem Au (b:Nat) (n:Int) (size:Nat) (ms:Int) (hms:ms=(size:Int)) (l:List UInt8) (w:World) (h:iH w b l) (hl:l.length<=16777216) (hs:size<=4) (hn0:-1099511627776<=n) (hn1:n<=1099511627776) :
  Calls Tryz.prog 42 #[.pointer (some ⟨b,0,none⟩),.int .i64 n,.int .i64 ms] w fun e w'=>e = .returned (.tuple #[])/\iH w' b (l ++ Lk.le n size)/\Wk b w w':=by
 subst hms; exact WQ b n size l w h hl hs hn0 hn1
theorem Uw (xs:List Int) (k size:Nat) (h:k < xs.length):Lk.nums (xs.take (k+1)) size=Lk.nums (xs.take k) size ++ Lk.le xs[k] size:=by
 unfold Lk.nums;rw [List.take_succ_eq_append_getElem h,List.flatMap_append];simp
theorem FU (xs:List Int) (size:Nat):(Lk.nums xs size).length=xs.length * size:=by
 unfold Lk.nums
 induction xs with
 | nil=>simp
 | cons x t ih=>simp only [List.flatMap_cons,iA,ih,Lk.bn,Gn,Nat.succ_mul]; omega
theorem PG (b:Nat) (ao:Option Addr) (cap size:Nat) (ms:Int) (hms:ms=(size:Int)) (xs:List Int) (l:List UInt8) (w:World) (h:iH w b l) (hI:BD w b ao xs)
  (hl:l.length<=1048576) (hs:size<=4) (hn:xs.length<=65535) (hx:∀ i (h:i < xs.length),-1099511627776<=xs[i]/\xs[i]<=1099511627776) :
  Calls Tryz.prog 43 #[.pointer (some ⟨b,0,none⟩),.slice ao xs.length cap,.int .i64 ms] w fun e w'=>e = .returned (.tuple #[])/\iH w' b (l ++ Lk.nums xs size)/\Wk b w w':=by
 subst hms;have H:=hid h;have HI:=hid hI;have HX:=hid hx;clear h hI hx;go_enter Tryz.func43,Tryz.ntmps43;go_wp2
 go_loopw [10] (fun i wr=>∃ k:Nat,k<=xs.length/\i = .int .i64 k/\iH wr b (l ++ Lk.nums (xs.take k) size)/\Wk b w wr) (fun i _=>xs.length - (intOf i).toNat)
 case atStart=>exact ⟨0,Nat.zero_le _,rfl,by simpa [Lk.nums] using H.o,Wk.refl _ _⟩
 case round =>
  obtain ⟨k,hk,rfl,hw,hbel⟩:=hrel;have HW:=hid hw;have HB:=hid hbel;clear hw hbel;by_cases hlt2:k < xs.length
  ·obtain ⟨g,cs,hao,-,hbk,hc⟩:=HI.o.kept HB.o (by omega);subst hao;have hck:=(hbk.cell k).trans (hc k hlt2);clear hbk;have hxk:=HX.o k hlt2;have hlen:(l ++ Lk.nums (xs.take k) size).length<=16777216:=by
    rw [iA,FU,List.length_take_of_le (by omega)]
    have:k * size<=k * 4:=Nat.mul_le_mul_left k hs
    omega
   have cN:=hid (fun W h=>WQ b xs[k] size (l ++ Lk.nums (xs.take k) size) W h hlen hs hxk.1 hxk.2);clear hc hlen;go_wp2_with fail;refine (cN.o _ HW.o).mono ?_;rintro e w2 ⟨rfl,hw2,hb2⟩;have HW2:=hid hw2;have HB2:=hid (HB.o.trans hb2);clear hw2 hb2;go_wp2
   go_roundw
   case rel=>exact ⟨k+1,by omega,by go_num,by rw [Uw xs k size hlt2,<- List.append_assoc]; exact HW2.o,HB2.o⟩
   case measure=>simp [intOf]; omega
  ·go_wp2
   go_end0
   have e:xs.take k=xs:=List.take_of_length_le (by omega);have hw:=HW.o;rw [e] at hw;exact ⟨rfl,hw,HB.o⟩
structure DY (w:World) (b v:Nat) (t:TypeId) (cs:Array Value) (l:List UInt8) (W:World):Prop where
 wr:iH W b l
 own:yd W v cs t
 wk:Wk b w W
theorem DY.begin {w:World} {b:Nat} {l:List UInt8} (h:iH w b l) (cs:Array Value) (t:TypeId):DY w b w.heap.size t cs l (w.alloc (.cells cs t)):=by
 obtain ⟨ao,cap,h1,h2⟩:=h;exact ⟨⟨ao,cap,h1.grown (aW _ _ none) (by simp),h2.alloc _⟩,yd.new _ _ _,(Wk.refl b w).alloc (Nat.le_of_lt h1.lt) _⟩
theorem DY.step {w W W':World} {b v:Nat} {t:TypeId} {cs:Array Value} {l l':List UInt8} (h:DY w b v t cs l W) (hv:v≠b) (ht:t≠5) (hw:iH W' b l') (hk:Wk b W W'):DY w b v t cs l' W' :=
 ⟨hw,hk.2 v cs t hv ht h.own,h.wk.trans hk⟩
theorem yfQ (b:Nat) (y:Lk.Sym) (l:List UInt8) (w:World) (h:iH w b l) (hl:l.length<=1048576) (hg:Lk.vP y) :
  Calls Tryz.prog 44 #[.pointer (some ⟨b,0,none⟩),.agg #[.string (bs y.name),.int .i64 y.bind,.int .i64 y.ah,.int .i64 y.off]] w fun e w'=>e = .returned (.tuple #[])/\iH w' b (l ++ Lk.lJ y)/\Wk b w w':=by
 obtain ⟨hn,⟨hb0,hb1⟩,⟨hs0,hs1⟩,ho0,ho1⟩:=hg;have hvb:w.heap.size≠b:=by obtain ⟨_,_,h1,_⟩:=h; have:=h1.lt; omega
 have S0:=hid (DY.begin h #[.string (bs y.name),.int .i64 y.bind,.int .i64 y.ah,.int .i64 y.off] 50);have hsz:((bs y.name).size:Int)=(y.name.length:Int):=by rw [zw]
 have hsz2:(bs y.name).size=y.name.length:=zw _;have c1:=hid (fun W (h:iH W b l)=>Au b ((bs y.name).size:Int) 1 1 rfl l W h (by omega) (by omega) (by omega) (by omega));have c2:=hid (fun W (h:iH W b (l ++ Lk.le y.name.length 1))=>XG b (bs y.name) (l ++ Lk.le y.name.length 1) W h (by rw [iA,Lk.bn]; omega) (by omega));have c3:=hid (fun W (h:iH W b (l ++ Lk.le y.name.length 1 ++ y.name))=>Au b y.bind 1 1 rfl (l ++ Lk.le y.name.length 1 ++ y.name) W h (by rw [iA,iA,Lk.bn]; omega) (by omega) (by omega) (by omega));have c4:=hid (fun W (h:iH W b (l ++ Lk.le y.name.length 1 ++ y.name ++ Lk.le y.bind 1))=>Au b y.ah 1 1 rfl (l ++ Lk.le y.name.length 1 ++ y.name ++ Lk.le y.bind 1) W h (by rw [iA,iA,iA,Lk.bn,Lk.bn]; omega) (by omega) (by omega) (by omega))
 have c5:=hid (fun W (h:iH W b (l ++ Lk.le y.name.length 1 ++ y.name ++ Lk.le y.bind 1 ++ Lk.le y.ah 1))=>Au b y.off 2 2 rfl (l ++ Lk.le y.name.length 1 ++ y.name ++ Lk.le y.bind 1 ++ Lk.le y.ah 1) W h (by rw [iA,iA,iA,iA,Lk.bn,Lk.bn,Lk.bn]; omega) (by omega) (by omega) (by omega));have HS:=hid hsz;have HSL:=hid (OT y.name);clear h hsz hsz2;go_enter Tryz.func44,Tryz.ntmps44;go_wp2_with fail;refine Calls.fO (DY w b w.heap.size 50 #[.string (bs y.name),.int .i64 y.bind,.int .i64 y.ah,.int .i64 y.off] l) S0.o ?_;intro W1 s1;refine (c1.o W1 s1.wr).mono ?_;rintro e W2 ⟨rfl,hw,hk⟩;rw [HS.o] at hw;have S2:=hid (s1.step hvb (by decide) hw hk)
 have k0:=S2.o.own.cell 0;clear hw hk s1;go_wp2_with fail;refine (c2.o W2 S2.o.wr).mono ?_;rintro e W3 ⟨rfl,hw,hk⟩;rw [HSL.o] at hw;have S3:=hid (S2.o.step hvb (by decide) hw hk);have k1:=S3.o.own.cell 1;clear hw hk k0;go_wp2_with fail;refine (c3.o W3 S3.o.wr).mono ?_;rintro e W4 ⟨rfl,hw,hk⟩;have S4:=hid (S3.o.step hvb (by decide) hw hk);have k2:=S4.o.own.cell 2;clear hw hk k1;go_wp2_with fail;refine (c4.o W4 S4.o.wr).mono ?_;rintro e W5 ⟨rfl,hw,hk⟩;have S5:=hid (S4.o.step hvb (by decide) hw hk);have k3:=S5.o.own.cell 3;clear hw hk k2;go_wp2_with fail;refine (c5.o W5 S5.o.wr).mono ?_;rintro e W6 ⟨rfl,hw,hk⟩
 have S6:=hid (S5.o.step hvb (by decide) hw hk);clear hw hk k3;go_wp2
 go_end0
 refine ⟨rfl,?_,S6.o.wk⟩
 have:=S6.o.wr
 simpa [Lk.lJ] using this
theorem Ao (r:Lk.Rel) (w:World) (h:r.kind=6->r.addend=4\/r.addend=12) :
  Calls Tryz.prog 31 #[fM r] w fun e w'=>e = .returned (.int .i64 (yo r))/\w.grownBy w' none:=by
 have G:=hid (fun o:Obj=>aW w o none);unfold fM yo;obtain ⟨ah,off,kind,sym,addend⟩:=r;simp only at *;by_cases e4:kind=4
 ·subst e4;go_enter Tryz.func31,Tryz.ntmps31;go_wp2;go_ret;exact ⟨by simp,G.o _⟩
 by_cases e5:kind=5
 ·subst e5;clear e4;go_enter Tryz.func31,Tryz.ntmps31;go_wp2;go_ret;exact ⟨by simp,G.o _⟩
 by_cases e6:kind=6
 ·subst e6;have ha:=h rfl;clear e4 e5 h;rcases ha with rfl | rfl
  all_goals
   go_enter Tryz.func31,Tryz.ntmps31;go_wp2;go_ret;exact ⟨by simp,G.o _⟩
 have d4:(kind == 4)=false:=beq_eq_false_iff_ne.2 e4;have d5:(kind == 5)=false:=beq_eq_false_iff_ne.2 e5;have d6:(kind == 6)=false:=beq_eq_false_iff_ne.2 e6;rw [if_neg (by omega),if_neg e6];clear e4 e5 e6 h;go_enter Tryz.func31,Tryz.ntmps31;go_wp2;go_ret;exact ⟨rfl,G.o _⟩
theorem yjW (s:ByteArray) (w:World) (hs:s.size<=1048576) :
  Calls Tryz.prog 30 #[.string s] w fun e w'=>ye e (vF s)/\w'=w:=by
 go_enter Tryz.func30,Tryz.ntmps30;go_wp2
 go_loop [3] (fun i=>∃ k:Nat,k<=s.size/\i = .int .i64 k/\(∀ j (hj:j < s.size),j < k->lU (s[j].toNat:Int))/\∀ h:0 < s.size,0 < k->¬ (48<=(s[0].toNat:Int)/\(s[0].toNat:Int)<=57)) (fun i=>s.size - (intOf i).toNat)
 case atStart=>exact ⟨0,Nat.zero_le _,rfl,fun j _ hj=>absurd hj (Nat.not_lt_zero j),fun _ h=>absurd h (Nat.lt_irrefl _)⟩
 case round =>
  obtain ⟨k,hk,rfl,hall,MU⟩:=hrel;have HA:=hid hall;have HF:=hid MU;clear hall MU;by_cases hlt:k < s.size
  ·have hb:(0:Int)<=(s[k].toNat:Int):=by omega
   rcases (show (s[k].toNat:Int)<=47\/(48<=(s[k].toNat:Int)/\(s[k].toNat:Int)<=57)\/(58<=(s[k].toNat:Int)/\(s[k].toNat:Int)<=94)\/(95<=(s[k].toNat:Int)/\(s[k].toNat:Int)<=95)\/(96<=(s[k].toNat:Int)/\(s[k].toNat:Int)<=96)\/(97<=(s[k].toNat:Int)/\(s[k].toNat:Int)<=122)\/123<=(s[k].toNat:Int) from by omega) with r | ⟨r1,r2⟩ | ⟨r1,r2⟩ | ⟨r1,r2⟩ | ⟨r1,r2⟩ | ⟨r1,r2⟩ | r
   ·have N:=hid (show ¬ vF s from fun h=>by have:=h.2.2.2 k hlt; unfold lU at this; omega);go_wp2
    all_goals first | (go_ret; exact ⟨ye.no N.o,rfl⟩) | (exfalso; rename_i hx; simp at hx; omega)
   ·have HC:=hid (show lU (s[k].toNat:Int) from by unfold lU; omega);by_cases hk0:k=0
    ·subst hk0;have N:=hid (show ¬ vF s from fun h=>h.2.2.1 hlt ⟨r1,r2⟩);go_wp2
     all_goals first | (go_ret; exact ⟨ye.no N.o,rfl⟩) | (exfalso; rename_i hx; simp at hx; omega)
    ·have hk1:1<=k:=by omega
     have dk:((k:Int) == 0)=false:=beq_eq_false_iff_ne.2 (by omega);clear hk0;go_wp2
     all_goals go_round
     all_goals first
      | (case rel=>exact ⟨k+1,by omega,by go_num,fun j hj hjk=>(Nat.lt_succ_iff_lt_or_eq.1 hjk).elim (fun h=>HA.o j hj h) (fun h=>by subst h; exact HC.o),fun h0 _=>HF.o h0 (by omega)⟩)
      | (case measure=>simp [intOf]; omega)
   ·have N:=hid (show ¬ vF s from fun h=>by have:=h.2.2.2 k hlt; unfold lU at this; omega);go_wp2
    all_goals first | (go_ret; exact ⟨ye.no N.o,rfl⟩) | (exfalso; rename_i hx; simp at hx; omega)
   ·have HC:=hid (show lU (s[k].toNat:Int) from by unfold lU; omega);have QB:=hid (show ¬ (48<=(s[k].toNat:Int)/\(s[k].toNat:Int)<=57) from by omega);go_wp2
    all_goals go_round
    all_goals first
     | (case rel=>exact ⟨k+1,by omega,by go_num,fun j hj hjk=>(Nat.lt_succ_iff_lt_or_eq.1 hjk).elim (fun h=>HA.o j hj h) (fun h=>by subst h; exact HC.o),fun h0 _=>(Nat.eq_zero_or_pos k).elim (fun hk0=>by subst hk0; exact QB.o) (fun hk0=>HF.o h0 hk0)⟩)
     | (case measure=>simp [intOf]; omega)
   ·have N:=hid (show ¬ vF s from fun h=>by have:=h.2.2.2 k hlt; unfold lU at this; omega);go_wp2
    all_goals first | (go_ret; exact ⟨ye.no N.o,rfl⟩) | (exfalso; rename_i hx; simp at hx; omega)
   ·have HC:=hid (show lU (s[k].toNat:Int) from by unfold lU; omega);have QB:=hid (show ¬ (48<=(s[k].toNat:Int)/\(s[k].toNat:Int)<=57) from by omega);go_wp2
    all_goals go_round
    all_goals first
     | (case rel=>exact ⟨k+1,by omega,by go_num,fun j hj hjk=>(Nat.lt_succ_iff_lt_or_eq.1 hjk).elim (fun h=>HA.o j hj h) (fun h=>by subst h; exact HC.o),fun h0 _=>(Nat.eq_zero_or_pos k).elim (fun hk0=>by subst hk0; exact QB.o) (fun hk0=>HF.o h0 hk0)⟩)
     | (case measure=>simp [intOf]; omega)
   ·have N:=hid (show ¬ vF s from fun h=>by have:=h.2.2.2 k hlt; unfold lU at this; omega);go_wp2
    all_goals first | (go_ret; exact ⟨ye.no N.o,rfl⟩) | (exfalso; rename_i hx; simp at hx; omega)
  ·by_cases c1:1<=s.size
   ·have d1:decide ((1:Int)<=(s.size:Int))=true:=by simp; omega
    go_wp2;go_ret;refine ⟨ye.of ?_,rfl⟩;rw [decide_eq_true_iff];exact ⟨fun h=>⟨c1,by omega,fun h0=>HF.o h0 (by omega),fun i hi=>HA.o i hi (by omega)⟩,fun h=>by have:=h.2.1; omega⟩
   ·have d1:decide ((1:Int)<=(s.size:Int))=false:=by simp; omega
    have N:=hid (show ¬ vF s from fun h=>by have:=h.1; omega);go_wp2;go_ret;exact ⟨ye.no N.o,rfl⟩
structure tV (W:World) (B:Nat) (o:Lk.Obj) (at_:Option Addr) (ct:Nat) (af:Option Addr) (cf:Nat) (ad:Option Addr) (cd:Nat) (Z:Nat):Prop where
 blk:yd W B #[.slice none 0 0,.slice at_ o.text.length ct,.slice af o.far.length cf,.slice ad o.data.length cd,.slice (some ⟨Z,0,none⟩) o.bss.toNat o.bss.toNat] 36
 text:yn W at_ o.text
 far:yn W af o.far
 data:yn W ad o.data
 zero:yn W (some ⟨Z,0,none⟩) (List.replicate o.bss.toNat 0)
 ct:o.text.length<=ct/\ct<=maxLen
 cf:o.far.length<=cf/\cf<=maxLen
 cd:o.data.length<=cd/\cd<=maxLen
theorem tV.grown {W W':World} {B:Nat} {o:Lk.Obj} {at_:Option Addr} {ct:Nat} {af:Option Addr} {cf:Nat} {ad:Option Addr} {cd:Nat} {Z:Nat} (h:tV W B o at_ ct af cf ad cd Z) (hg:W.grownBy W' none):tV W' B o at_ ct af cf ad cd Z :=
 ⟨h.blk.grown hg (by simp),h.text.kept (fun _ _ hv=>yb hv hg),h.far.kept (fun _ _ hv=>yb hv hg),h.data.kept (fun _ _ hv=>yb hv hg),h.zero.kept (fun _ _ hv=>yb hv hg),h.ct,h.cf,h.cd⟩
theorem yhC (g:Nat) (o:Lk.Obj) (w:World) (h:yw w g o) (hz:0<=o.bss/\o.bss<=64) :
  Calls Tryz.prog 15 #[.pointer (some ⟨g,0,none⟩)] w fun e w'=>∃ B at_ ct af cf ad cd Z,e = .returned (.slice (some ⟨B,0,none⟩) 5 5)/\tV w' B o at_ ct af cf ad cd Z/\w.grownBy w' none:=by
 obtain ⟨i0,hi,hz0,hz1,hz2⟩:=info_parts Tryz.iC;obtain ⟨at_,ct,af,cf,ad,cd,aa,ca,gu,cs,ar,cr,hb,h1,h2,h3,-⟩:=h.open;have k3:=hb.cell 3;have HB:=hid hb;have I1:=hid (yn.aF h1);have I2:=hid (yn.aF h2);have I3:=hid (yn.aF h3);have C1:=hid (yZ h1);have C2:=hid (yZ h2);have C3:=hid (yZ h3);clear h hb h1 h2 h3;obtain ⟨n,hn⟩:=Int.eq_ofNat_of_zero_le hz.1;have HN:=hid hn;have Ry:n<=64:=by omega
 rw [hn] at k3;clear hn hz;go_enter Tryz.func15,Tryz.ntmps15;go_wp2_with (first | (refine wpList_make_full _ rfl _ _ 36 rfl w.heap.size 3 i0 (.int .i64 0) 1 Tryz.underlying36 hi hz0 hz1 .i64 .i64 (n:Int) (n:Int) n rfl rfl rfl rfl (by rw [hz2]; omega) (by unfold maxLen; omega) (Nat.le_refl _) ?_; intro w1 hown hgrow))
 have HO:=hid hown;have HG:=hid hgrow;have hb1:=HB.o.grown hgrow (by simp);have c0:=hb1.cell 0;have c1:=hb1.cell 1;have c2:=hb1.cell 2;clear hown hgrow hb1 k3;go_wp2
 go_region
 go_wp2;go_ret;have G2:=yg (aW w1 (.cells #[.slice none 0 0,.slice at_ o.text.length ct,.slice af o.far.length cf,.slice ad o.data.length cd,.slice (some ⟨w.heap.size,0,none⟩) n n] 36) none);have e:o.bss.toNat=n:=by rw [HN.o]; simp
 have GK:=fun (a:Addr) (v:Value) (hv:w.cell? a=some v)=>yb (yb hv HG.o) G2
 refine ⟨w1.heap.size,at_,ct,af,cf,ad,cd,w.heap.size,rfl,⟨?_,I1.o.kept GK,I2.o.kept GK,I3.o.kept GK,?_,C1.o,C2.o,C3.o⟩,ya HG.o G2⟩
 ·rw [e];exact yd.new w1 _ _
 ·rw [e];have hz:yn w1 (some ⟨w.heap.size,0,none⟩) (List.replicate n 0):=by
   refine yn.aF (n:=n) (cap:=n) (base:=w.heap.size) ?_;have h:=HO.o;have e2:(madeCells (Value.int .i64 0).cells (n * 1)).toList=(List.replicate n (0:Int)).map (Value.int .i64):=by
    rw [Nat.mul_one];show (madeCells #[Value.int .i64 0] n).toList=_;rw [toList_madeCells_one];simp
   rw [e2] at h;exact h
  exact hz.kept (fun _ _ hv=>yb hv G2)
def OV (o:Lk.Obj) (k:Nat) (h:k < o.syms.length):Prop:=F7 o o.syms[k]/\¬ ∃ j,∃ hj:j < o.syms.length,j < k/\o.syms[j].name=o.syms[k].name
theorem tV.len {W:World} {B:Nat} {o:Lk.Obj} {at_:Option Addr} {ct:Nat} {af:Option Addr} {cf:Nat} {ad:Option Addr} {cd:Nat} {Z:Nat} (h:tV W B o at_ ct af cf ad cd Z) (hz:0<=o.bss) (n:Nat) (hn:n<=4) :
  ∃ ao L cap,W.cell? ⟨B,n,none⟩=some (.slice ao L cap)/\(L:Int)=nC o n:=by
 rcases (show n=0\/n=1\/n=2\/n=3\/n=4 from by omega) with rfl | rfl | rfl | rfl | rfl
 ·exact ⟨_,_,_,h.blk.cell 0,by simp [nC,ym]⟩
 ·exact ⟨_,_,_,h.blk.cell 1,by simp [nC,ym]⟩
 ·exact ⟨_,_,_,h.blk.cell 2,by simp [nC,ym]⟩
 ·exact ⟨_,_,_,h.blk.cell 3,by simp [nC,ym]⟩
 ·exact ⟨_,_,_,h.blk.cell 4,by simp [nC]; omega⟩
theorem yhl (g B k:Nat) (o:Lk.Obj) (at_:Option Addr) (ct:Nat) (af:Option Addr) (cf:Nat) (ad:Option Addr) (cd:Nat) (Z:Nat) (w:World) (h:yw w g o) (hs:tV w B o at_ ct af cf ad cd Z) (hn:ou o) (hz:0<=o.bss/\o.bss<=64)
  (hl:∀ y∈o.syms,y.name.length<=255) (hk:k < o.syms.length) :
  Calls Tryz.prog 16 #[.pointer (some ⟨g,0,none⟩),.slice (some ⟨B,0,none⟩) 5 5,.int .i64 k] w fun e w'=>ye e (OV o k hk)/\w.grownBy w' none:=by
 obtain ⟨_,_,_,_,_,_,_,_,gu,cs,_,_,hb,-,-,-,-,h5,-⟩:=h.open;have hns:=hn.2.2.2.2.1;obtain ⟨sg,hao,hgs,hc⟩:=nS.aF h5 (by omega);subst hao;obtain ⟨q0,q1,q2,q3⟩:=hc k hk;have HC:=hid hc;have k5:=hb.cell 5;have HB:=hid hb;have HS:=hid hs;have hnl:=hl o.syms[k] (lM hk);have hlen:0<=nC o o.syms[k].ah/\nC o o.syms[k].ah<=65535:=by
  have:=yB hn o.syms[k].ah
  unfold nC; split <;> omega
 have S0:=hid (yd.new w #[.string (bs o.syms[k].name),.int .i64 o.syms[k].bind,.int .i64 o.syms[k].ah,.int .i64 o.syms[k].off] 50);have G0:=hid (aW w (.cells #[.string (bs o.syms[k].name),.int .i64 o.syms[k].bind,.int .i64 o.syms[k].ah,.int .i64 o.syms[k].off] 50) none);have cN:=hid (fun W=>yjW (bs o.syms[k].name) W (by rw [zw]; omega));have HQ:=hid (show OV o k hk↔(vF (bs o.syms[k].name)/\(0<=o.syms[k].bind/\o.syms[k].bind<=2)/\(0<=o.syms[k].ah/\o.syms[k].ah<=4)/\¬ (o.syms[k].ah=0/\o.syms[k].bind=0)/\0<=o.syms[k].off/\o.syms[k].off % 4=0/\o.syms[k].off<=4 * nC o o.syms[k].ah)/\¬ ∃ j,∃ hj:j < o.syms.length,j < k/\o.syms[j].name=o.syms[k].name from Iff.rfl)
 have g1:(k:Int) < (o.syms.length:Int):=by omega
 clear h hs h5 hb hc hn hl;generalize OV o k hk=Q at *;go_enter Tryz.func16,Tryz.ntmps16;go_wp2_with fail;refine (cN.o _).mono ?_;rintro e w1 ⟨t,hw1⟩;subst hw1;have s1:=S0.o.cell 1;have s2:=S0.o.cell 2;have s3:=S0.o.cell 3;rcases t.split with ⟨rfl,p1⟩ | ⟨rfl,p1⟩ <;> clear t
 ·go_wp2;go_ret;exact ⟨ye.no (fun hq=>p1.o (HQ.o.1 hq).1.1),G0.o⟩
 have no:Hd (∀ W,(¬ Q)->w.grownBy W none->ye (.returned (.bool false)) Q/\w.grownBy W none):=fun W a b=>⟨ye.no a,b⟩
 generalize hbd:o.syms[k].bind=bind at *;generalize hsc:o.syms[k].ah=ah at *;generalize hof:o.syms[k].off=off at *;have HY:=hid (show o.syms[k].bind=bind/\o.syms[k].ah=ah/\o.syms[k].off=off from ⟨hbd,hsc,hof⟩);clear hbd hsc hof;by_cases r1:bind < 0
 ·have d:decide (bind < 0)=true:=by simp; omega
  go_wp2;go_ret;exact no.o _ (fun hq=>by have:=(HQ.o.1 hq).1.2.1.1; omega) G0.o
 have d1:decide (bind < 0)=false:=by simp; omega
 by_cases r2:2 < bind
 ·have d:decide (2 < bind)=true:=by simp; omega
  go_wp2;go_ret;exact no.o _ (fun hq=>by have:=(HQ.o.1 hq).1.2.1.2; omega) G0.o
 have d2:decide (2 < bind)=false:=by simp; omega
 by_cases r3:ah < 0
 ·have d:decide (ah < 0)=true:=by simp; omega
  go_wp2;go_ret;exact no.o _ (fun hq=>by have:=(HQ.o.1 hq).1.2.2.1.1; omega) G0.o
 have d3:decide (ah < 0)=false:=by simp; omega
 by_cases r4:4 < ah
 ·have d:decide (4 < ah)=true:=by simp; omega
  go_wp2;go_ret;exact no.o _ (fun hq=>by have:=(HQ.o.1 hq).1.2.2.1.2; omega) G0.o
 have d4:decide (4 < ah)=false:=by simp; omega
 by_cases r6:off < 0
 ·have d:decide (off < 0)=true:=by simp; omega
  go_wp2;go_ret;exact no.o _ (fun hq=>by have:=(HQ.o.1 hq).1.2.2.2.2.1; omega) G0.o
 have d6:decide (off < 0)=false:=by simp; omega
 have VP:0<=off:=by omega
 by_cases r7:off % 4=0
 rotate_left
 ·have d:(off % 4 == 0)=false:=beq_eq_false_iff_ne.2 r7;have R7:=hid r7;clear r7;go_wp2;go_ret;exact no.o _ (fun hq=>R7.o (HQ.o.1 hq).1.2.2.2.2.2.1) G0.o
 have d7:(off % 4 == 0)=true:=beq_iff_eq.2 r7;have R7:=hid r7;clear r7;obtain ⟨n,hsn⟩:=Int.eq_ofNat_of_zero_le (show 0<=ah from by omega);have Na:n<=4:=by omega
 obtain ⟨ao,L,cap,hcl,hL⟩:=(HS.o.grown (G0.o)).len hz.1 n Na;subst hsn;have hL2:nC o (n:Int)=(L:Int):=hL.symm;have HL2:=hid hL2;rw [hL2] at hlen;have hLs:L<=65535:=by omega
 clear hL hL2 hlen;have hwl:IntKind.i64.wrap (4 * (L:Int))=4 * (L:Int):=IntWalk.i64_in _ ⟨by omega,by omega⟩;have hn5:n < 5:=by omega
 by_cases r8:4 * (L:Int) < off
 ·have e1:decide (4 * (L:Int) < off)=true:=by simp; omega
  go_wp2
  go_quiet (fail)
  go_wp2;go_ret;exact no.o _ (fun hq=>by have:=(HQ.o.1 hq).1.2.2.2.2.2.2; rw [HL2.o] at this; omega) (yc G0.o _)
 have e8:decide (4 * (L:Int) < off)=false:=by simp; omega
 by_cases r5:n=0/\bind=0
 ·obtain ⟨ZP,ZQ⟩:=r5;have x1:(n:Int)<=0:=by omega
  have x2:bind<=0:=by omega
  have x3:(((n:Int)) == 0)=true:=by simp; omega
  have x4:(bind == 0)=true:=by simp; omega
  have R5:=hid (show (n:Int)=0/\bind=0 from by omega);clear ZP ZQ;go_wp2
  go_quiet (fail)
  go_wp2;go_ret;exact no.o _ (fun hq=>(HQ.o.1 hq).1.2.2.2.1 R5.o) (yc G0.o _)
 have R5:=hid (show ¬ ((n:Int)=0/\bind=0) from fun h=>r5 ⟨by omega,h.2⟩);have HP:=hid (show vF (bs o.syms[k].name)/\(0<=bind/\bind<=2)/\(0<=(n:Int)/\(n:Int)<=4)/\¬ ((n:Int)=0/\bind=0)/\0<=off/\off % 4=0/\off<=4 * nC o n from ⟨p1.o,⟨by omega,by omega⟩,⟨by omega,by omega⟩,R5.o,by omega,R7.o,by rw [HL2.o]; omega⟩);rcases (show (((n:Int) == 0)=false)\/((((n:Int)) == 0)=true/\(bind == 0)=false) from by
   by_cases hh:n=0
   ·exact Or.inr ⟨by simp [hh],by simp; omega⟩
   ·exact Or.inl (by simp; omega)) with x3 | ⟨x3,x4⟩ <;> clear r5
 all_goals
  go_wp2
  go_quiet (fail)
  go_wp2
  go_loopw [9] (fun i wr=>∃ j:Nat,j<=k/\i = .int .i64 j/\(∀ a (ha:a < o.syms.length),a < j->¬ o.syms[a].name=o.syms[k].name)/\w.grownBy wr none/\wr.cell? ⟨w.heap.size,0,none⟩=some (.string (bs o.syms[k].name))) (fun i _=>k - (intOf i).toNat)
  case atStart=>exact ⟨0,Nat.zero_le _,rfl,fun j _ hj=>absurd hj (Nat.not_lt_zero j),yc G0.o _,by simp⟩
  case round =>
   obtain ⟨j,hj,rfl,hall,hgr,hc0⟩:=hrel;have HA:=hid hall;have HG:=hid hgr;clear hall hgr;by_cases hlt:j < k
   ·have hb5:=(HB.o.grown HG.o (by simp)).cell 5;have hjl:j < o.syms.length:=by omega
    have hq0:=yb (HC.o j hjl).1 HG.o;have g2:(j:Int) < (k:Int):=by omega
    have g3:(j:Int) < (o.syms.length:Int):=by omega
    by_cases hnm:o.syms[j].name=o.syms[k].name
    ·have dn:((bs o.syms[j].name).toList == (bs o.syms[k].name).toList)=true:=by rw [hnm]; simp
     have HN:=hid hnm;clear hnm;go_wp2
     go_quiet (fail)
     go_wp2;go_ret;exact no.o _ (fun hq=>(HQ.o.1 hq).2 ⟨j,hjl,hlt,HN.o⟩) (yc HG.o _)
    ·have dn:((bs o.syms[j].name).toList == (bs o.syms[k].name).toList)=false:=by rw [yA,yA]; simpa using hnm
     have HN:=hid hnm;clear hnm;go_wp2
     go_quiet (fail)
     go_wp2
     all_goals first
      | (refine ⟨⟨j+1,by omega,by go_num,fun a ha hak=>(Nat.lt_succ_iff_lt_or_eq.1 hak).elim (fun h=>HA.o a ha h) (fun h=>by subst h; exact HN.o),yc HG.o _,hc0⟩,?_⟩; simp [intOf]; omega)
      | (go_roundw; all_goals first | (case rel=>exact ⟨j+1,by omega,by go_num,fun a ha hak=>(Nat.lt_succ_iff_lt_or_eq.1 hak).elim (fun h=>HA.o a ha h) (fun h=>by subst h; exact HN.o),yc HG.o _,hc0⟩) | (case measure=>simp [intOf]; omega))
   ·go_wp2;go_ret;exact ⟨ye.yes (HQ.o.2 ⟨HP.o,fun ⟨a,ha,hak,e⟩=>HA.o a ha (by omega) e⟩),HG.o⟩
theorem XY (v:Int) (j:Nat) (w:World) (hv:0<=v) (hv':v<=4294967295) (hj:j<=31) :
  Calls Tryz.prog 87 #[.int .i64 v,.int .i64 j] w fun e w'=>e = .returned (.int .i64 (v / 2 ^ j % 2))/\w'=w:=by
 go_enter Tryz.func87,Tryz.ntmps87;go_wp2;go_ret;have h2:(0:Int) < 2 ^ j:=Int.pow_pos (by decide);have a:0<=v / 2 ^ j:=Int.ediv_nonneg hv (Int.le_of_lt h2);have b:v / 2 ^ j<=v:=Int.ediv_le_self _ hv;refine ⟨?_,rfl⟩;rw [<- low (v / 2 ^ j) 1 (by decide) 1 2 rfl rfl a (by omega)];rfl
def vH (form:Int):Int:=if form=1 then 85 else if form=2 then 74 else if form=3 then 73 else if form=4 then 66 else if form=5 then 83 else if form=6 then 82 else 69
def wM (form:Int):Nat:=if form=1 then 20 else if form=2 then 21 else if form=4 then 13 else 12
theorem ykm (form:Int) (w:World) (hf:1<=form/\form<=7) :
  Calls Tryz.prog 88 #[.int .u8 (vH form)] w fun e w'=>e = .returned (.int .i64 (wM form))/\w'=w:=by
 rcases (show form=1\/form=2\/form=3\/form=4\/form=5\/form=6\/form=7 from by omega) with rfl | rfl | rfl | rfl | rfl | rfl | rfl
 all_goals
  clear hf;simp only [vH,wM,Int.reduceEq,if_true,if_false];go_enter Tryz.func88,Tryz.ntmps88;go_wp2;go_ret;exact ⟨rfl,rfl⟩
theorem F4 (w:World) (l:List Value) (t:TypeId):∀ j u,l[j]?=some u->(w.alloc (.cells l.toArray t)).cell? ((⟨w.heap.size,0,none⟩:Addr).add j)=some u:=by
 intro j u hj
 have:=(yd.new w l.toArray t).cell (0+j)
 rw [show (⟨w.heap.size,0,none⟩:Addr).add j=⟨w.heap.size,0+j,none⟩ from by simp [Addr.add]; omega,this];simpa using hj
def pK (f:Nat->Int) (a:Nat):Nat->List Int
 | 0=>[]
 | k+1=>pK f a k ++ [((a+k:Nat):Int),f (a+k)]
theorem OC (f:Nat->Int) (a k:Nat):(pK f a k).length=k * 2:=by
 induction k with
 | zero=>rfl
 | succ k ih=>simp [pK,ih]; omega
def fU (i:Nat):Int:=12+(i:Int)
def fI (i:Nat):Int:=20+(i:Int)
def fS (i:Nat):Int:=if 5<=i then 20+(i:Int) else 7+(i:Int)
def fJ (i:Nat):Int:=if i=11 then 20 else if 12<=i then (i:Int) else 20+(i:Int)
def yJ (form:Int):List Int:=if form=1 then pK fU 0 20 else if form=2 then pK fJ 1 19 ++ [20,31] else if form=3 then pK fI 0 12 else if form=4 then pK fS 1 10 ++ [11,7,12,31] else if form=5 then pK fS 0 12 else []
theorem F6 {w wr w3:World} {v:Value} {n:Nat} {xs:List Value} {o:Obj} (HG:w.grownBy wr none) (hown:wr.ownsRow w.heap.size 3 1 v n xs) (hgrow:(wr.alloc o).grownBy w3 v.ownBlock):w.grownBy w3 none:=by
 have hsz:=HG.size;exact ⟨hgrow.os.trans HG.os,hgrow.tape.trans HG.tape,hgrow.output.trans HG.output,by have:=hgrow.size; simp at this; omega,fun i hi' _ =>
  (hgrow.block i (by simp; omega) (fun e=>by have:=(hown.lt i e.symm).1; omega)).trans ((Below.heap_alloc _ _ i (by omega)).trans (HG.block i hi' (by simp)))⟩
theorem yki (w:World) :
  Calls Tryz.prog 86 #[.int .u8 85] w fun e w'=>∃ v,e = .returned v/\w'.ownsRow w.heap.size 3 1 v ((yJ 1).length) ((yJ 1).map (Value.int .i64))/\w.grownBy w' none:=by
 obtain ⟨i0,hi,hz0,hz1,hz2⟩:=info_parts Tryz.iC;have HX:=hid (fun k=>show pK fU 0 (k+1)=pK fU 0 k ++ [((0+k:Nat):Int),fU (0+k)] from rfl);have HL:=hid (show yJ 1=pK fU 0 20 from rfl);go_enter Tryz.func86,Tryz.ntmps86;go_wp2
 go_loopw [3,4] (fun v i wr=>∃ k:Nat,k<=20/\i = .int .i64 ((0+k:Nat):Int)/\wr.ownsRow w.heap.size 3 1 v (k * 2) ((pK fU 0 k).map (Value.int .i64))/\w.grownBy wr none) (fun _ i _=>20 - (intOf i).toNat)
 case atStart=>exact ⟨0,Nat.zero_le _,rfl,World.ownsRow_nil _ _ _ _,World.grownBy.refl _ _⟩
 case round =>
  obtain ⟨k,hk,rfl,hown,hgr⟩:=hrel;have HG:=hid hgr;have hsz:=hgr.size;clear hgr;by_cases hlt:k < 20
  ·generalize hj:0+k=j at *;have HJ:=hid hj;have hj1:j < 20:=by omega
   have HF:=hid (show fU j=12+(j:Int) from rfl);clear hj;go_wp2_with (at_builtin; refine wpList_append_own _ rfl _ _ 36 rfl w.heap.size 3 i0 (.int .i64 0) 1 8 Tryz.underlying36 hi hz0 hz1 hz2 rfl (by decide) _ _ _ rfl (hown.alloc _) ⟨wr.heap.size,0,none⟩ 2 2 [.int .i64 (j:Int),.int .i64 (12+(j:Int))] rfl rfl (F4 _ _ _) (by intro u hu; simp at hu; first | (subst hu; rfl) | (rcases hu with hu | hu <;> (subst hu; rfl))) (by unfold maxLen; omega) (by omega) (by simp; omega) ?_; intro v' w3 hown' hgrow _)
   have G3:=hid (F6 HG.o hown hgrow);clear hgrow hown;go_wp2
   go_roundw
   case rel=>exact ⟨k+1,by omega,by have:=HJ.o; go_num,by rw [HX.o k,HJ.o,HF.o]; simpa [Nat.succ_mul] using hown',G3.o⟩
   case measure=>simp [intOf]; omega
  ·have ek:k=20:=by omega
   subst ek;go_wp2;go_ret;rw [HL.o];exact ⟨_,rfl,by simpa [OC] using hown,HG.o⟩
theorem yke (w:World) :
  Calls Tryz.prog 86 #[.int .u8 73] w fun e w'=>∃ v,e = .returned v/\w'.ownsRow w.heap.size 3 1 v ((yJ 3).length) ((yJ 3).map (Value.int .i64))/\w.grownBy w' none:=by
 obtain ⟨i0,hi,hz0,hz1,hz2⟩:=info_parts Tryz.iC;have HX:=hid (fun k=>show pK fI 0 (k+1)=pK fI 0 k ++ [((0+k:Nat):Int),fI (0+k)] from rfl);have HL:=hid (show yJ 3=pK fI 0 12 from rfl);go_enter Tryz.func86,Tryz.ntmps86;go_wp2
 go_loopw [3,5] (fun v i wr=>∃ k:Nat,k<=12/\i = .int .i64 ((0+k:Nat):Int)/\wr.ownsRow w.heap.size 3 1 v (k * 2) ((pK fI 0 k).map (Value.int .i64))/\w.grownBy wr none) (fun _ i _=>12 - (intOf i).toNat)
 case atStart=>exact ⟨0,Nat.zero_le _,rfl,World.ownsRow_nil _ _ _ _,World.grownBy.refl _ _⟩
 case round =>
  obtain ⟨k,hk,rfl,hown,hgr⟩:=hrel;have HG:=hid hgr;have hsz:=hgr.size;clear hgr;by_cases hlt:k < 12
  ·generalize hj:0+k=j at *;have HJ:=hid hj;have hj1:j < 12:=by omega
   have HF:=hid (show fI j=20+(j:Int) from rfl);clear hj;go_wp2_with (at_builtin; refine wpList_append_own _ rfl _ _ 36 rfl w.heap.size 3 i0 (.int .i64 0) 1 8 Tryz.underlying36 hi hz0 hz1 hz2 rfl (by decide) _ _ _ rfl (hown.alloc _) ⟨wr.heap.size,0,none⟩ 2 2 [.int .i64 (j:Int),.int .i64 (20+(j:Int))] rfl rfl (F4 _ _ _) (by intro u hu; simp at hu; first | (subst hu; rfl) | (rcases hu with hu | hu <;> (subst hu; rfl))) (by unfold maxLen; omega) (by omega) (by simp; omega) ?_; intro v' w3 hown' hgrow _)
   have G3:=hid (F6 HG.o hown hgrow);clear hgrow hown;go_wp2
   go_roundw
   case rel=>exact ⟨k+1,by omega,by have:=HJ.o; go_num,by rw [HX.o k,HJ.o,HF.o]; simpa [Nat.succ_mul] using hown',G3.o⟩
   case measure=>simp [intOf]; omega
  ·have ek:k=12:=by omega
   subst ek;go_wp2;go_ret;rw [HL.o];exact ⟨_,rfl,by simpa [OC] using hown,HG.o⟩
theorem ykh (w:World) :
  Calls Tryz.prog 86 #[.int .u8 83] w fun e w'=>∃ v,e = .returned v/\w'.ownsRow w.heap.size 3 1 v ((yJ 5).length) ((yJ 5).map (Value.int .i64))/\w.grownBy w' none:=by
 obtain ⟨i0,hi,hz0,hz1,hz2⟩:=info_parts Tryz.iC;have HX:=hid (fun k=>show pK fS 0 (k+1)=pK fS 0 k ++ [((0+k:Nat):Int),fS (0+k)] from rfl);have HL:=hid (show yJ 5=pK fS 0 12 from rfl);go_enter Tryz.func86,Tryz.ntmps86;go_wp2
 go_loopw [3,6] (fun v i wr=>∃ k:Nat,k<=12/\i = .int .i64 ((0+k:Nat):Int)/\wr.ownsRow w.heap.size 3 1 v (k * 2) ((pK fS 0 k).map (Value.int .i64))/\w.grownBy wr none) (fun _ i _=>12 - (intOf i).toNat)
 case atStart=>exact ⟨0,Nat.zero_le _,rfl,World.ownsRow_nil _ _ _ _,World.grownBy.refl _ _⟩
 case round =>
  obtain ⟨k,hk,rfl,hown,hgr⟩:=hrel;have HG:=hid hgr;have hsz:=hgr.size;clear hgr;by_cases hlt:k < 12
  ·generalize hj:0+k=j at *;have HJ:=hid hj;have hj1:j < 12:=by omega
   rcases (show (j < 5)\/(5<=j) from by omega) with c1 | c1
   ·have HF:=hid (show fS j=7+(j:Int) from if_neg (by omega));clear hj;go_wp2_with (at_builtin; refine wpList_append_own _ rfl _ _ 36 rfl w.heap.size 3 i0 (.int .i64 0) 1 8 Tryz.underlying36 hi hz0 hz1 hz2 rfl (by decide) _ _ _ rfl (hown.alloc _) ⟨wr.heap.size,0,none⟩ 2 2 [.int .i64 (j:Int),.int .i64 (7+(j:Int))] rfl rfl (F4 _ _ _) (by intro u hu; simp at hu; first | (subst hu; rfl) | (rcases hu with hu | hu <;> (subst hu; rfl))) (by unfold maxLen; omega) (by omega) (by simp; omega) ?_; intro v' w3 hown' hgrow _)
    have G3:=hid (F6 HG.o hown hgrow);clear hgrow hown;go_wp2
    go_roundw
    case rel=>exact ⟨k+1,by omega,by have:=HJ.o; go_num,by rw [HX.o k,HJ.o,HF.o]; simpa [Nat.succ_mul] using hown',G3.o⟩
    case measure=>simp [intOf]; omega
   ·have HF:=hid (show fS j=20+(j:Int) from if_pos (by omega));clear hj;go_wp2_with (at_builtin; refine wpList_append_own _ rfl _ _ 36 rfl w.heap.size 3 i0 (.int .i64 0) 1 8 Tryz.underlying36 hi hz0 hz1 hz2 rfl (by decide) _ _ _ rfl (hown.alloc _) ⟨wr.heap.size,0,none⟩ 2 2 [.int .i64 (j:Int),.int .i64 (20+(j:Int))] rfl rfl (F4 _ _ _) (by intro u hu; simp at hu; first | (subst hu; rfl) | (rcases hu with hu | hu <;> (subst hu; rfl))) (by unfold maxLen; omega) (by omega) (by simp; omega) ?_; intro v' w3 hown' hgrow _)
    have G3:=hid (F6 HG.o hown hgrow);clear hgrow hown;go_wp2
    go_roundw
    case rel=>exact ⟨k+1,by omega,by have:=HJ.o; go_num,by rw [HX.o k,HJ.o,HF.o]; simpa [Nat.succ_mul] using hown',G3.o⟩
    case measure=>simp [intOf]; omega
  ·have ek:k=12:=by omega
   subst ek;go_wp2;go_ret;rw [HL.o];exact ⟨_,rfl,by simpa [OC] using hown,HG.o⟩
theorem ykc (w:World) :
  Calls Tryz.prog 86 #[.int .u8 66] w fun e w'=>∃ v,e = .returned v/\w'.ownsRow w.heap.size 3 1 v ((yJ 4).length) ((yJ 4).map (Value.int .i64))/\w.grownBy w' none:=by
 obtain ⟨i0,hi,hz0,hz1,hz2⟩:=info_parts Tryz.iC;have HX:=hid (fun k=>show pK fS 1 (k+1)=pK fS 1 k ++ [((1+k:Nat):Int),fS (1+k)] from rfl);have HL:=hid (show yJ 4=pK fS 1 10 ++ [11,7,12,31] from rfl);go_enter Tryz.func86,Tryz.ntmps86;go_wp2
 go_loopw [3,8] (fun v i wr=>∃ k:Nat,k<=10/\i = .int .i64 ((1+k:Nat):Int)/\wr.ownsRow w.heap.size 3 1 v (k * 2) ((pK fS 1 k).map (Value.int .i64))/\w.grownBy wr none) (fun _ i _=>11 - (intOf i).toNat)
 case atStart=>exact ⟨0,Nat.zero_le _,rfl,World.ownsRow_nil _ _ _ _,World.grownBy.refl _ _⟩
 case round =>
  obtain ⟨k,hk,rfl,hown,hgr⟩:=hrel;have HG:=hid hgr;have hsz:=hgr.size;clear hgr;by_cases hlt:k < 10
  ·generalize hj:1+k=j at *;have HJ:=hid hj;have hj1:j < 11:=by omega
   rcases (show (j < 5)\/(5<=j) from by omega) with c1 | c1
   ·have HF:=hid (show fS j=7+(j:Int) from if_neg (by omega));clear hj;go_wp2_with (at_builtin; refine wpList_append_own _ rfl _ _ 36 rfl w.heap.size 3 i0 (.int .i64 0) 1 8 Tryz.underlying36 hi hz0 hz1 hz2 rfl (by decide) _ _ _ rfl (hown.alloc _) ⟨wr.heap.size,0,none⟩ 2 2 [.int .i64 (j:Int),.int .i64 (7+(j:Int))] rfl rfl (F4 _ _ _) (by intro u hu; simp at hu; first | (subst hu; rfl) | (rcases hu with hu | hu <;> (subst hu; rfl))) (by unfold maxLen; omega) (by omega) (by simp; omega) ?_; intro v' w3 hown' hgrow _)
    have G3:=hid (F6 HG.o hown hgrow);clear hgrow hown;go_wp2
    go_roundw
    case rel=>exact ⟨k+1,by omega,by have:=HJ.o; go_num,by rw [HX.o k,HJ.o,HF.o]; simpa [Nat.succ_mul] using hown',G3.o⟩
    case measure=>simp [intOf]; omega
   ·have HF:=hid (show fS j=20+(j:Int) from if_pos (by omega));clear hj;go_wp2_with (at_builtin; refine wpList_append_own _ rfl _ _ 36 rfl w.heap.size 3 i0 (.int .i64 0) 1 8 Tryz.underlying36 hi hz0 hz1 hz2 rfl (by decide) _ _ _ rfl (hown.alloc _) ⟨wr.heap.size,0,none⟩ 2 2 [.int .i64 (j:Int),.int .i64 (20+(j:Int))] rfl rfl (F4 _ _ _) (by intro u hu; simp at hu; first | (subst hu; rfl) | (rcases hu with hu | hu <;> (subst hu; rfl))) (by unfold maxLen; omega) (by omega) (by simp; omega) ?_; intro v' w3 hown' hgrow _)
    have G3:=hid (F6 HG.o hown hgrow);clear hgrow hown;go_wp2
    go_roundw
    case rel=>exact ⟨k+1,by omega,by have:=HJ.o; go_num,by rw [HX.o k,HJ.o,HF.o]; simpa [Nat.succ_mul] using hown',G3.o⟩
    case measure=>simp [intOf]; omega
  ·have ek:k=10:=by omega
   subst ek;go_wp2_with (at_builtin; refine wpList_append_own _ rfl _ _ 36 rfl w.heap.size 3 i0 (.int .i64 0) 1 8 Tryz.underlying36 hi hz0 hz1 hz2 rfl (by decide) _ _ _ rfl (hown.alloc _) ⟨wr.heap.size,0,none⟩ 4 4 [.int .i64 11,.int .i64 7,.int .i64 12,.int .i64 31] rfl rfl (F4 _ _ _) (by intro u hu; simp at hu; first | (subst hu; rfl) | (rcases hu with hu | hu | hu | hu <;> (subst hu; rfl))) (by unfold maxLen; omega) (by omega) (by simp; omega) ?_; intro v' w3 hown' hgrow _)
   have G3:=hid (F6 HG.o hown hgrow);clear hgrow hown;go_wp2;go_ret;rw [HL.o];exact ⟨_,rfl,by simpa [OC] using hown',G3.o⟩
theorem ykf (w:World) :
  Calls Tryz.prog 86 #[.int .u8 74] w fun e w'=>∃ v,e = .returned v/\w'.ownsRow w.heap.size 3 1 v ((yJ 2).length) ((yJ 2).map (Value.int .i64))/\w.grownBy w' none:=by
 obtain ⟨i0,hi,hz0,hz1,hz2⟩:=info_parts Tryz.iC;have HX:=hid (fun k=>show pK fJ 1 (k+1)=pK fJ 1 k ++ [((1+k:Nat):Int),fJ (1+k)] from rfl);have HL:=hid (show yJ 2=pK fJ 1 19 ++ [20,31] from rfl);go_enter Tryz.func86,Tryz.ntmps86;go_wp2
 go_loopw [3,10] (fun v i wr=>∃ k:Nat,k<=19/\i = .int .i64 ((1+k:Nat):Int)/\wr.ownsRow w.heap.size 3 1 v (k * 2) ((pK fJ 1 k).map (Value.int .i64))/\w.grownBy wr none) (fun _ i _=>20 - (intOf i).toNat)
 case atStart=>exact ⟨0,Nat.zero_le _,rfl,World.ownsRow_nil _ _ _ _,World.grownBy.refl _ _⟩
 case round =>
  obtain ⟨k,hk,rfl,hown,hgr⟩:=hrel;have HG:=hid hgr;have hsz:=hgr.size;clear hgr;by_cases hlt:k < 19
  ·generalize hj:1+k=j at *;have HJ:=hid hj;have hj1:j < 20:=by omega
   rcases (show (j < 11)\/(11<=j/\j<=11)\/(12<=j) from by omega) with c1 | ⟨c1,c2⟩ | c1
   ·have HF:=hid (show fJ j=20+(j:Int) from by unfold fJ; rw [if_neg (by omega),if_neg (by omega)]);clear hj;go_wp2_with (at_builtin; refine wpList_append_own _ rfl _ _ 36 rfl w.heap.size 3 i0 (.int .i64 0) 1 8 Tryz.underlying36 hi hz0 hz1 hz2 rfl (by decide) _ _ _ rfl (hown.alloc _) ⟨wr.heap.size,0,none⟩ 2 2 [.int .i64 (j:Int),.int .i64 (20+(j:Int))] rfl rfl (F4 _ _ _) (by intro u hu; simp at hu; first | (subst hu; rfl) | (rcases hu with hu | hu <;> (subst hu; rfl))) (by unfold maxLen; omega) (by omega) (by simp; omega) ?_; intro v' w3 hown' hgrow _)
    have G3:=hid (F6 HG.o hown hgrow);clear hgrow hown;go_wp2
    go_roundw
    case rel=>exact ⟨k+1,by omega,by have:=HJ.o; go_num,by rw [HX.o k,HJ.o,HF.o]; simpa [Nat.succ_mul] using hown',G3.o⟩
    case measure=>simp [intOf]; omega
   ·have HF:=hid (show fJ j=20 from if_pos (by omega));clear hj;go_wp2_with (at_builtin; refine wpList_append_own _ rfl _ _ 36 rfl w.heap.size 3 i0 (.int .i64 0) 1 8 Tryz.underlying36 hi hz0 hz1 hz2 rfl (by decide) _ _ _ rfl (hown.alloc _) ⟨wr.heap.size,0,none⟩ 2 2 [.int .i64 (j:Int),.int .i64 (20)] rfl rfl (F4 _ _ _) (by intro u hu; simp at hu; first | (subst hu; rfl) | (rcases hu with hu | hu <;> (subst hu; rfl))) (by unfold maxLen; omega) (by omega) (by simp; omega) ?_; intro v' w3 hown' hgrow _)
    have G3:=hid (F6 HG.o hown hgrow);clear hgrow hown;go_wp2
    go_roundw
    case rel=>exact ⟨k+1,by omega,by have:=HJ.o; go_num,by rw [HX.o k,HJ.o,HF.o]; simpa [Nat.succ_mul] using hown',G3.o⟩
    case measure=>simp [intOf]; omega
   ·have HF:=hid (show fJ j=(j:Int) from by unfold fJ; rw [if_neg (by omega),if_pos (by omega)]);clear hj;go_wp2_with (at_builtin; refine wpList_append_own _ rfl _ _ 36 rfl w.heap.size 3 i0 (.int .i64 0) 1 8 Tryz.underlying36 hi hz0 hz1 hz2 rfl (by decide) _ _ _ rfl (hown.alloc _) ⟨wr.heap.size,0,none⟩ 2 2 [.int .i64 (j:Int),.int .i64 ((j:Int))] rfl rfl (F4 _ _ _) (by intro u hu; simp at hu; first | (subst hu; rfl) | (rcases hu with hu | hu <;> (subst hu; rfl))) (by unfold maxLen; omega) (by omega) (by simp; omega) ?_; intro v' w3 hown' hgrow _)
    have G3:=hid (F6 HG.o hown hgrow);clear hgrow hown;go_wp2
    go_roundw
    case rel=>exact ⟨k+1,by omega,by have:=HJ.o; go_num,by rw [HX.o k,HJ.o,HF.o]; simpa [Nat.succ_mul] using hown',G3.o⟩
    case measure=>simp [intOf]; omega
  ·have ek:k=19:=by omega
   subst ek;go_wp2_with (at_builtin; refine wpList_append_own _ rfl _ _ 36 rfl w.heap.size 3 i0 (.int .i64 0) 1 8 Tryz.underlying36 hi hz0 hz1 hz2 rfl (by decide) _ _ _ rfl (hown.alloc _) ⟨wr.heap.size,0,none⟩ 2 2 [.int .i64 20,.int .i64 31] rfl rfl (F4 _ _ _) (by intro u hu; simp at hu; first | (subst hu; rfl) | (rcases hu with hu | hu <;> (subst hu; rfl))) (by unfold maxLen; omega) (by omega) (by simp; omega) ?_; intro v' w3 hown' hgrow _)
   have G3:=hid (F6 HG.o hown hgrow);clear hgrow hown;go_wp2;go_ret;rw [HL.o];exact ⟨_,rfl,by simpa [OC] using hown',G3.o⟩
theorem ykg (w:World) :
  Calls Tryz.prog 86 #[.int .u8 82] w fun e w'=>∃ v,e = .returned v/\w'.ownsRow w.heap.size 3 1 v ((yJ 6).length) ((yJ 6).map (Value.int .i64))/\w.grownBy w' none:=by
 go_enter Tryz.func86,Tryz.ntmps86;go_wp2;go_ret;exact ⟨_,rfl,World.ownsRow_nil _ _ _ _,World.grownBy.refl _ _⟩
theorem ykd (w:World) :
  Calls Tryz.prog 86 #[.int .u8 69] w fun e w'=>∃ v,e = .returned v/\w'.ownsRow w.heap.size 3 1 v ((yJ 7).length) ((yJ 7).map (Value.int .i64))/\w.grownBy w' none:=by
 go_enter Tryz.func86,Tryz.ntmps86;go_wp2;go_ret;exact ⟨_,rfl,World.ownsRow_nil _ _ _ _,World.grownBy.refl _ _⟩
theorem W9 (form:Int) (w:World) (hf:1<=form/\form<=7) :
  Calls Tryz.prog 86 #[.int .u8 (vH form)] w fun e w'=>∃ v,e = .returned v/\w'.ownsRow w.heap.size 3 1 v ((yJ form).length) ((yJ form).map (Value.int .i64))/\w.grownBy w' none:=by
 rcases (show form=1\/form=2\/form=3\/form=4\/form=5\/form=6\/form=7 from by omega) with rfl | rfl | rfl | rfl | rfl | rfl | rfl
 ·exact yki w
 ·exact ykf w
 ·exact yke w
 ·exact ykc w
 ·exact ykh w
 ·exact ykg w
 ·exact ykd w
theorem yga (N a m:Nat):(∀ i,i < m->N / 2 ^ (a+i) % 2=0)↔N / 2 ^ a % 2 ^ m=0:=by
 induction m with
 | zero=>simp [Nat.mod_one]
 | succ m ih =>
  have e:N / 2 ^ a % 2 ^ (m+1)=N / 2 ^ a % 2 ^ m+2 ^ m * (N / 2 ^ (a+m) % 2):=by
   rw [Nat.pow_succ,Nat.mod_mul,Nat.div_div_eq_div_mul,<- Nat.pow_add]
  have hp:0 < 2 ^ m:=Nat.two_pow_pos m;constructor
  ·intro h;rw [e,ih.1 (fun i hi=>h i (by omega)),h m (by omega)];simp
  ·intro h i hi;rw [e] at h;have h1:N / 2 ^ a % 2 ^ m=0:=by omega
   have h2:2 ^ m * (N / 2 ^ (a+m) % 2)=0:=by omega
   rcases (Nat.lt_succ_iff_lt_or_eq.1 hi) with hi | rfl
   ·exact ih.2 h1 i hi
   ·rcases Nat.mul_eq_zero.1 h2 with h | h
    ·omega
    ·exact h
theorem Ue (n:Int) (h0:0<=n) (a m:Nat):(∀ i,i < m->n / 2 ^ (a+i) % 2=0)↔n / 2 ^ a % 2 ^ m=0:=by
 obtain ⟨N,rfl⟩:=Int.eq_ofNat_of_zero_le h0;have e:=yga N a m;have c:∀ k:Nat,((N:Int) / 2 ^ k)=((N / 2 ^ k:Nat):Int):=fun k=>by simp
 constructor
 ·intro h
  have:=e.1 (fun i hi=>by have:=h i hi; rw [c] at this; omega)
  rw [c,show (2:Int) ^ m=((2 ^ m:Nat):Int) from by simp,<- Int.natCast_emod,this];rfl
 ·intro h i hi;rw [c,show (2:Int) ^ m=((2 ^ m:Nat):Int) from by simp,<- Int.natCast_emod] at h
  have:=e.2 (by omega) i hi
  rw [c];omega
def lV (form:Int) (a:Nat):Nat:=((yJ form).getD (a * 2+1) 0).toNat
def p8 (form:Int) (a:Nat):Nat:=((yJ form).getD (a * 2) 0).toNat
def qx (form:Int):Nat:=(yJ form).length / 2
def Jh (form n:Int) (k:Nat):Prop:=∀ a,a < k->n / 2 ^ lV form a % 2=0
theorem Ux (form n:Int) (h0:0<=n) (k a m:Nat) (hk:qx form=k) (h1:∀ i,i < m->∃ x∈List.range k,lV form x=a+i) (h2:∀ x,x < k->∃ i∈List.range m,lV form x=a+i):Jh form n (qx form)↔n / 2 ^ a % 2 ^ m=0:=by
 rw [<- Ue n h0 a m,hk];constructor
 ·intro h i hi;obtain ⟨x,hx,e⟩:=h1 i hi;rw [<- e];exact h x (List.mem_range.1 hx)
 ·intro h x hx;obtain ⟨i,hi,e⟩:=h2 x hx;rw [e];exact h i (List.mem_range.1 hi)
theorem Xc (form n:Int) (h0:0<=n) (k a m b l:Nat) (hk:qx form=k) (h1:∀ i,i < m->∃ x∈List.range k,lV form x=a+i) (h1':∀ i,i < l->∃ x∈List.range k,lV form x=b+i) (h2:∀ x,x < k->(∃ i∈List.range m,lV form x=a+i)\/∃ i∈List.range l,lV form x=b+i):Jh form n (qx form)↔n / 2 ^ a % 2 ^ m=0/\n / 2 ^ b % 2 ^ l=0:=by
 rw [<- Ue n h0 a m,<- Ue n h0 b l,hk];constructor
 ·intro h;refine ⟨fun i hi=>?_,fun i hi=>?_⟩
  ·obtain ⟨x,hx,e⟩:=h1 i hi;rw [<- e];exact h x (List.mem_range.1 hx)
  ·obtain ⟨x,hx,e⟩:=h1' i hi;rw [<- e];exact h x (List.mem_range.1 hx)
 ·rintro ⟨h,h'⟩ x hx;rcases h2 x hx with ⟨i,hi,e⟩ | ⟨i,hi,e⟩
  ·rw [e];exact h i (List.mem_range.1 hi)
  ·rw [e];exact h' i (List.mem_range.1 hi)
theorem yiU (form n:Int) (h0:0<=n) (h1:n<=4294967295) (hf:1<=form/\form<=7):Jh form n (qx form)↔yj form n:=by
 rcases (show form=1\/form=2\/form=3\/form=4\/form=5\/form=6\/form=7 from by omega) with rfl | rfl | rfl | rfl | rfl | rfl | rfl
 ·rw [Ux 1 n h0 20 12 20 (by decide) (by decide) (by decide)];simp [yj]; omega
 ·rw [Ux 2 n h0 20 12 20 (by decide) (by decide) (by decide)];simp [yj]; omega
 ·rw [Ux 3 n h0 12 20 12 (by decide) (by decide) (by decide)];simp [yj]; omega
 ·rw [Xc 4 n h0 12 7 5 25 7 (by decide) (by decide) (by decide) (by decide)];simp [yj]; omega
 ·rw [Xc 5 n h0 12 7 5 25 7 (by decide) (by decide) (by decide) (by decide)];simp [yj]; omega
 ·simp [Jh,qx,yJ,yj]
 ·simp [Jh,qx,yJ,yj]
theorem Wy (form:Int) (hf:1<=form/\form<=7):(yJ form).length=qx form * 2/\qx form<=20/\∀ a,a < qx form->(yJ form).getD (a * 2) 0=(p8 form a:Int)/\(yJ form).getD (a * 2+1) 0=(lV form a:Int)/\p8 form a < wM form/\lV form a<=31:=by
 rcases (show form=1\/form=2\/form=3\/form=4\/form=5\/form=6\/form=7 from by omega) with rfl | rfl | rfl | rfl | rfl | rfl | rfl <;> decide
theorem yiT (form n v:Int) (K a:Nat) (hK:K<=21) (hp:p8 form a < K) (hv0:0<=v) (hv1:v < 2 ^ K) (hv:v=0↔Jh form n a) :
  ∀ x,x=bits .or .i64 v (n / 2 ^ lV form a % 2 * 2 ^ p8 form a)->0<=x/\x < 2 ^ K/\(x=0↔Jh form n (a+1)):=by
 rintro x rfl;have hb:n / 2 ^ lV form a % 2=0\/n / 2 ^ lV form a % 2=1:=by omega
 have hpos:(0:Int) < 2 ^ p8 form a:=Int.pow_pos (by decide);have hle:(2:Int) ^ p8 form a < 2 ^ K:=Int.pow_lt_pow_of_lt (by decide) hp;have hK2:(2:Int) ^ K<=2097152:=by
  have:=Nat.pow_le_pow_right (show 0 < 2 by decide) hK
  rw [show (2:Int) ^ K=((2 ^ K:Nat):Int) from by simp];omega
 have hy:0<=n / 2 ^ lV form a % 2 * 2 ^ p8 form a/\n / 2 ^ lV form a % 2 * 2 ^ p8 form a < 2 ^ K/\(n / 2 ^ lV form a % 2 * 2 ^ p8 form a=0↔n / 2 ^ lV form a % 2=0):=by
  rcases hb with hb | hb <;> rw [hb] <;> simp <;> omega
 have z:=or_zero v (n / 2 ^ lV form a % 2 * 2 ^ p8 form a) hv0 (by omega) hy.1 (by omega);refine ⟨z.1,Jq _ _ K (by omega) hv0 hv1 hy.1 hy.2.1,?_⟩;rw [z.2,hy.2.2,hv];constructor
 ·rintro ⟨h1,h2⟩ i hi;rcases (Nat.lt_succ_iff_lt_or_eq.1 hi) with hi | rfl
  ·exact h1 i hi
  ·exact h2
 ·intro h;exact ⟨fun i hi=>h i (by omega),h a (by omega)⟩
end Go.Proofs.YtnkkepfcpjllmaaGreatDoor
