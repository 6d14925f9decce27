
import Derived.Test.YtpgklkhgfcjceaaGreatDoorV09
set_option maxHeartbeats 16000000
set_option maxRecDepth 100000
namespace Go.Proofs.YtpgklkhgfcjceaaGreatDoor
open Go.RowKit
def xK (l:List UInt8):Prop:=yv (AV l)/\Lk.lN (AV l)=l
theorem OU {l:List UInt8} {o:Lk.Obj} (h:Lk.gW l=some o) (hv:yv o):xK l/\AV l=o:=by
 obtain ⟨hg,rfl⟩:=(Lk.jX l o).1 h;have hz:=hv.1.1;have e:=ypK hg ⟨hz.1,hz.2.1,by omega⟩;unfold xK;rw [e];exact ⟨⟨hv,rfl⟩,rfl⟩
theorem yiS {l:List UInt8} (h:xK l):Lk.gW l=some (AV l):=(Lk.jX l _).2 ⟨KS h.1,h.2.symm⟩
theorem Po {l:List UInt8} (h:xK l):l.length<=65535:=by
 have:=X6 h.1
 rw [h.2] at this;exact this
theorem Sv {l:List UInt8} (h:∀ o,Lk.gW l=some o->¬ yv o):¬ xK l:=fun k=>h _ (yiS k) k.1
def jA (m:List UInt8):List UInt8:=Lk.le m.length 2 ++ m
def VP (ms:List (List UInt8)):List UInt8:=[65,82] ++ (Lk.le ms.length 1 ++ ms.flatMap jA)
def Ae (l:List UInt8) (ms:List (List UInt8)):Prop:=(1<=ms.length/\ms.length<=6)/\(∀ m∈ms,xK m)/\VP ms=l
theorem Xz:¬ xK []:=fun h=>by
 have:=congrArg List.length h.2
 simp [Lk.lN] at this
def Ia (l:List UInt8):Nat->List (List UInt8)×Nat
 | 0=>([],3)
 | k+1=>((Ia l k).1 ++ [EZ l ((Ia l k).2+2) (dR l (Ia l k).2 2).toNat],(Ia l k).2+2+(dR l (Ia l k).2 2).toNat)
def Zq (l:List UInt8):List (List UInt8):=(Ia l (min (dR l 2 1).toNat 6)).1
theorem ymX {l rest:List UInt8} {ms:List (List UInt8)} (h:l.drop 3=ms.flatMap jA ++ rest) (hg:∀ m∈ms,m.length<=65535) (k:Nat) (hk:k<=ms.length) :
  Ia l k=(ms.take k,3+((ms.take k).flatMap jA).length):=by
 induction k with
 | zero=>rfl
 | succ k ih =>
  have hk':k < ms.length:=by omega
  have e:l.drop 3=(ms.take k).flatMap jA ++ (jA ms[k] ++ ((ms.drop (k+1)).flatMap jA ++ rest)):=by
   have e0:ms=ms.take k ++ ms[k] :: ms.drop (k+1):=by rw [<- lV hk',List.take_append_drop]
   rw [h];refine (congrArg (fun z=>List.flatMap jA z ++ rest) e0).trans ?_;simp only [List.flatMap_append,List.flatMap_cons,List.append_assoc]
  have e2:=yN e;have hm:=hg _ (iq hk');unfold jA at e2;rw [List.append_assoc] at e2;have a0:dR l (3+((ms.take k).flatMap jA).length) 2=(ms[k].length:Int):=qQ e2 (by omega) (by simp only [Int.reducePow]; omega);have e3:=yN e2;rw [Lk.aC] at e3;have a1:=Ze e3;simp only [Ia,ih (by omega)];rw [a0,Int.toNat_natCast];refine Prod.ext ?_ ?_
  ·simp only;rw [List.take_succ_eq_append_getElem hk']
   congr 2
  ·simp only;rw [List.take_succ_eq_append_getElem hk',List.flatMap_append,eZ];simp only [List.flatMap_cons,List.flatMap_nil,List.append_nil,jA,eZ,Lk.aC];omega
theorem YQ {l:List UInt8} {ms:List (List UInt8)} (h:Ae l ms):Zq l=ms:=by
 obtain ⟨⟨h1,h2⟩,h3,h4⟩:=h;have d0:l.drop 0=[65,82] ++ (Lk.le ms.length 1 ++ ms.flatMap jA):=by rw [<- h4]; rfl
 have d2:=yN d0;have d3:=yN d2;rw [Lk.aC] at d3;simp only [jm,List.length_nil,Nat.zero_add,Nat.reduceAdd] at d2 d3;have a:dR l 2 1=(ms.length:Int):=qQ d2 (by omega) (by simp only [Int.reducePow]; omega);unfold Zq;rw [a,Int.toNat_natCast,Nat.min_eq_left h2,ymX (rest:=[]) (by rw [List.append_nil]; exact d3) (fun m hm=>Po (h3 m hm)) ms.length (Nat.le_refl _),List.take_length]
theorem Tryz.xQ:(Tryz.prog.info? 9).map (fun i=>(i.zero,i.size,i.bytes))=some (some (.string ⟨#[]⟩),1,16):=by kernel_rfl
theorem ypv {l:List UInt8} {p:Nat} (hp:p<=l.length) (h:xK (Lk.aH l (Lk.rdNum l 2 (p,false)).1.toNat (Lk.rdNum l 2 (p,false)).2).1) :
  ∃ m,Lk.aH l (Lk.rdNum l 2 (p,false)).1.toNat (Lk.rdNum l 2 (p,false)).2=(m,(p+2+m.length,false))/\l.drop p=jA m ++ l.drop (p+2+m.length)/\p+2+m.length<=l.length:=by
 by_cases h1:2<=l.length - p
 ·have e1:Lk.rdNum l 2 (p,false)=(Lk.num ((l.drop p).take 2),(p+2,false)):=by simp [Lk.rdNum,Lk.aH,h1]
  rw [e1] at h ⊢;simp only at h ⊢;have hn:=Lk.num_nonneg ((l.drop p).take 2);have hlen:((l.drop p).take 2).length=2:=by simp; omega
  have hle:=Lk.wV ((l.drop p).take 2);rw [hlen] at hle;obtain ⟨n,hn'⟩:=Int.eq_ofNat_of_zero_le hn;rw [hn'] at h hle ⊢;simp only [Int.toNat_natCast] at h ⊢;by_cases h2:n<=l.length - (p+2)
  ·have hml:((l.drop (p+2)).take n).length=n:=by simp; omega
   have e2:Lk.aH l n (p+2,false)=((l.drop (p+2)).take n,(p+2+n,false)):=by simp [Lk.aH,h2]
   refine ⟨(l.drop (p+2)).take n,by rw [e2,hml],?_,by rw [hml]; omega⟩;rw [hml];unfold jA;rw [hml,hle,List.append_assoc,<- List.drop_drop (i:=n),List.take_append_drop,<- List.drop_drop (i:=2),List.take_append_drop]
  ·have e2:(Lk.aH l n (p+2,false)).1=[]:=by simp [Lk.aH,h2]
   rw [e2] at h;exact absurd h Xz
 ·have e1:Lk.rdNum l 2 (p,false)=(0,(p,true)):=by simp [Lk.rdNum,Lk.aH,h1,Lk.num]
  rw [e1] at h;have e2:(Lk.aH l (0:Int).toNat (p,true)).1=[]:=by simp [Lk.aH]
  rw [e2] at h;exact absurd h Xz
theorem yrG {l m rest:List UInt8} {p:Nat} (hp:p<=l.length) (h:l.drop p=jA m ++ rest) (hm:m.length<=65535):(Lk.aH l (Lk.rdNum l 2 (p,false)).1.toNat (Lk.rdNum l 2 (p,false)).2).1=m:=by
 unfold jA at h;rw [List.append_assoc] at h;obtain ⟨a1,b1,c1,p1,d1⟩:=(Lk.aD l 2).on (st:=(p,false)) hp rfl (x:=(m.length:Int)) ⟨by omega,by simp only [Int.reducePow]; omega⟩ h;rw [a1,Int.toNat_natCast];exact ((Lk.eX l m.length).on p1 b1 (x:=m) rfl d1).1
theorem yig (n:Int) (w:World) :
  Calls Tryz.prog 164 #[.int .i64 n] w fun e w'=>yg e (1<=n/\n<=6)/\w'=w:=by
 go_enter Tryz.func164,Tryz.ntmps164;by_cases h1:1<=n
 ·by_cases h2:n<=6
  ·have d1:decide (1<=n)=true:=by simpa using h1
   have d2:decide (n<=6)=true:=by simpa using h2
   go_wp2;go_ret;exact ⟨yg.yes ⟨h1,h2⟩,rfl⟩
  ·have d1:decide (1<=n)=true:=by simpa using h1
   have d2:decide (n<=6)=false:=by simp; omega
   go_wp2;go_ret;exact ⟨yg.no (fun h=>by omega),rfl⟩
 ·have d1:decide (1<=n)=false:=by simp; omega
  go_wp2;go_ret;exact ⟨yg.no (fun h=>by omega),rfl⟩
theorem yhI (s:ByteArray) (w:World) (ht:dQ w) (hs:s.size<=1048576) :
  Calls Tryz.prog 165 #[.string s] w fun e w'=>yg e (xK (sl s))/\w.grownBy w' none:=by
 have cR:=hid (TY s w ht hs);go_enter Tryz.func165,Tryz.ntmps165;go_wp2_with fail;refine cR.o.mono ?_;rintro e w1 ⟨⟨o,g,hr,hv,rfl,-,-⟩ | ⟨hno,rfl⟩,hq⟩
 ·have H:=hid (OU hr hv).1;have HQ:=hid hq;go_wp2;go_ret;exact ⟨yg.yes H.o,HQ.o⟩
 ·have H:=hid (Sv hno);have HQ:=hid hq;go_wp2;go_ret;exact ⟨yg.no H.o,HQ.o⟩
def vL (ms:List (List UInt8)):List Value:=ms.map (fun m=>Value.string (bs m))
def ymm (l:List UInt8) (base:Nat) (e:Ending) (w':World):Prop :=
 (∃ ms v,Ae l ms/\e = .returned (.tuple #[v,.int .i64 0])/\w'.ownsRow base 9 1 v ms.length (vL ms)) \/
 ((∀ ms,¬ Ae l ms)/\e = .returned (.tuple #[.slice none 0 0,.int .i64 21]))
theorem ylo (s:ByteArray) (w:World) (ht:dQ w) (hs:s.size<=1048576) :
  Calls Tryz.prog 99 #[.string s] w fun e w'=>ymm (sl s) w.heap.size e w'/\w.grownBy w' none:=by
 obtain ⟨i0,hi,hz0,hz1,hz2⟩:=info_parts Tryz.xQ;have HT:=hid ht;clear ht;have hlen:=yq s;have l0:=JZ (sl s) 2 (0,false) (by rw [hlen]; omega);have c0:=fun W b h=>JW b s 0 2 2 rfl false W h hs (Nat.zero_le _) (by omega)
 have HX0:=hid (Lk.eX (sl s) 2);have T0:=hid (show (Lk.aH (sl s) 2 (0,false)).1=[65,82]->Lk.aH (sl s) 2 (0,false)=([65,82],(2,false))/\(sl s).drop 0=[65,82] ++ (sl s).drop 2/\2<=(sl s).length from fun h=>by
  unfold Lk.aH at h ⊢;simp only at h ⊢;by_cases c:2<=(sl s).length - 0
  ·rw [if_pos c] at h ⊢;simp only at h ⊢;refine ⟨by rw [h],?_,by omega⟩;rw [<- h,List.drop_zero,List.take_append_drop]
  ·rw [if_neg c] at h;simp at h)
 have N0:=hid (show ∀ ms,Ae (sl s) ms->(Lk.aH (sl s) 2 (0,false)).1=[65,82] from fun ms h=>(HX0.o.on (st:=(0,false)) (Nat.zero_le _) rfl (x:=[65,82]) (rest:=Lk.le ms.length 1 ++ ms.flatMap jA) rfl (by rw [<- h.2.2]; rfl)).1);clear HX0;rw [hlen] at l0;generalize Lk.aH (sl s) 2 (0,false)=x0 at *;obtain ⟨mk,p0,s0⟩:=x0;simp only at c0 T0 N0 l0;have c1:=fun W b h=>yJ b s p0 1 1 rfl s0 W h hs l0 (by omega)
 have l1:=yC (sl s) 1 (p0,s0) (by rw [hlen]; exact l0);rw [hlen] at l1;have b1:=yP (sl s) 1 (p0,s0);simp only [Int.reducePow] at b1;have T1:=hid (show mk=[65,82]->1<=(Lk.rdNum (sl s) 1 (p0,s0)).1->(Lk.rdNum (sl s) 1 (p0,s0)).2=(3,false)/\(sl s).drop 0=[65,82] ++ (Lk.le (Lk.rdNum (sl s) 1 (p0,s0)).1 1 ++ (sl s).drop 3)/\3<=(sl s).length from fun hm h=>by
  obtain ⟨e,d,hl2⟩:=T0.o hm;simp only [Prod.mk.injEq] at e;obtain ⟨-,rfl,rfl⟩:=e;by_cases c:1<=(sl s).length - 2
  ·have e1:Lk.rdNum (sl s) 1 (2,false)=(Lk.num (((sl s).drop 2).take 1),(3,false)):=by simp [Lk.rdNum,Lk.aH,c]
   rw [e1];have hle:=Lk.wV (((sl s).drop 2).take 1);rw [show (((sl s).drop 2).take 1).length=1 from by simp; omega] at hle;refine ⟨rfl,?_,by omega⟩;simp only;rw [d,hle,show (sl s).drop 3=((sl s).drop 2).drop 1 from by rw [List.drop_drop],List.take_append_drop]
  ·have e1:Lk.rdNum (sl s) 1 (2,false)=(0,(2,true)):=by simp [Lk.rdNum,Lk.aH,c,Lk.num]
   rw [e1] at h;simp at h)
 have N1:=hid (show ∀ ms,Ae (sl s) ms->(Lk.rdNum (sl s) 1 (p0,s0)).1=(ms.length:Int) from fun ms h=>by
  obtain ⟨e,d,hl2⟩:=T0.o (N0.o ms h);simp only [Prod.mk.injEq] at e;obtain ⟨-,rfl,rfl⟩:=e;have d0:(sl s).drop 0=[65,82] ++ (Lk.le ms.length 1 ++ ms.flatMap jA):=by rw [<- h.2.2]; rfl
  exact ((Lk.aD (sl s) 1).on (st:=(2,false)) hl2 rfl (x:=(ms.length:Int)) (rest:=ms.flatMap jA) ⟨by omega,by have:=h.1.2; simp only [Int.reducePow]; omega⟩ (yN d0)).1)
 generalize Lk.rdNum (sl s) 1 (p0,s0)=x1 at *;obtain ⟨cnt,p1,s1⟩:=x1;simp only at c1 T1 N1 l1 b1;have C0:=hid c0;have C1:=hid c1;clear c0 c1;have Ep:=hid hlen;clear hlen;have cV:=hid (fun W=>yig cnt W);go_enter Tryz.func99,Tryz.ntmps99;go_wp2_with fail;refine (Sw s w).mono ?_;rintro e W1 ⟨rfl,g1⟩;have R:bF (W1.alloc (.cells #[.string s,.int .i64 0,.bool false] 83)) W1.heap.size s 0 false:=heap_alloc_new W1 _;have HR:=hid R;have G1:=hid (ya g1 (aJ W1 (.cells #[.string s,.int .i64 0,.bool false] 83) none));have hbw:w.heap.size<=W1.heap.size:=g1.size;clear R g1;generalize hb:W1.heap.size=b at *;go_wp2_with fail
 refine (C0.o _ b HR.o).mono ?_;rintro e W2 ⟨rfl,r2,g2⟩;have R2:=hid r2;have G2:=hid (JM G1.o g2 hbw);clear r2 g2 HR G1 hb;go_wp2_with fail;refine (C1.o _ b R2.o).mono ?_;rintro e W3 ⟨rfl,r3,g3⟩;have R3:=hid r3;have G3:=hid (JM G2.o g3 hbw);clear r3 g3 R2 G2;have Vt:=hid (yH mk);by_cases c:mk=[65,82]
 rotate_left
 ·have d:((bs mk).toList == [65,82])=false:=by rw [Vt.o,beq_eq_false_iff_ne]; exact c
  have CC:=hid c;clear c;go_wp2;go_ret2;exact ⟨.inr ⟨fun ms h=>CC.o (N0.o ms h),rfl⟩,G3.o⟩
 have d:((bs mk).toList == [65,82])=true:=by rw [Vt.o,beq_iff_eq]; exact c
 have CC:=hid c;clear c;go_wp2_with fail;refine (cV.o _).mono ?_;rintro e W4 ⟨t,rfl⟩;rcases t.split with ⟨rfl,pv⟩ | ⟨rfl,pv⟩ <;> clear t
 ·go_wp2;go_ret2;exact ⟨.inr ⟨fun ms h=>pv.o (by rw [N1.o ms h]; have:=h.1; omega),rfl⟩,G3.o⟩
 obtain ⟨hst,hd,hl3⟩:=T1.o CC.o pv.o.1;simp only [Prod.mk.injEq] at hst;obtain ⟨rfl,rfl⟩:=hst;obtain ⟨n,rfl⟩:=Int.eq_ofNat_of_zero_le b1.1;have HPV:=hid pv.o;have hn6:n<=6:=by have:=pv.o.2; omega
 have Vl:=hid N1.o;have A3:=hid (show ∀ ms,Ae (sl s) ms->ms.length=n/\∃ ms',ms=[] ++ ms'/\(sl s).drop 3=ms'.flatMap jA from fun ms h=>by
  refine ⟨by have:=Vl.o ms h; omega,ms,rfl,?_⟩;have d0:(sl s).drop 0=[65,82] ++ (Lk.le ms.length 1 ++ ms.flatMap jA):=by rw [<- h.2.2]; rfl
  have:=yN (yN d0)
  rw [Lk.aC] at this;exact this)
 have HD:=hid hd;clear hd hl3 pv N1 Vl T0 T1 N0 C0 C1;have hbs:W4.heap.size<=W4.heap.size:=Nat.le_refl _;have hblt:b < W4.heap.size:=R3.o.lt;have hw4:w.heap.size<=W4.heap.size:=G3.o.size;go_wp2
 go_loopw [7,8] (fun v i wr=>∃ (k:Nat) (acc:List (List UInt8)) (p:Nat),k<=n/\i = .int .i64 k/\acc.length=k/\p<=s.size /\
   wr.ownsRow W4.heap.size 9 1 v k (vL acc)/\bF wr b s p false/\w.grownBy wr none/\W4.heap.size<=wr.heap.size/\(∀ m∈acc,xK m)/\(sl s).drop 3=acc.flatMap jA ++ (sl s).drop p /\
   ∀ ms,Ae (sl s) ms->ms.length=n/\∃ ms',ms=acc ++ ms'/\(sl s).drop p=ms'.flatMap jA) (fun _ i _=>n - (intOf i).toNat)
 case atStart=>exact ⟨0,[],3,Nat.zero_le _,rfl,rfl,l1,World.ownsRow_nil _ _ _ _,R3.o,G3.o,Nat.le_refl _,by simp,by simp,A3.o⟩
 case round =>
  obtain ⟨k,acc,p,hk,rfl,hacc,hp,hown,hrd,hgr,hsz,hall,hdr,har⟩:=hrel;have uM:=hid hacc;have Er:=hid hrd;have HG:=hid hgr;have Lh:=hid hall;have HDR:=hid hdr;have Qu:=hid har;clear hacc hrd hgr hall hdr har;by_cases hlt:k < n
  ·have hlt':(k:Int) < (n:Int):=by omega
   have hstep:=hid (fun h=>ypv (l:=sl s) (p:=p) (by rw [Ep.o]; exact hp) h);have hon:=hid (fun (m rest:List UInt8) h hm=>yrG (l:=sl s) (m:=m) (rest:=rest) (p:=p) (by rw [Ep.o]; exact hp) h hm);have k0:=hid (fun W h=>yJ b s p 2 2 rfl false W h hs hp (by omega));have r0:=yP (sl s) 2 (p,false);have q0:=yC (sl s) 2 (p,false) (by rw [Ep.o]; exact hp);rw [Ep.o] at q0;simp only [Int.reducePow] at r0;generalize Lk.rdNum (sl s) 2 (p,false)=y0 at *;obtain ⟨len,p2,s2⟩:=y0;simp only at k0 r0 q0 hstep hon;obtain ⟨len,rfl⟩:=Int.eq_ofNat_of_zero_le r0.1;simp only [Int.toNat_natCast] at hstep hon;have k1:=hid (fun W h=>JW b s p2 len (len:Int) rfl s2 W h hs q0 (by omega))
   have q1:=JZ (sl s) len (p2,s2) (by rw [Ep.o]; exact q0);rw [Ep.o] at q1;have q2:(Lk.aH (sl s) len (p2,s2)).1.length<=65535:=by
    unfold Lk.aH;split
    ·simp only [List.length_take]; omega
    ·simp
   generalize Lk.aH (sl s) len (p2,s2)=y1 at *;obtain ⟨m,p3,s3⟩:=y1;simp only at k1 q1 q2 hstep hon;go_wp2_with fail;refine (k0.o _ Er.o).mono ?_;rintro e U1 ⟨rfl,r1,g1⟩;have RA:=hid r1;have GA:=hid (JM HG.o g1 hbw);have hown1:=JU hown hblt g1;have hsz1:=Nat.le_trans hsz g1.size;clear r1 g1 hown hsz Er HG k0;go_wp2_with fail;refine (k1.o _ RA.o).mono ?_;rintro e U2 ⟨rfl,r1,g1⟩;have RB:=hid r1;have GB:=hid (JM GA.o g1 hbw);have hown2:=JU hown1 hblt g1;have hsz2:=Nat.le_trans hsz1 g1.size;clear r1 g1 hown1 hsz1 RA GA k1;have cO:=hid (yhI (bs m) U2 (HT.o.grown GB.o) (by show m.length<=1048576; omega))
   rw [Gx] at cO;go_wp2_with fail;refine cO.o.mono ?_;rintro e U3 ⟨t,g1⟩;have RC:=hid (RB.o.grown g1 (by simp));have GC:=hid (ya GB.o g1);have hown3:=hown2.kept g1 (by cases (Value.ownBlock _) <;> simp);have aam:=Nat.le_trans hsz2 g1.size;rcases t.split with ⟨rfl,pv⟩ | ⟨rfl,pv⟩ <;> clear t g1 hown2 hsz2 RB GB cO
   ·have NA:=hid (show ∀ ms,¬ Ae (sl s) ms from fun ms h=>by
     obtain ⟨h1,ms',h2,h3⟩:=Qu.o ms h;have h4:=uM.o
     match ms',h2,h3 with
     | [],h2,_=>rw [h2] at h1; simp at h1; omega
     | m' :: FY,h2,h3 =>
      have hm':xK m':=h.2.1 m' (by rw [h2]; simp);have e:=hon.o m' (FY.flatMap jA) (by rw [h3]; rfl) (Po hm');subst e;exact pv.o hm')
    clear pv;go_wp2;go_ret2;exact ⟨.inr ⟨NA.o,rfl⟩,GC.o⟩
   ·obtain ⟨m',he,hdp,hle⟩:=hstep.o pv.o;simp only [Prod.mk.injEq] at he;obtain ⟨rfl,rfl,rfl⟩:=he;rw [Ep.o] at hle;have Vd:=hid hdp;have QB:=hid pv.o;have Qv:=hid (show ∀ ms,Ae (sl s) ms->ms.length=n/\∃ ms',ms=(acc ++ [m]) ++ ms'/\(sl s).drop (p+2+m.length)=ms'.flatMap jA from fun ms h=>by
     obtain ⟨h1,ms',h2,h3⟩:=Qu.o ms h;refine ⟨h1,?_⟩;have h4:=uM.o
     match ms',h2,h3 with
     | [],h2,_=>rw [h2] at h1; simp at h1; omega
     | m' :: FY,h2,h3 =>
      have hm':xK m':=h.2.1 m' (by rw [h2]; simp);have e:=hon.o m' (FY.flatMap jA) (by rw [h3]; rfl) (Po hm');subst e;refine ⟨FY,by rw [h2]; simp,?_⟩;rw [Vd.o] at h3;exact List.append_cancel_left h3)
    clear pv hdp hstep hon;have BJ:acc.length<=6:=by have:=uM.o; omega
    go_wp2_with (at_builtin; refine wpList_append_own _ rfl _ _ 29 rfl W4.heap.size 9 i0 (.string ⟨#[]⟩) 1 16 Tryz.underlying29 hi hz0 hz1 hz2 rfl (by decide) _ _ _ rfl (hown3.alloc _) ⟨U3.heap.size,0,none⟩ 1 1 [.string (bs m)] rfl rfl (cell_one_new _ _ _) (by intro u hu; simp at hu; subst hu; rfl) (by unfold maxLen; omega) (by omega) (by simp; omega) ?_; intro v' w3 hown' hgrow _)
    have K1:=hid (show w3.ownsRow W4.heap.size 9 1 v' (k+1) (vL (acc ++ [m])) from by unfold vL; rw [List.map_append]; exact hown');have K2:=hid ((RC.o.grown (aJ _ _ none) (by simp)).grown hgrow (fun e=>by have:=(hown3.lt b e.symm).1; omega));have K3:=hid (show w.grownBy w3 none from by
     cases oz:Value.ownBlock _ with
     | none=>rw [oz] at hgrow; exact ya (ya GC.o (aJ _ _ none)) hgrow
     | some bb=>rw [oz] at hgrow; exact JM (ya GC.o (aJ _ _ none)) hgrow (by have:=(hown3.lt bb oz).1; omega))
    have K4:=hid (show W4.heap.size<=w3.heap.size from by have:=hgrow.size; simp at this; omega);clear hgrow hown' hown3;go_wp2
    go_roundw
    case rel=>exact ⟨k+1,acc ++ [m],p+2+m.length,by omega,by go_num,by simp [uM.o],hle,K1.o,K2.o,K3.o,K4.o,fun x hx=>(List.mem_append.1 hx).elim (Lh.o x) (fun h=>by rw [List.mem_singleton.1 h]; exact QB.o),by rw [HDR.o,Vd.o]; simp,Qv.o⟩
    case measure=>simp [intOf]; omega
  ·obtain rfl:k=n:=by omega
   have cD:=hid (TS b s p false wr Er.o);go_wp2_with fail;refine cD.o.mono ?_;rintro e U1 ⟨he,kd,rfl⟩;by_cases c:p=s.size
   ·rw [show (!false && decide (p=s.size))=true from by simp [c]] at he;subst he;have AR:=hid (show Ae (sl s) acc from ⟨by have:=HPV.o; have:=uM.o; omega,Lh.o,by
     have e1:=HDR.o;have e0:(sl s).drop p=[]:=List.drop_of_length_le (by rw [Ep.o]; omega);rw [e0,List.append_nil] at e1;unfold VP;rw [<- e1,uM.o];exact HD.o.symm⟩)
    have HO:=hid (yX hown hw4);obtain ⟨av,cv,rfl⟩:=yi hown;clear c hown;go_wp2;go_ret2;refine ⟨.inl ⟨acc,_,AR.o,rfl,?_⟩,yf HG.o _⟩;rw [uM.o];exact HO.o.kept (yf (World.grownBy.refl _ none) kd) (by cases (Value.ownBlock _) <;> simp)
   ·rw [show (!false && decide (p=s.size))=false from by simp [c]] at he;subst he;have NA:=hid (show ∀ ms,¬ Ae (sl s) ms from fun ms h=>by
     obtain ⟨h1,ms',h2,h3⟩:=Qu.o ms h;have h4:=uM.o;rw [h2] at h1;simp only [eZ] at h1;have h5:ms'=[]:=List.eq_nil_of_length_eq_zero (by omega);rw [h5] at h3;have h6:=congrArg List.length h3;simp only [List.flatMap_nil,List.length_nil,List.length_drop,Ep.o] at h6;omega)
    clear c;go_wp2;go_ret2;exact ⟨.inr ⟨NA.o,rfl⟩,yf HG.o _⟩
theorem ynY (a:Int) (w:World):Calls Tryz.prog 80 #[.int .i64 a] w fun e w'=>yg e (Im.Base a)/\w'=w:=by
 by_cases h1:4096<=a
 ·by_cases h2:a < 1073741824
  ·exact O8 a w (by omega) (by omega)
  ·have N:=hid (show ¬ Im.Base a from fun h=>h2 h.1.2);have d1:decide (4096<=a)=true:=by simpa using h1
   have d2:decide (a < 1073741824)=false:=by simpa using h2
   go_enter Tryz.func80,Tryz.ntmps80;go_wp2;go_ret;exact ⟨yg.no N.o,rfl⟩
 ·have N:=hid (show ¬ Im.Base a from fun h=>h1 h.1.1);have d1:decide (4096<=a)=false:=by simpa using h1
  go_enter Tryz.func80,Tryz.ntmps80;go_wp2;go_ret;exact ⟨yg.no N.o,rfl⟩
open Classical in
noncomputable def pO (bt bf bd:Int):Ln.qN:=if ¬ Im.Base bt then ⟨30,0,[]⟩ else if ¬ Im.Base bf then ⟨30,1,[]⟩ else if ¬ Im.Base bd then ⟨30,2,[]⟩ else Ln.ok
theorem yhJ (bt bf bd:Int) (w:World) :
  Calls Tryz.prog 63 #[.agg #[.int .i64 bt,.int .i64 bf,.int .i64 bd]] w fun e w'=>e = .returned (fQ (pO bt bf bd))/\w.grownBy w' none:=by
 have cB:=hid (fun a W=>ynY a W);have hs1:(w.alloc (.cells #[.int .i64 bt,.int .i64 bf,.int .i64 bd] 33)).heap.size=w.heap.size+1:=Array.size_push _;have G1:=hid (ya (aJ w (.cells #[.int .i64 bt,.int .i64 bf,.int .i64 bd] 33) none) (aJ (w.alloc (.cells #[.int .i64 bt,.int .i64 bf,.int .i64 bd] 33)) (.cells #[.int .i64 0,.int .i64 0,.string ⟨#[]⟩] 45) none));have B1:=hid (yc.new (w.alloc (.cells #[.int .i64 bt,.int .i64 bf,.int .i64 bd] 33)) #[.int .i64 0,.int .i64 0,.string ⟨#[]⟩] 45);rw [hs1] at B1;clear hs1;go_enter Tryz.func63,Tryz.ntmps63;go_wp2;generalize (w.alloc (.cells #[.int .i64 bt,.int .i64 bf,.int .i64 bd] 33)).alloc (.cells #[.int .i64 0,.int .i64 0,.string ⟨#[]⟩] 45)=W1 at *
 go_loopw [12] (fun i wr=>∃ k:Nat,k<=3/\i = .int .i64 k/\wr=W1/\(0 < k->Im.Base bt)/\(1 < k->Im.Base bf)/\(2 < k->Im.Base bd)) (fun i _=>3 - (intOf i).toNat)
 case atStart=>exact ⟨0,by omega,rfl,rfl,fun c=>by omega,fun c=>by omega,fun c=>by omega⟩
 case round =>
  obtain ⟨k,hk,rfl,rfl,p0,p1,p2⟩:=hrel;have z0:wr.cell? ⟨w.heap.size+1,0,none⟩=some (.int .i64 0):=B1.o.cell 0;have z1:wr.cell? ⟨w.heap.size+1,1,none⟩=some (.int .i64 0):=B1.o.cell 1;have z2:wr.cell? ⟨w.heap.size+1,2,none⟩=some (.string ⟨#[]⟩):=B1.o.cell 2;have f0:=B1.o.free 0;have f1:=B1.o.free 1;have f2:=B1.o.free 2;rcases (show k=0\/k=1\/k=2\/k=3 by omega) with rfl | rfl | rfl | rfl
  ·have cK:=hid (cB.o bt);rw [show ((0:Nat):Int)=0 from rfl];have ix:∀ W:World,Sem.run Tryz.prog (Instr.index 155 (.agg #[.int .i64 bt,.int .i64 bf,.int .i64 bd]) (.int .i64 0)) W = .ok (.int .i64 bt) W:=fun _=>by kernel_rfl
   go_wp2_with fail;refine (cK.o _).mono ?_;rintro e V ⟨ht,hV⟩;subst hV;rcases ht.split with ⟨rfl,hn⟩ | ⟨rfl,hy⟩
   ·have E:=hid (show pO bt bf bd=⟨30,0,[]⟩ by unfold pO; rw [if_pos hn.o]);go_wp2;have F:=((B1.o.set 0 (.int .i64 30)).set 1 (.int .i64 0)).set 2 (.string ⟨#[]⟩);have h0:=F.cell 0;have h1:=F.cell 1;have h2:=F.cell 2;simp only [gu,fZ,gq,bI,bN,bK] at h0 h1 h2;refine bodyPost_ret (v:=fQ ⟨30,0,[]⟩) ?_ rfl ⟨by rw [E.o],yz G1.o _ (by omega) _ _ _⟩;clear F z0 z1 z2 f0 f1 f2;generalize World.setCell _ _ _=WF at *;simp [results,Tryz.results63,go_sem,fQ,bs,h0,h1,h2]
   ·go_wp2
    go_roundw
    case rel=>exact ⟨1,by omega,by go_num,trivial,fun _=>hy.o,fun c=>by omega,fun c=>by omega⟩
    case measure=>simp [intOf]
  ·have cK:=hid (cB.o bf);rw [show ((1:Nat):Int)=1 from rfl];have ix:∀ W:World,Sem.run Tryz.prog (Instr.index 155 (.agg #[.int .i64 bt,.int .i64 bf,.int .i64 bd]) (.int .i64 1)) W = .ok (.int .i64 bf) W:=fun _=>by kernel_rfl
   go_wp2_with fail;refine (cK.o _).mono ?_;rintro e V ⟨ht,hV⟩;subst hV;rcases ht.split with ⟨rfl,hn⟩ | ⟨rfl,hy⟩
   ·have E:=hid (show pO bt bf bd=⟨30,1,[]⟩ by unfold pO; rw [if_neg (fun c=>c (p0 (by omega)))]; rw [if_pos hn.o]);go_wp2;have F:=((B1.o.set 0 (.int .i64 30)).set 1 (.int .i64 1)).set 2 (.string ⟨#[]⟩);have h0:=F.cell 0;have h1:=F.cell 1;have h2:=F.cell 2;simp only [gu,fZ,gq,bI,bN,bK] at h0 h1 h2;refine bodyPost_ret (v:=fQ ⟨30,1,[]⟩) ?_ rfl ⟨by rw [E.o],yz G1.o _ (by omega) _ _ _⟩;clear F z0 z1 z2 f0 f1 f2;generalize World.setCell _ _ _=WF at *;simp [results,Tryz.results63,go_sem,fQ,bs,h0,h1,h2]
   ·go_wp2
    go_roundw
    case rel=>exact ⟨2,by omega,by go_num,trivial,fun _=>p0 (by omega),fun _=>hy.o,fun c=>by omega⟩
    case measure=>simp [intOf]
  ·have cK:=hid (cB.o bd);rw [show ((2:Nat):Int)=2 from rfl];have ix:∀ W:World,Sem.run Tryz.prog (Instr.index 155 (.agg #[.int .i64 bt,.int .i64 bf,.int .i64 bd]) (.int .i64 2)) W = .ok (.int .i64 bd) W:=fun _=>by kernel_rfl
   go_wp2_with fail;refine (cK.o _).mono ?_;rintro e V ⟨ht,hV⟩;subst hV;rcases ht.split with ⟨rfl,hn⟩ | ⟨rfl,hy⟩
   ·have E:=hid (show pO bt bf bd=⟨30,2,[]⟩ by unfold pO; rw [if_neg (fun c=>c (p0 (by omega))),if_neg (fun c=>c (p1 (by omega)))]; rw [if_pos hn.o]);go_wp2;have F:=((B1.o.set 0 (.int .i64 30)).set 1 (.int .i64 2)).set 2 (.string ⟨#[]⟩);have h0:=F.cell 0;have h1:=F.cell 1;have h2:=F.cell 2;simp only [gu,fZ,gq,bI,bN,bK] at h0 h1 h2;refine bodyPost_ret (v:=fQ ⟨30,2,[]⟩) ?_ rfl ⟨by rw [E.o],yz G1.o _ (by omega) _ _ _⟩;clear F z0 z1 z2 f0 f1 f2;generalize World.setCell _ _ _=WF at *;simp [results,Tryz.results63,go_sem,fQ,bs,h0,h1,h2]
   ·go_wp2
    go_roundw
    case rel=>exact ⟨3,by omega,by go_num,trivial,fun _=>p0 (by omega),fun _=>p1 (by omega),fun _=>hy.o⟩
    case measure=>simp [intOf]
  ·have E:=hid (show pO bt bf bd=Ln.ok by unfold pO; rw [if_neg (fun c=>c (p0 (by omega))),if_neg (fun c=>c (p1 (by omega))),if_neg (fun c=>c (p2 (by omega)))]);go_wp2;have F:=((B1.o.set 0 (.int .i64 0)).set 1 (.int .i64 0)).set 2 (.string ⟨#[]⟩);have h0:=F.cell 0;have h1:=F.cell 1;have h2:=F.cell 2;simp only [gu,fZ,gq,bI,bN,bK] at h0 h1 h2;refine bodyPost_ret (v:=fQ Ln.ok) ?_ rfl ⟨by rw [E.o],yz G1.o _ (by omega) _ _ _⟩;clear F z0 z1 z2 f0 f1 f2;generalize World.setCell _ _ _=WF at *;simp [results,Tryz.results63,go_sem,fQ,Ln.ok,bs,h0,h1,h2]
def uG (l:List UInt8) (a:Bool) (os:List Lk.Obj):Prop :=
 (a=false/\xK l/\os=[AV l])\/(a=true/\¬ xK l/\∃ ms,Ae l ms/\os=ms.map AV)
def NJ (l:List UInt8):Prop:=¬ xK l/\∀ ms,¬ Ae l ms
def pK (os:List Lk.Obj):List (Lk.Obj×Bool):=os.map fun o=>(o,false)
theorem Tryz.wS:(Tryz.prog.info? 159).map (fun i=>(i.zero,i.size,i.bytes))=some (some (.agg #[.pointer none,.bool false]),2,16):=by kernel_rfl
def ZK (W:World) (B:Nat) (v:Value) (a:Bool) (os:List Lk.Obj):Prop :=
 ∃ mg cap gs,v = .agg #[.bool a,.slice (some ⟨mg,0,none⟩) os.length cap]/\B<=mg/\rR W mg gs (pK os)/\os.length<=cap/\cap<=maxLen
def ykQ (B:Nat) (l:List UInt8) (e:Ending) (w':World):Prop :=
 (∃ v a os,uG l a os/\e = .returned (.tuple #[v,.bool true])/\ZK w' B v a os)\/(NJ l/\e = .returned (.tuple #[.agg #[.bool false,.slice none 0 0],.bool false]))
theorem Uw {w V:World} (h:w.grownBy V none) (r:Nat) (hr:w.heap.size<=r) (a b:Value):w.grownBy ((V.setCell ⟨r,0,none⟩ a).setCell ⟨r,1,none⟩ b) none :=
 yO (yO h (ye V r 0 a) (by intro k e; simp at e; omega)) (ye _ r 1 b) (by intro k e; simp at e; omega)
theorem ZG {V:World} {r:Nat} {cs:Array Value} {t:TypeId} (hb:yc V r cs t) (a b:Value):nC [t] V ((V.setCell ⟨r,0,none⟩ a).setCell ⟨r,1,none⟩ b) :=
 (nC.row (ye V r 0 a) (bR.blk hb) (by simp)).trans (nC.row (ye _ r 1 b) (bR.blk (hb.set 0 a)) (by simp))
theorem ysr (V:World) (r:Nat) (a b:Value):((V.setCell ⟨r,0,none⟩ a).setCell ⟨r,1,none⟩ b).heap.size=V.heap.size:=by simp [World.setCell]
def qE (gs:List Nat):List Value:=gs.flatMap fun g=>[aW g,.bool false]
theorem ypt:∀ (gs:List Nat) (i:Nat) (h:i < gs.length),(qE gs)[i * 2]?=some (aW gs[i])/\(qE gs)[i * 2+1]?=some (.bool false):=by
 intro gs
 induction gs with
 | nil=>intro i h; simp at h
 | cons g gs ih =>
  intro i h
  cases i with
  | zero=>exact ⟨rfl,rfl⟩
  | succ i =>
   have:=ih i (by simpa using h)
   have e:qE (g :: gs)=aW g :: .bool false :: qE gs:=rfl;rw [e,show (i+1) * 2=i * 2+1+1 by omega];simp only [bN,pz];exact this
theorem yol (gs:List Nat) (g:Nat):qE gs ++ [aW g,.bool false]=qE (gs ++ [g]):=by simp [qE]
theorem ysq (U:World) (g:Nat):∀ j u,[aW g,Value.bool false][j]?=some u->(U.alloc (.cells #[aW g,.bool false] 159)).cell? ((⟨U.heap.size,0,none⟩:Addr).add j)=some u:=by
 intro j u hu;have e:(⟨U.heap.size,0,none⟩:Addr).add j=⟨U.heap.size,j,none⟩:=by
  unfold Addr.add;by_cases h0:j=0
  ·subst h0; simp
  ·simp [h0]
 rw [e,(yc.new U #[aW g,.bool false] 159).cell j];simpa using hu
theorem XW {W:World} {mg:Nat} {gs:List Nat} {os:List Lk.Obj} {cur:Array Value} (hb:yc W mg cur 159) (ht:cur.toList.take (gs.length * 2)=qE gs) (hl:gs.length=os.length) (ho:∀ i (h:i < os.length),yu W (gs[i]'(by rw [hl]; exact h)) os[i]) (hs:∀ o∈os,o.syms.length<=65535):rR W mg gs (pK os):=by
 have fl:(pK os).length=os.length:=by simp [pK]
 refine ⟨by rw [fl]; exact hl,⟨cur,hb,fun i hi=>?_⟩,fun i hi=>?_,fun m hm=>?_⟩
 ·rw [fl] at hi;have hi2:i < gs.length:=by omega
  obtain ⟨q0,q1⟩:=ypt gs i hi2;rw [<- ht,List.getElem?_take,if_pos (by omega)] at q0;rw [<- ht,List.getElem?_take,if_pos (by omega)] at q1;have e:(pK os)[i]'(by rw [fl]; exact hi)=(os[i],false):=by simp [pK]
  rw [e];exact ⟨by simpa using q0,by simpa using q1⟩
 ·rw [fl] at hi;have e:(pK os)[i]'(by rw [fl]; exact hi)=(os[i],false):=by simp [pK]
  rw [e];exact ho i hi
 ·simp only [pK,List.mem_map] at hm;obtain ⟨o,ho',rfl⟩:=hm;exact hs o ho'
theorem ykl (s:ByteArray) (w:World) (ht:dQ w) (hs:s.size<=1048576) :
  Calls Tryz.prog 64 #[.string s] w fun e w'=>ykQ w.heap.size (sl s) e w'/\w.grownBy w' none:=by
 have G0:=hid (aJ w (.cells #[.bool false,.slice none 0 0] 117) none);have B0:=hid (yc.new w #[.bool false,.slice none 0 0] 117);have cR:=hid (fun W (hg:w.grownBy W none)=>TY s W (ht.grown hg) hs);have cM:=hid (fun W (hg:w.grownBy W none)=>ylo s W (ht.grown hg) hs);have HT:=hid ht;clear ht;go_enter Tryz.func64,Tryz.ntmps64;go_wp2_with fail;refine (cR.o _ G0.o).mono ?_;rintro e W1 ⟨hr,hg1⟩;have G1:=hid (ya G0.o hg1);have B1:=hid (B0.o.grown hg1 (by simp));clear hg1;have z0:W1.cell? ⟨w.heap.size,0,none⟩=some (.bool false):=B1.o.cell 0;have z1:W1.cell? ⟨w.heap.size,1,none⟩=some (.slice none 0 0):=B1.o.cell 1
 have f0:=B1.o.free 0;have f1:=B1.o.free 1;have hlt:=B1.o.lt;rcases hr with ⟨o,g,h1,h2,rfl,h3,h4⟩ | ⟨h1,rfl⟩
 ·have HO:=hid h3;have HI:=hid (OU h1 h2);have hne:w.heap.size≠W1.heap.size:=by omega
  have hsy:o.syms.length<=65535:=(Nn (KS h2)).1.2.2.2.2.1;clear h1 h2 h3 cM cR;go_wp2;have F2:=ZG B1.o (.bool false) (.slice (some ⟨W1.heap.size,0,none⟩) 1 1);have GF:=Uw G1.o w.heap.size (Nat.le_refl _) (.bool false) (.slice (some ⟨W1.heap.size,0,none⟩) 1 1);have SZ:=ysr W1 w.heap.size (.bool false) (.slice (some ⟨W1.heap.size,0,none⟩) 1 1);have BR:=(B1.o.set 0 (.bool false)).set 1 (.slice (some ⟨W1.heap.size,0,none⟩) 1 1);have DV:=F2.obj HO.o (by decide) (by decide) (by decide) (by decide);generalize (W1.setCell ⟨w.heap.size,0,none⟩ (.bool false)).setCell ⟨w.heap.size,1,none⟩ (.slice (some ⟨W1.heap.size,0,none⟩) 1 1)=V at *
  have AL:=aJ V (.cells #[.pointer (some ⟨g,0,none⟩),.bool false] 159) none;have BN:=yc.new V #[.pointer (some ⟨g,0,none⟩),.bool false] 159;rw [SZ] at BN;have vV:=BR.grown AL (by simp);have h0:=vV.cell 0;have h1:=vV.cell 1;simp only [gu,fZ,gq,bI,bN,bK] at h0 h1;have MM:rR (V.alloc (.cells #[.pointer (some ⟨g,0,none⟩),.bool false] 159)) W1.heap.size [g] (pK [o]):=XW BN rfl rfl (fun i hi=>by
   obtain rfl:i=0:=by simp at hi; omega
   exact DV.kept AL) (fun x hx=>by simp at hx; subst hx; exact hsy)
  refine bodyPost_ret (v:=.tuple #[.agg #[.bool false,.slice (some ⟨W1.heap.size,0,none⟩) 1 1],.bool true]) ?_ rfl ⟨.inl ⟨_,false,[o],.inl ⟨rfl,HI.o.1,by rw [HI.o.2]⟩,rfl,W1.heap.size,1,[g],rfl,by omega,MM,by simp,by decide⟩,ya GF AL⟩;clear MM vV BR AL F2 GF BN z0 z1 f0 f1;generalize World.alloc _ _=WF at *;simp [results,Tryz.results64,go_sem,h0,h1]
 ·have HI:=hid (Sv h1);clear h1 cR;go_wp2_with fail;refine (cM.o _ G1.o).mono ?_;rintro e W2 ⟨hm,hg2⟩;have G2:=hid (ya G1.o hg2);have B2:=hid (B1.o.grown hg2 (by simp));clear z0 z1 f0 f1 cM;have z0:W2.cell? ⟨w.heap.size,0,none⟩=some (.bool false):=B2.o.cell 0;have z1:W2.cell? ⟨w.heap.size,1,none⟩=some (.slice none 0 0):=B2.o.cell 1;have f0:=B2.o.free 0;have f1:=B2.o.free 1;rcases hm with ⟨ms,v,hA,rfl,hown⟩ | ⟨hA,rfl⟩
  ·obtain ⟨av,cv,rfl⟩:=yi hown;have HA:=hid hA;have HO:=hid hown;have hml:=hA.1;have Lx:=hid hA.2.1;clear hA hown z0 z1 f0 f1;have hcv:=qU HO.o;have hX:w.heap.size < W2.heap.size:=B2.o.lt;have A3:=hid (aJ W2 (.cells #[.bool true,.slice none 0 0] 117) none);have B3:=hid (yc.new W2 #[.bool true,.slice none 0 0] 117);have R3:=hid (B2.o.grown A3.o (by simp));have S3:=hid (HO.o.alloc (.cells #[.bool true,.slice none 0 0] 117));have SZ3:=hid (show (W2.alloc (.cells #[.bool true,.slice none 0 0] 117)).heap.size=W2.heap.size+1 from Array.size_push _);have G3:=hid (ya G2.o A3.o);obtain ⟨i0,hi,hz0,hz1,hz2⟩:=info_parts Tryz.wS
   go_wp2;generalize W2.alloc (.cells #[.bool true,.slice none 0 0] 117)=W3 at *;generalize W2.heap.size=X at *
   go_loopw [34] (fun i wr=>∃ (k:Nat) (gs:List Nat) (vm:Value),k<=ms.length/\i = .int .i64 k/\gs.length=k/\yc wr X #[.bool true,vm] 117/\wr.ownsRow (X+1) 159 2 vm k (qE gs)/\(∀ j (h:j < k) (h1:j < gs.length) (h2:j < ms.length),yu wr gs[j] (AV ms[j]))/\yc wr w.heap.size #[.bool false,.slice none 0 0] 117/\wr.ownsRow W1.heap.size 9 1 (.slice av ms.length cv) ms.length (vL ms)/\w.grownBy wr none/\X+1<=wr.heap.size) (fun i _=>ms.length - (intOf i).toNat)
   case atStart=>exact ⟨0,[],_,Nat.zero_le _,rfl,rfl,B3.o,World.ownsRow_nil _ _ _ _,fun j h=>by omega,R3.o,S3.o,G3.o,by rw [SZ3.o]; exact Nat.le_refl _⟩
   case round =>
    obtain ⟨k,gs,vm,hk,rfl,hgl,hb,hrow,oz,hres,hstr,hgw,hxs⟩:=hrel;obtain ⟨am,cm,rfl⟩:=yi hrow;have HB:=hid hb;have HRW:=hid hrow;have Qz:=hid oz;have Es:=hid hres;have HST:=hid hstr;have zo:=hid hgw;clear hb hrow oz hres hstr hgw B3 R3 S3;by_cases hlt:k < ms.length
    ·have Rt:=Lx.o ms[k] (iq hlt);have hsz:=Po Rt;obtain ⟨sg,hsg,-,-,-,hsc⟩:=JV HST.o (by omega);have ck:=hsc k hlt;rw [show (vL ms)[k]?=some (.string (bs ms[k])) by simp [vL,List.getElem?_map,j3 hlt]] at ck;have cR:=hid (TY (bs ms[k]) wr (HT.o.grown zo.o) (by rw [zh]; omega));have g1:(k:Int) < (ms.length:Int):=by omega
     have KI:=hid Rt;clear hsc Rt hsz;generalize hmk:ms[k]=mk at *;have HMK:=hid hmk;clear hmk;subst hsg;go_wp2_with fail;refine cR.o.mono ?_;rintro e U5 ⟨RJ,h5⟩;rcases RJ with ⟨o,g,q1,q2,rfl,q3,q4⟩ | ⟨q1,rfl⟩
     ·rw [Gx] at q1;have EO:=hid (OU q1 q2).2;have hsy:o.syms.length<=65535:=(Nn (KS q2)).1.2.2.2.2.1;have Oj:=hid q3;have NV:=hid (HB.o.grown h5 (by simp));have Vq:=hid (HRW.o.kept h5 (by cases Value.ownBlock _ <;> simp));have Vi:=hid (fun j h h1 h2=>(Qz.o j h h1 h2).kept h5);have VG:=hid (Es.o.grown h5 (by simp));have VJ:=hid (HST.o.kept h5 (by cases Value.ownBlock _ <;> simp));have Kl:=hid (ya zo.o h5);have hx5:X+1<=U5.heap.size:=Nat.le_trans hxs h5.size;clear q1 q2 q3 cR ck h5 HB HRW Qz Es HST zo;have x1:U5.cell? ⟨X,1,none⟩=some (.slice am k cm):=NV.o.cell 1;have xf:=NV.o.free 1;have hcm:=qU Vq.o
      have CN:=hid (ysq U5 g);have AM:=hid (aJ U5 (.cells #[aW g,.bool false] 159) none);have DW:=hid (Vq.o.alloc (.cells #[aW g,.bool false] 159));have HBA:=hid (NV.o.grown AM.o (by simp));have hXr:X≠w.heap.size:=by omega
      have STEP:=hid (fun (v':Value) (w3:World) (hown':w3.ownsRow (X+1) 159 2 v' (k+1) (qE gs ++ [aW g,.bool false])) (hgrow:(U5.alloc (.cells #[aW g,.bool false] 159)).grownBy w3 (Value.ownBlock (.slice am k cm)))=>show (yc w3 X #[.bool true,.slice am k cm] 117)/\∃ (gs':List Nat),gs'.length=k+1/\yc (w3.setCell ⟨X,1,none⟩ v') X #[.bool true,v'] 117/\(w3.setCell ⟨X,1,none⟩ v').ownsRow (X+1) 159 2 v' (k+1) (qE gs')/\(∀ j (h:j < k+1) (h1:j < gs'.length) (h2:j < ms.length),yu (w3.setCell ⟨X,1,none⟩ v') gs'[j] (AV ms[j]))/\yc (w3.setCell ⟨X,1,none⟩ v') w.heap.size #[.bool false,.slice none 0 0] 117/\(w3.setCell ⟨X,1,none⟩ v').ownsRow W1.heap.size 9 1 (.slice (some ⟨sg,0,none⟩) ms.length cv) ms.length (vL ms)/\w.grownBy (w3.setCell ⟨X,1,none⟩ v') none/\X+1<=(w3.setCell ⟨X,1,none⟩ v').heap.size by
       have RT:=bR.own DW.o;have b3:=yF HBA.o hgrow RT (by decide);have gS:=ye w3 X 1 v';have RP:=bR.blk b3;refine ⟨b3,gs ++ [g],by simp [hgl],b3.set 1 v',?_,fun j h h1 h2=>?_,?_,?_,?_,?_⟩
       ·rw [<- yol];exact yA hown' gS RP (by decide)
       ·by_cases hjk:j < k
        ·rw [List.getElem_append_left (by omega)];exact um (um ((Vi.o j hjk (by omega) h2).kept AM.o) hgrow RT (by decide) (by decide) (by decide) (by decide)) gS RP (by decide) (by decide) (by decide) (by decide)
        ·obtain rfl:j=k:=by omega
         have e1:(gs ++ [g])[j]=g:=by simp [<- hgl]
         rw [e1,HMK.o,EO.o];exact um (um (Oj.o.kept AM.o) hgrow RT (by decide) (by decide) (by decide) (by decide)) gS RP (by decide) (by decide) (by decide) (by decide)
       ·exact (yF (VG.o.grown AM.o (by simp)) hgrow RT (by decide)).grown gS (by simp; omega)
       ·exact yA (yA (VJ.o.alloc _) hgrow RT (by decide)) gS RP (by decide)
       ·exact yO (yO (ya Kl.o AM.o) hgrow (fun b e=>by have:=(DW.o.lt b e).1; omega)) gS (by intro b e; simp at e; omega)
       ·have:=gS.size
        have:=hgrow.size
        have:=AM.o.size
        omega)
      clear Vi Oj VG VJ Kl NV;unfold aW at CN DW STEP;go_wp2_with (at_builtin; refine OT _ rfl _ _ 115 rfl (X+1) 159 i0 (.agg #[.pointer none,.bool false]) 2 16 Tryz.underlying115 hi hz0 hz1 hz2 rfl (by decide) _ _ _ rfl DW.o ⟨U5.heap.size,0,none⟩ 1 1 [.pointer (some ⟨g,0,none⟩),.bool false] rfl rfl CN.o (by intro u hu; simp at hu; rcases hu with rfl | rfl <;> rfl) (by unfold maxLen; omega) (by omega) (by simp; omega) ?_; intro v' w3 hown' hgrow hblk; obtain ⟨oh,cv',rfl⟩:=yi hown'; obtain ⟨b3,gs',r1,r2,r3,r4,r5,r6,r7,r8⟩:=STEP.o _ _ hown' hgrow; have k1:=b3.cell 1; have k1f:=b3.free 1; have Q1:=hid r2; have Q2:=hid r3; have Q3:=hid r4; have Q4:=hid r5; have Q5:=hid r6; have Q6:=hid r7; have Q7:=hid r8; clear hgrow hown' b3 r2 r3 r4 r5 r6 r7 r8 hblk)
      go_roundw
      case rel=>exact ⟨k+1,gs',_,by omega,by go_num,r1,Q1.o,Q2.o,Q3.o,Q4.o,Q5.o,Q6.o,Q7.o⟩
      case measure=>simp [intOf]; omega
     ·exact absurd KI.o (Sv (by rw [Gx] at q1; exact q1))
    ·obtain rfl:k=ms.length:=by omega
     have g3:decide ((ms.length:Int) < (ms.length:Int))=false:=by simp
     have x0:wr.cell? ⟨X,0,none⟩=some (.bool true):=HB.o.cell 0;have x1:wr.cell? ⟨X,1,none⟩=some (.slice am ms.length cm):=HB.o.cell 1;have z0:wr.cell? ⟨w.heap.size,0,none⟩=some (.bool false):=Es.o.cell 0;have z1:wr.cell? ⟨w.heap.size,1,none⟩=some (.slice none 0 0):=Es.o.cell 1;have f0:=Es.o.free 0;have f1:=Es.o.free 1;have hXr:X≠w.heap.size:=by omega
     have aad:w.heap.size≠X:=by omega
     go_wp2;have F2:=ZG Es.o (.bool true) (.slice am ms.length cm);have GF:=Uw zo.o w.heap.size (Nat.le_refl _) (.bool true) (.slice am ms.length cm);have BR:=(Es.o.set 0 (.bool true)).set 1 (.slice am ms.length cm);have h0:=BR.cell 0;have h1:=BR.cell 1;simp only [gu,fZ,gq,bI,bN,bK] at h0 h1;have VH:=F2.own HRW.o (by decide);have FA:ZK ((wr.setCell ⟨w.heap.size,0,none⟩ (.bool true)).setCell ⟨w.heap.size,1,none⟩ (.slice am ms.length cm)) w.heap.size (.agg #[.bool true,.slice am ms.length cm]) true (ms.map AV):=by
      rcases VH.2 with ⟨q1,q2⟩ | ⟨mg,cap,cur,hv,hb,hg,r3,r4,r5,r6⟩
      ·omega
      ·simp only [Value.slice.injEq] at hv;obtain ⟨rfl,-,rfl⟩:=hv;refine ⟨mg,cm,gs,by simp,by omega,XW hg (by rw [hgl]; exact r6) (by simp [hgl]) (fun i hi=>?_) (fun o ho=>?_),by simpa using r3,r4⟩
       ·simp only [rW] at hi;rw [List.getElem_map];exact F2.obj (Qz.o i hi (by omega) hi) (by decide) (by decide) (by decide) (by decide)
       ·obtain ⟨m,hm,rfl⟩:=List.mem_map.1 ho;exact (Nn (KS (Lx.o m hm).1)).1.2.2.2.2.1
     refine bodyPost_ret (v:=.tuple #[.agg #[.bool true,.slice am ms.length cm],.bool true]) ?_ rfl ⟨.inl ⟨_,true,ms.map AV,.inr ⟨rfl,HI.o,ms,HA.o,rfl⟩,rfl,FA⟩,GF⟩;clear FA VH BR GF F2 x0 x1 z0 z1 f0 f1;generalize World.setCell _ _ _=WF at *;simp [results,Tryz.results64,go_sem,h0,h1]
  ·have N:=hid (show NJ (sl s) from ⟨HI.o,hA⟩);clear hA;go_wp2;have BR:=(B2.o.set 0 (.bool false)).set 1 (.slice none 0 0);have h0:=BR.cell 0;have h1:=BR.cell 1;simp only [gu,fZ,gq,bI,bN,bK] at h0 h1;refine bodyPost_ret (v:=.tuple #[.agg #[.bool false,.slice none 0 0],.bool false]) ?_ rfl ⟨.inr ⟨N.o,rfl⟩,Uw G2.o w.heap.size (Nat.le_refl _) _ _⟩;clear BR z0 z1 f0 f1;generalize World.setCell _ _ _=WF at *;simp [results,Tryz.results64,go_sem,h0,h1]
namespace Ln
def gG (os:List Lk.Obj) (x:Bool×List Lk.Obj):List Lk.Obj:=if x.1 then gF (x.2.length+1) (pK x.2) os else os ++ x.2
def bQ (xs:List (Bool×List Lk.Obj)):List Lk.Obj:=xs.foldl gG []
end Ln
theorem PX (os:List Lk.Obj):(pK os).length=os.length:=by simp [pK]
theorem Sz (os:List Lk.Obj):rV (pK os)=os.length:=by
 unfold rV pK;rw [List.filter_eq_self.2 (by intro x hx; obtain ⟨o,_,rfl⟩:=List.mem_map.1 hx; rfl),rW]
theorem ykC (W0:World) (P:Nat) (bt bf bd:Int) (vm:Value) (bl gl:List Nat) (os:List Lk.Obj) (mg cm:Nat) (gs:List Nat) (a:Bool) (ms:List Lk.Obj) (W:World) (h:pJ W0 P bt bf bd vm bl gl os W) (hm:rR W mg gs (pK ms)) (hc:bl.length+ms.length<=4096) (hml:W0.heap.size<=mg) (hcm:ms.length<=cm/\cm<=maxLen) :
  Calls Tryz.prog 65 #[aW P,.agg #[.bool a,.slice (some ⟨mg,0,none⟩) ms.length cm]] W fun e W'=>e = .returned (.tuple #[])/\(∃ Nb Md Rn,pJ W0 P bt bf bd Nb Md Rn (Ln.gG os (a,ms)) W'/\Md.length<=bl.length+ms.length)/\uj [121,125] mg W W':=by
 have A0:=hid (aJ W (.cells #[.bool a,.slice (some ⟨mg,0,none⟩) ms.length cm] 117) none);have B0:=hid (yc.new W #[.bool a,.slice (some ⟨mg,0,none⟩) ms.length cm] 117);have H0:=hid (h.kept A0.o);have M0:=hid (hm.kept A0.o);have F0:=hid ((nC.grown (ts:=[121,125]) A0.o).x mg);have hcm2:=hcm.2;unfold maxLen at hcm2;have hmm:mg < W.heap.size:=by
  obtain ⟨cur,hb,-⟩:=hm.row;exact hb.lt
 clear h hm
 cases a with
 | true =>
  have cT:=hid (yht W0 P bt bf bd vm bl gl os mg cm gs (pK ms) _ H0.o M0.o (by rw [Sz]; omega) hml (by rw [PX]; omega) (by rw [PX]; exact hcm));rw [PX,Sz] at cT;have E:=hid (show Ln.gG os (true,ms)=Ln.gF (ms.length+1) (pK ms) os from rfl);unfold aW at *;go_enter Tryz.func65,Tryz.ntmps65;go_wp2_with fail;refine cT.o.mono ?_;rintro e W5 ⟨rfl,hg,hf⟩;have HG:=hid hg;have HF:=hid (F0.o.trans hf);clear hg hf cT;go_wp2
  (try simp only [Exit.inBlock,Exit.then]); refine bodyPost_ret (results_none rfl _ _ _) rfl ?_
  rw [E.o];exact ⟨rfl,HG.o,HF.o⟩
 | false =>
  have E:=hid (show Ln.gG os (false,ms)=os ++ ms from rfl);unfold aW at *;go_enter Tryz.func65,Tryz.ntmps65;go_wp2;generalize W.alloc (.cells #[.bool false,.slice (some ⟨mg,0,none⟩) ms.length cm] 117)=W1 at *
  go_loopw [15] (fun i wr=>∃ (k:Nat) (wK BG:List Nat) (Gl:Value),k<=ms.length/\i = .int .i64 k/\pJ W0 P bt bf bd Gl wK BG (os ++ ms.take k) wr/\rR wr mg gs (pK ms)/\wK.length=bl.length+k/\uj [121,125] mg W wr) (fun i _=>ms.length - (intOf i).toNat)
  case atStart=>exact ⟨0,bl,gl,vm,Nat.zero_le _,rfl,by simpa using H0.o,M0.o,rfl,F0.o⟩
  case round =>
   obtain ⟨k,wK,BG,Gl,hk,rfl,hg,hm,hb,hf⟩:=hrel;have HG:=hid hg;have HM:=hid hm;have HF:=hid hf;clear hg hm hf H0 M0 F0;by_cases hlt:k < ms.length
   ·have hk2:k < (pK ms).length:=by rw [PX]; exact hlt
    obtain ⟨m0,m1,-⟩:=HM.o.cells k hk2;have OB:=hid (HM.o.objs k hk2);have SY:=HM.o.syms _ (iq hk2);have e1:(pK ms)[k]=(ms[k],false):=by simp [pK]
    rw [e1] at m1 OB SY;dsimp only at m1 OB SY;have TK:=hid (show ms.take (k+1)=ms.take k ++ [ms[k]] from List.take_succ_eq_append_getElem hlt);unfold aW at m0;generalize gs[k]'_=gj at *;generalize ms[k]=oj at *;have g1:(k:Int) < (ms.length:Int):=by omega
    have AL:=hid (aJ wr (.cells #[.pointer (some ⟨gj,0,none⟩),.bool false] 159) none);have cT:=hid (YU W0 P bt bf bd Gl wK BG (os ++ ms.take k) gj oj _ (HG.o.kept AL.o) (OB.o.kept AL.o) (by omega) SY);have GL:=hid (HM.o.kept AL.o);have mW:=hid (HF.o.trans ((nC.grown AL.o).x mg));clear e1;unfold aW at cT;go_wp2_with fail;refine cT.o.mono ?_;rintro e W7 ⟨rfl,⟨WU,b7,h7⟩,f7⟩;have Lv:=hid h7;have jN:=hid (GL.o.frame f7 (by decide) (by decide) (by decide) (by decide) (by decide));have Lp:=hid (mW.o.trans (f7.x mg));clear h7 f7 cT m0 m1;go_wp2
    go_roundw
    case rel=>exact ⟨k+1,_,_,_,by omega,by go_num,by rw [TK.o,<- List.append_assoc]; exact Lv.o,jN.o,by simp; omega,Lp.o⟩
    case measure=>simp [intOf]; omega
   ·obtain rfl:k=ms.length:=by omega
    have g3:decide ((ms.length:Int) < (ms.length:Int))=false:=by simp
    go_wp2
    go_end0
    rw [E.o];exact ⟨rfl,⟨Gl,wK,BG,by have:=HG.o; rw [List.take_length] at this; exact this,by omega⟩,HF.o⟩
end Go.Proofs.YtpgklkhgfcjceaaGreatDoor
