
import Derived.Test.YtpgklkhgfcjceaaGreatDoorU09
set_option maxHeartbeats 16000000
set_option maxRecDepth 100000
namespace Go.Proofs.YtpgklkhgfcjceaaGreatDoor
open Go.RowKit
def zx (l:List UInt8):Prop:=yx (Cr l)/\Lk.lY (Cr l)=l
theorem QC {l:List UInt8} {o:Lk.Obj} (h:Lk.gY l=some o) (hv:yx o):zx l/\Cr l=o:=by
 obtain ⟨hg,rfl⟩:=(Lk.kr l o).1 h;have hz:=hv.1.1;have e:=ypV hg ⟨hz.1,hz.2.1,by omega⟩;unfold zx;rw [e];exact ⟨⟨hv,rfl⟩,rfl⟩
theorem yjd {l:List UInt8} (h:zx l):Lk.gY l=some (Cr l):=(Lk.kr l _).2 ⟨MC h.1,h.2.symm⟩
theorem Ra {l:List UInt8} (h:zx l):l.length<=65535:=by
 have:=Y9 h.1
 rw [h.2] at this;exact this
theorem UC {l:List UInt8} (h:∀ o,Lk.gY l=some o->¬ yx o):¬ zx l:=fun k=>h _ (yjd k) k.1
def jB (m:List UInt8):List UInt8:=Lk.le m.length 2 ++ m
def Xr (ms:List (List UInt8)):List UInt8:=[65,82] ++ (Lk.le ms.length 1 ++ ms.flatMap jB)
def BA (l:List UInt8) (ms:List (List UInt8)):Prop:=(1<=ms.length/\ms.length<=6)/\(∀ m∈ms,zx m)/\Xr ms=l
theorem YH:¬ zx []:=fun h=>by
 have:=congrArg List.length h.2
 simp [Lk.lY] at this
def JB (l:List UInt8):Nat->List (List UInt8)×Nat
 | 0=>([],3)
 | k+1=>((JB l k).1 ++ [Gi l ((JB l k).2+2) (dW l (JB l k).2 2).toNat],(JB l k).2+2+(dW l (JB l k).2 2).toNat)
def ymm (l:List UInt8):List (List UInt8):=(JB l (min (dW l 2 1).toNat 6)).1
theorem yne {l rest:List UInt8} {ms:List (List UInt8)} (h:l.drop 3=ms.flatMap jB ++ rest) (hg:∀ m∈ms,m.length<=65535) (k:Nat) (hk:k<=ms.length) :
  JB l k=(ms.take k,3+((ms.take k).flatMap jB).length):=by
 induction k with
 | zero=>rfl
 | succ k ih =>
  have hk':k < ms.length:=by omega
  have e:l.drop 3=(ms.take k).flatMap jB ++ (jB ms[k] ++ ((ms.drop (k+1)).flatMap jB ++ rest)):=by
   have e0:ms=ms.take k ++ ms[k] :: ms.drop (k+1):=by rw [<- mE hk',List.take_append_drop]
   rw [h];refine (congrArg (fun z=>List.flatMap jB z ++ rest) e0).trans ?_;simp only [List.flatMap_append,List.flatMap_cons,List.append_assoc]
  have e2:=yP e;have hm:=hg _ (iC hk');unfold jB at e2;rw [List.append_assoc] at e2;have a0:dW l (3+((ms.take k).flatMap jB).length) 2=(ms[k].length:Int):=rP e2 (by omega) (by simp only [Int.reducePow]; omega);have e3:=yP e2;rw [Lk.aA] at e3;have a1:=yma e3;simp only [JB,ih (by omega)];rw [a0,Int.toNat_natCast];refine Prod.ext ?_ ?_
  ·simp only;rw [List.take_succ_eq_append_getElem hk']
   congr 2
  ·simp only;rw [List.take_succ_eq_append_getElem hk',List.flatMap_append,eP];simp only [List.flatMap_cons,List.flatMap_nil,List.append_nil,jB,eP,Lk.aA];omega
theorem ZL {l:List UInt8} {ms:List (List UInt8)} (h:BA l ms):ymm l=ms:=by
 obtain ⟨⟨h1,h2⟩,h3,h4⟩:=h;have d0:l.drop 0=[65,82] ++ (Lk.le ms.length 1 ++ ms.flatMap jB):=by rw [<- h4]; rfl
 have d2:=yP d0;have d3:=yP d2;rw [Lk.aA] at d3;simp only [iV,List.length_nil,Nat.zero_add,Nat.reduceAdd] at d2 d3;have a:dW l 2 1=(ms.length:Int):=rP d2 (by omega) (by simp only [Int.reducePow]; omega);unfold ymm;rw [a,Int.toNat_natCast,Nat.min_eq_left h2,yne (rest:=[]) (by rw [List.append_nil]; exact d3) (fun m hm=>Ra (h3 m hm)) ms.length (Nat.le_refl _),List.take_length]
theorem Tryz.zH:(Tryz.prog.info? 9).map (fun i=>(i.zero,i.size,i.bytes))=some (some (.string ⟨#[]⟩),1,16):=by kernel_rfl
theorem ypG {l:List UInt8} {p:Nat} (hp:p<=l.length) (h:zx (Lk.aF l (Lk.rdNum l 2 (p,false)).1.toNat (Lk.rdNum l 2 (p,false)).2).1) :
  ∃ m,Lk.aF l (Lk.rdNum l 2 (p,false)).1.toNat (Lk.rdNum l 2 (p,false)).2=(m,(p+2+m.length,false))/\l.drop p=jB m ++ l.drop (p+2+m.length)/\p+2+m.length<=l.length:=by
 by_cases h1:2<=l.length - p
 ·have e1:Lk.rdNum l 2 (p,false)=(Lk.num ((l.drop p).take 2),(p+2,false)):=by simp [Lk.rdNum,Lk.aF,h1]
  rw [e1] at h ⊢;simp only at h ⊢;have hn:=Lk.num_nonneg ((l.drop p).take 2);have hlen:((l.drop p).take 2).length=2:=by simp; omega
  have hle:=Lk.xS ((l.drop p).take 2);rw [hlen] at hle;obtain ⟨n,hn'⟩:=Int.eq_ofNat_of_zero_le hn;rw [hn'] at h hle ⊢;simp only [Int.toNat_natCast] at h ⊢;by_cases h2:n<=l.length - (p+2)
  ·have hml:((l.drop (p+2)).take n).length=n:=by simp; omega
   have e2:Lk.aF l n (p+2,false)=((l.drop (p+2)).take n,(p+2+n,false)):=by simp [Lk.aF,h2]
   refine ⟨(l.drop (p+2)).take n,by rw [e2,hml],?_,by rw [hml]; omega⟩;rw [hml];unfold jB;rw [hml,hle,List.append_assoc,<- List.drop_drop (i:=n),List.take_append_drop,<- List.drop_drop (i:=2),List.take_append_drop]
  ·have e2:(Lk.aF l n (p+2,false)).1=[]:=by simp [Lk.aF,h2]
   rw [e2] at h;exact absurd h YH
 ·have e1:Lk.rdNum l 2 (p,false)=(0,(p,true)):=by simp [Lk.rdNum,Lk.aF,h1,Lk.num]
  rw [e1] at h;have e2:(Lk.aF l (0:Int).toNat (p,true)).1=[]:=by simp [Lk.aF]
  rw [e2] at h;exact absurd h YH
theorem ysa {l m rest:List UInt8} {p:Nat} (hp:p<=l.length) (h:l.drop p=jB m ++ rest) (hm:m.length<=65535):(Lk.aF l (Lk.rdNum l 2 (p,false)).1.toNat (Lk.rdNum l 2 (p,false)).2).1=m:=by
 unfold jB at h;rw [List.append_assoc] at h;obtain ⟨a1,b1,c1,p1,d1⟩:=(Lk.aB l 2).on (st:=(p,false)) hp rfl (x:=(m.length:Int)) ⟨by omega,by simp only [Int.reducePow]; omega⟩ h;rw [a1,Int.toNat_natCast];exact ((Lk.fB l m.length).on p1 b1 (x:=m) rfl d1).1
theorem yip (n:Int) (w:World) :
  Calls Tryz.prog 164 #[.int .i64 n] w fun e w'=>yg e (1<=n/\n<=6)/\w'=w:=by
 go_enter Tryz.func164,Tryz.ntmps164;by_cases h1:1<=n
 ·by_cases h2:n<=6
  ·have d1:decide (1<=n)=true:=by simpa using h1
   have d2:decide (n<=6)=true:=by simpa using h2
   go_wp2;go_ret;exact ⟨yg.yes ⟨h1,h2⟩,rfl⟩
  ·have d1:decide (1<=n)=true:=by simpa using h1
   have d2:decide (n<=6)=false:=by simp; omega
   go_wp2;go_ret;exact ⟨yg.no (fun h=>by omega),rfl⟩
 ·have d1:decide (1<=n)=false:=by simp; omega
  go_wp2;go_ret;exact ⟨yg.no (fun h=>by omega),rfl⟩
theorem yhQ (s:ByteArray) (w:World) (ht:dV w) (hs:s.size<=1048576) :
  Calls Tryz.prog 165 #[.string s] w fun e w'=>yg e (zx (sl s))/\w.grownBy w' none:=by
 have cR:=hid (VG s w ht hs);go_enter Tryz.func165,Tryz.ntmps165;go_wp2_with fail;refine cR.o.mono ?_;rintro e w1 ⟨⟨o,g,hr,hv,rfl,-,-⟩ | ⟨hno,rfl⟩,hq⟩
 ·have H:=hid (QC hr hv).1;have HQ:=hid hq;go_wp2;go_ret;exact ⟨yg.yes H.o,HQ.o⟩
 ·have H:=hid (UC hno);have HQ:=hid hq;go_wp2;go_ret;exact ⟨yg.no H.o,HQ.o⟩
def wN (ms:List (List UInt8)):List Value:=ms.map (fun m=>Value.string (bs m))
def ymx (l:List UInt8) (base:Nat) (e:Ending) (w':World):Prop :=
 (∃ ms v,BA l ms/\e = .returned (.tuple #[v,.int .i64 0])/\w'.ownsRow base 9 1 v ms.length (wN ms)) \/
 ((∀ ms,¬ BA l ms)/\e = .returned (.tuple #[.slice none 0 0,.int .i64 21]))
theorem ylz (s:ByteArray) (w:World) (ht:dV w) (hs:s.size<=1048576) :
  Calls Tryz.prog 99 #[.string s] w fun e w'=>ymx (sl s) w.heap.size e w'/\w.grownBy w' none:=by
 obtain ⟨i0,hi,hz0,hz1,hz2⟩:=info_parts Tryz.zH;have HT:=hid ht;clear ht;have hlen:=yu s;have l0:=Li (sl s) 2 (0,false) (by rw [hlen]; omega);have c0:=fun W b h=>Le b s 0 2 2 rfl false W h hs (Nat.zero_le _) (by omega)
 have HX0:=hid (Lk.fB (sl s) 2);have T0:=hid (show (Lk.aF (sl s) 2 (0,false)).1=[65,82]->Lk.aF (sl s) 2 (0,false)=([65,82],(2,false))/\(sl s).drop 0=[65,82] ++ (sl s).drop 2/\2<=(sl s).length from fun h=>by
  unfold Lk.aF at h ⊢;simp only at h ⊢;by_cases c:2<=(sl s).length - 0
  ·rw [if_pos c] at h ⊢;simp only at h ⊢;refine ⟨by rw [h],?_,by omega⟩;rw [<- h,List.drop_zero,List.take_append_drop]
  ·rw [if_neg c] at h;simp at h)
 have N0:=hid (show ∀ ms,BA (sl s) ms->(Lk.aF (sl s) 2 (0,false)).1=[65,82] from fun ms h=>(HX0.o.on (st:=(0,false)) (Nat.zero_le _) rfl (x:=[65,82]) (rest:=Lk.le ms.length 1 ++ ms.flatMap jB) rfl (by rw [<- h.2.2]; rfl)).1);clear HX0;rw [hlen] at l0;generalize Lk.aF (sl s) 2 (0,false)=x0 at *;obtain ⟨mk,p0,s0⟩:=x0;simp only at c0 T0 N0 l0;have c1:=fun W b h=>yL b s p0 1 1 rfl s0 W h hs l0 (by omega)
 have l1:=yE (sl s) 1 (p0,s0) (by rw [hlen]; exact l0);rw [hlen] at l1;have b1:=yS (sl s) 1 (p0,s0);simp only [Int.reducePow] at b1;have T1:=hid (show mk=[65,82]->1<=(Lk.rdNum (sl s) 1 (p0,s0)).1->(Lk.rdNum (sl s) 1 (p0,s0)).2=(3,false)/\(sl s).drop 0=[65,82] ++ (Lk.le (Lk.rdNum (sl s) 1 (p0,s0)).1 1 ++ (sl s).drop 3)/\3<=(sl s).length from fun hm h=>by
  obtain ⟨e,d,hl2⟩:=T0.o hm;simp only [Prod.mk.injEq] at e;obtain ⟨-,rfl,rfl⟩:=e;by_cases c:1<=(sl s).length - 2
  ·have e1:Lk.rdNum (sl s) 1 (2,false)=(Lk.num (((sl s).drop 2).take 1),(3,false)):=by simp [Lk.rdNum,Lk.aF,c]
   rw [e1];have hle:=Lk.xS (((sl s).drop 2).take 1);rw [show (((sl s).drop 2).take 1).length=1 from by simp; omega] at hle;refine ⟨rfl,?_,by omega⟩;simp only;rw [d,hle,show (sl s).drop 3=((sl s).drop 2).drop 1 from by rw [List.drop_drop],List.take_append_drop]
  ·have e1:Lk.rdNum (sl s) 1 (2,false)=(0,(2,true)):=by simp [Lk.rdNum,Lk.aF,c,Lk.num]
   rw [e1] at h;simp at h)
 have N1:=hid (show ∀ ms,BA (sl s) ms->(Lk.rdNum (sl s) 1 (p0,s0)).1=(ms.length:Int) from fun ms h=>by
  obtain ⟨e,d,hl2⟩:=T0.o (N0.o ms h);simp only [Prod.mk.injEq] at e;obtain ⟨-,rfl,rfl⟩:=e;have d0:(sl s).drop 0=[65,82] ++ (Lk.le ms.length 1 ++ ms.flatMap jB):=by rw [<- h.2.2]; rfl
  exact ((Lk.aB (sl s) 1).on (st:=(2,false)) hl2 rfl (x:=(ms.length:Int)) (rest:=ms.flatMap jB) ⟨by omega,by have:=h.1.2; simp only [Int.reducePow]; omega⟩ (yP d0)).1)
 generalize Lk.rdNum (sl s) 1 (p0,s0)=x1 at *;obtain ⟨cnt,p1,s1⟩:=x1;simp only at c1 T1 N1 l1 b1;have C0:=hid c0;have C1:=hid c1;clear c0 c1;have FX:=hid hlen;clear hlen;have cV:=hid (fun W=>yip cnt W);go_enter Tryz.func99,Tryz.ntmps99;go_wp2_with fail;refine (UD s w).mono ?_;rintro e W1 ⟨rfl,g1⟩;have R:bF (W1.alloc (.cells #[.string s,.int .i64 0,.bool false] 83)) W1.heap.size s 0 false:=heap_alloc_new W1 _;have HR:=hid R;have G1:=hid (ya g1 (aH W1 (.cells #[.string s,.int .i64 0,.bool false] 83) none));have hbw:w.heap.size<=W1.heap.size:=g1.size;clear R g1;generalize hb:W1.heap.size=b at *;go_wp2_with fail
 refine (C0.o _ b HR.o).mono ?_;rintro e W2 ⟨rfl,r2,g2⟩;have R2:=hid r2;have G2:=hid (K8 G1.o g2 hbw);clear r2 g2 HR G1 hb;go_wp2_with fail;refine (C1.o _ b R2.o).mono ?_;rintro e W3 ⟨rfl,r3,g3⟩;have R3:=hid r3;have G3:=hid (K8 G2.o g3 hbw);clear r3 g3 R2 G2;have Xc:=hid (yJ mk);by_cases c:mk=[65,82]
 rotate_left
 ·have d:((bs mk).toList == [65,82])=false:=by rw [Xc.o,beq_eq_false_iff_ne]; exact c
  have CC:=hid c;clear c;go_wp2;go_ret2;exact ⟨.inr ⟨fun ms h=>CC.o (N0.o ms h),rfl⟩,G3.o⟩
 have d:((bs mk).toList == [65,82])=true:=by rw [Xc.o,beq_iff_eq]; exact c
 have CC:=hid c;clear c;go_wp2_with fail;refine (cV.o _).mono ?_;rintro e W4 ⟨t,rfl⟩;rcases t.split with ⟨rfl,pv⟩ | ⟨rfl,pv⟩ <;> clear t
 ·go_wp2;go_ret2;exact ⟨.inr ⟨fun ms h=>pv.o (by rw [N1.o ms h]; have:=h.1; omega),rfl⟩,G3.o⟩
 obtain ⟨hst,hd,hl3⟩:=T1.o CC.o pv.o.1;simp only [Prod.mk.injEq] at hst;obtain ⟨rfl,rfl⟩:=hst;obtain ⟨n,rfl⟩:=Int.eq_ofNat_of_zero_le b1.1;have HPV:=hid pv.o;have X6:n<=6:=by have:=pv.o.2; omega
 have WU:=hid N1.o;have A3:=hid (show ∀ ms,BA (sl s) ms->ms.length=n/\∃ ms',ms=[] ++ ms'/\(sl s).drop 3=ms'.flatMap jB from fun ms h=>by
  refine ⟨by have:=WU.o ms h; omega,ms,rfl,?_⟩;have d0:(sl s).drop 0=[65,82] ++ (Lk.le ms.length 1 ++ ms.flatMap jB):=by rw [<- h.2.2]; rfl
  have:=yP (yP d0)
  rw [Lk.aA] at this;exact this)
 have HD:=hid hd;clear hd hl3 pv N1 WU T0 T1 N0 C0 C1;have hbs:W4.heap.size<=W4.heap.size:=Nat.le_refl _;have hblt:b < W4.heap.size:=R3.o.lt;have hw4:w.heap.size<=W4.heap.size:=G3.o.size;go_wp2
 go_loopw [7,8] (fun v i wr=>∃ (k:Nat) (acc:List (List UInt8)) (p:Nat),k<=n/\i = .int .i64 k/\acc.length=k/\p<=s.size /\
   wr.ownsRow W4.heap.size 9 1 v k (wN acc)/\bF wr b s p false/\w.grownBy wr none/\W4.heap.size<=wr.heap.size/\(∀ m∈acc,zx m)/\(sl s).drop 3=acc.flatMap jB ++ (sl s).drop p /\
   ∀ ms,BA (sl s) ms->ms.length=n/\∃ ms',ms=acc ++ ms'/\(sl s).drop p=ms'.flatMap jB) (fun _ i _=>n - (intOf i).toNat)
 case atStart=>exact ⟨0,[],3,Nat.zero_le _,rfl,rfl,l1,World.ownsRow_nil _ _ _ _,R3.o,G3.o,Nat.le_refl _,by simp,by simp,A3.o⟩
 case round =>
  obtain ⟨k,acc,p,hk,rfl,hacc,hp,hown,hrd,hgr,hsz,hall,hdr,har⟩:=hrel;have vI:=hid hacc;have FY:=hid hrd;have HG:=hid hgr;have M9:=hid hall;have HDR:=hid hdr;have Sw:=hid har;clear hacc hrd hgr hall hdr har;by_cases hlt:k < n
  ·have hlt':(k:Int) < (n:Int):=by omega
   have hstep:=hid (fun h=>ypG (l:=sl s) (p:=p) (by rw [FX.o]; exact hp) h);have hon:=hid (fun (m rest:List UInt8) h hm=>ysa (l:=sl s) (m:=m) (rest:=rest) (p:=p) (by rw [FX.o]; exact hp) h hm);have k0:=hid (fun W h=>yL b s p 2 2 rfl false W h hs hp (by omega));have r0:=yS (sl s) 2 (p,false);have q0:=yE (sl s) 2 (p,false) (by rw [FX.o]; exact hp);rw [FX.o] at q0;simp only [Int.reducePow] at r0;generalize Lk.rdNum (sl s) 2 (p,false)=y0 at *;obtain ⟨len,p2,s2⟩:=y0;simp only at k0 r0 q0 hstep hon;obtain ⟨len,rfl⟩:=Int.eq_ofNat_of_zero_le r0.1;simp only [Int.toNat_natCast] at hstep hon;have k1:=hid (fun W h=>Le b s p2 len (len:Int) rfl s2 W h hs q0 (by omega))
   have q1:=Li (sl s) len (p2,s2) (by rw [FX.o]; exact q0);rw [FX.o] at q1;have q2:(Lk.aF (sl s) len (p2,s2)).1.length<=65535:=by
    unfold Lk.aF;split
    ·simp only [List.length_take]; omega
    ·simp
   generalize Lk.aF (sl s) len (p2,s2)=y1 at *;obtain ⟨m,p3,s3⟩:=y1;simp only at k1 q1 q2 hstep hon;go_wp2_with fail;refine (k0.o _ FY.o).mono ?_;rintro e U1 ⟨rfl,r1,g1⟩;have RA:=hid r1;have GA:=hid (K8 HG.o g1 hbw);have hown1:=Lc hown hblt g1;have hsz1:=Nat.le_trans hsz g1.size;clear r1 g1 hown hsz FY HG k0;go_wp2_with fail;refine (k1.o _ RA.o).mono ?_;rintro e U2 ⟨rfl,r1,g1⟩;have RB:=hid r1;have GB:=hid (K8 GA.o g1 hbw);have hown2:=Lc hown1 hblt g1;have hsz2:=Nat.le_trans hsz1 g1.size;clear r1 g1 hown1 hsz1 RA GA k1;have cO:=hid (yhQ (bs m) U2 (HT.o.grown GB.o) (by show m.length<=1048576; omega))
   rw [I4] at cO;go_wp2_with fail;refine cO.o.mono ?_;rintro e U3 ⟨t,g1⟩;have RC:=hid (RB.o.grown g1 (by simp));have GC:=hid (ya GB.o g1);have hown3:=hown2.kept g1 (by cases (Value.ownBlock _) <;> simp);have aam:=Nat.le_trans hsz2 g1.size;rcases t.split with ⟨rfl,pv⟩ | ⟨rfl,pv⟩ <;> clear t g1 hown2 hsz2 RB GB cO
   ·have NA:=hid (show ∀ ms,¬ BA (sl s) ms from fun ms h=>by
     obtain ⟨h1,ms',h2,h3⟩:=Sw.o ms h;have h4:=vI.o
     match ms',h2,h3 with
     | [],h2,_=>rw [h2] at h1; simp at h1; omega
     | m' :: HY,h2,h3 =>
      have hm':zx m':=h.2.1 m' (by rw [h2]; simp);have e:=hon.o m' (HY.flatMap jB) (by rw [h3]; rfl) (Ra hm');subst e;exact pv.o hm')
    clear pv;go_wp2;go_ret2;exact ⟨.inr ⟨NA.o,rfl⟩,GC.o⟩
   ·obtain ⟨m',he,hdp,hle⟩:=hstep.o pv.o;simp only [Prod.mk.injEq] at he;obtain ⟨rfl,rfl,rfl⟩:=he;rw [FX.o] at hle;have WJ:=hid hdp;have SK:=hid pv.o;have Sz:=hid (show ∀ ms,BA (sl s) ms->ms.length=n/\∃ ms',ms=(acc ++ [m]) ++ ms'/\(sl s).drop (p+2+m.length)=ms'.flatMap jB from fun ms h=>by
     obtain ⟨h1,ms',h2,h3⟩:=Sw.o ms h;refine ⟨h1,?_⟩;have h4:=vI.o
     match ms',h2,h3 with
     | [],h2,_=>rw [h2] at h1; simp at h1; omega
     | m' :: HY,h2,h3 =>
      have hm':zx m':=h.2.1 m' (by rw [h2]; simp);have e:=hon.o m' (HY.flatMap jB) (by rw [h3]; rfl) (Ra hm');subst e;refine ⟨HY,by rw [h2]; simp,?_⟩;rw [WJ.o] at h3;exact List.append_cancel_left h3)
    clear pv hdp hstep hon;have Db:acc.length<=6:=by have:=vI.o; omega
    go_wp2_with (at_builtin; refine wpList_append_own _ rfl _ _ 29 rfl W4.heap.size 9 i0 (.string ⟨#[]⟩) 1 16 Tryz.underlying29 hi hz0 hz1 hz2 rfl (by decide) _ _ _ rfl (hown3.alloc _) ⟨U3.heap.size,0,none⟩ 1 1 [.string (bs m)] rfl rfl (cell_one_new _ _ _) (by intro u hu; simp at hu; subst hu; rfl) (by unfold maxLen; omega) (by omega) (by simp; omega) ?_; intro v' w3 hown' hgrow _)
    have K1:=hid (show w3.ownsRow W4.heap.size 9 1 v' (k+1) (wN (acc ++ [m])) from by unfold wN; rw [List.map_append]; exact hown');have K2:=hid ((RC.o.grown (aH _ _ none) (by simp)).grown hgrow (fun e=>by have:=(hown3.lt b e.symm).1; omega));have K3:=hid (show w.grownBy w3 none from by
     cases oV:Value.ownBlock _ with
     | none=>rw [oV] at hgrow; exact ya (ya GC.o (aH _ _ none)) hgrow
     | some bb=>rw [oV] at hgrow; exact K8 (ya GC.o (aH _ _ none)) hgrow (by have:=(hown3.lt bb oV).1; omega))
    have K4:=hid (show W4.heap.size<=w3.heap.size from by have:=hgrow.size; simp at this; omega);clear hgrow hown' hown3;go_wp2
    go_roundw
    case rel=>exact ⟨k+1,acc ++ [m],p+2+m.length,by omega,by go_num,by simp [vI.o],hle,K1.o,K2.o,K3.o,K4.o,fun x hx=>(List.mem_append.1 hx).elim (M9.o x) (fun h=>by rw [List.mem_singleton.1 h]; exact SK.o),by rw [HDR.o,WJ.o]; simp,Sz.o⟩
    case measure=>simp [intOf]; omega
  ·obtain rfl:k=n:=by omega
   have cD:=hid (Vy b s p false wr FY.o);go_wp2_with fail;refine cD.o.mono ?_;rintro e U1 ⟨he,kd,rfl⟩;by_cases c:p=s.size
   ·rw [show (!false && decide (p=s.size))=true from by simp [c]] at he;subst he;have AR:=hid (show BA (sl s) acc from ⟨by have:=HPV.o; have:=vI.o; omega,M9.o,by
     have e1:=HDR.o;have e0:(sl s).drop p=[]:=List.drop_of_length_le (by rw [FX.o]; omega);rw [e0,List.append_nil] at e1;unfold Xr;rw [<- e1,vI.o];exact HD.o.symm⟩)
    have HO:=hid (yZ hown hw4);obtain ⟨av,cv,rfl⟩:=yh hown;clear c hown;go_wp2;go_ret2;refine ⟨.inl ⟨acc,_,AR.o,rfl,?_⟩,ye HG.o _⟩;rw [vI.o];exact HO.o.kept (ye (World.grownBy.refl _ none) kd) (by cases (Value.ownBlock _) <;> simp)
   ·rw [show (!false && decide (p=s.size))=false from by simp [c]] at he;subst he;have NA:=hid (show ∀ ms,¬ BA (sl s) ms from fun ms h=>by
     obtain ⟨h1,ms',h2,h3⟩:=Sw.o ms h;have h4:=vI.o;rw [h2] at h1;simp only [eP] at h1;have h5:ms'=[]:=List.eq_nil_of_length_eq_zero (by omega);rw [h5] at h3;have h6:=congrArg List.length h3;simp only [List.flatMap_nil,List.length_nil,List.length_drop,FX.o] at h6;omega)
    clear c;go_wp2;go_ret2;exact ⟨.inr ⟨NA.o,rfl⟩,ye HG.o _⟩
theorem yof (a:Int) (w:World):Calls Tryz.prog 80 #[.int .i64 a] w fun e w'=>yg e (Im.Base a)/\w'=w:=by
 by_cases h1:4096<=a
 ·by_cases h2:a < 1073741824
  ·exact QT a w (by omega) (by omega)
  ·have N:=hid (show ¬ Im.Base a from fun h=>h2 h.1.2);have d1:decide (4096<=a)=true:=by simpa using h1
   have d2:decide (a < 1073741824)=false:=by simpa using h2
   go_enter Tryz.func80,Tryz.ntmps80;go_wp2;go_ret;exact ⟨yg.no N.o,rfl⟩
 ·have N:=hid (show ¬ Im.Base a from fun h=>h1 h.1.1);have d1:decide (4096<=a)=false:=by simpa using h1
  go_enter Tryz.func80,Tryz.ntmps80;go_wp2;go_ret;exact ⟨yg.no N.o,rfl⟩
open Classical in
noncomputable def qp (bt bf bd:Int):Ln.rJ:=if ¬ Im.Base bt then ⟨30,0,[]⟩ else if ¬ Im.Base bf then ⟨30,1,[]⟩ else if ¬ Im.Base bd then ⟨30,2,[]⟩ else Ln.ok
theorem yhS (bt bf bd:Int) (w:World) :
  Calls Tryz.prog 63 #[.agg #[.int .i64 bt,.int .i64 bf,.int .i64 bd]] w fun e w'=>e = .returned (gq (qp bt bf bd))/\w.grownBy w' none:=by
 have cB:=hid (fun a W=>yof a W);have hs1:(w.alloc (.cells #[.int .i64 bt,.int .i64 bf,.int .i64 bd] 33)).heap.size=w.heap.size+1:=Array.size_push _;have G1:=hid (ya (aH w (.cells #[.int .i64 bt,.int .i64 bf,.int .i64 bd] 33) none) (aH (w.alloc (.cells #[.int .i64 bt,.int .i64 bf,.int .i64 bd] 33)) (.cells #[.int .i64 0,.int .i64 0,.string ⟨#[]⟩] 45) none));have B1:=hid (yc.new (w.alloc (.cells #[.int .i64 bt,.int .i64 bf,.int .i64 bd] 33)) #[.int .i64 0,.int .i64 0,.string ⟨#[]⟩] 45);rw [hs1] at B1;clear hs1;go_enter Tryz.func63,Tryz.ntmps63;go_wp2;generalize (w.alloc (.cells #[.int .i64 bt,.int .i64 bf,.int .i64 bd] 33)).alloc (.cells #[.int .i64 0,.int .i64 0,.string ⟨#[]⟩] 45)=W1 at *
 go_loopw [12] (fun i wr=>∃ k:Nat,k<=3/\i = .int .i64 k/\wr=W1/\(0 < k->Im.Base bt)/\(1 < k->Im.Base bf)/\(2 < k->Im.Base bd)) (fun i _=>3 - (intOf i).toNat)
 case atStart=>exact ⟨0,by omega,rfl,rfl,fun c=>by omega,fun c=>by omega,fun c=>by omega⟩
 case round =>
  obtain ⟨k,hk,rfl,rfl,p0,p1,p2⟩:=hrel;have z0:wr.cell? ⟨w.heap.size+1,0,none⟩=some (.int .i64 0):=B1.o.cell 0;have z1:wr.cell? ⟨w.heap.size+1,1,none⟩=some (.int .i64 0):=B1.o.cell 1;have z2:wr.cell? ⟨w.heap.size+1,2,none⟩=some (.string ⟨#[]⟩):=B1.o.cell 2;have f0:=B1.o.free 0;have f1:=B1.o.free 1;have f2:=B1.o.free 2;rcases (show k=0\/k=1\/k=2\/k=3 by omega) with rfl | rfl | rfl | rfl
  ·have cK:=hid (cB.o bt);rw [show ((0:Nat):Int)=0 from rfl];have ix:∀ W:World,Sem.run Tryz.prog (Instr.index 155 (.agg #[.int .i64 bt,.int .i64 bf,.int .i64 bd]) (.int .i64 0)) W = .ok (.int .i64 bt) W:=fun _=>by kernel_rfl
   go_wp2_with fail;refine (cK.o _).mono ?_;rintro e V ⟨ht,hV⟩;subst hV;rcases ht.split with ⟨rfl,hn⟩ | ⟨rfl,hy⟩
   ·have E:=hid (show qp bt bf bd=⟨30,0,[]⟩ by unfold qp; rw [if_pos hn.o]);go_wp2;have F:=((B1.o.set 0 (.int .i64 30)).set 1 (.int .i64 0)).set 2 (.string ⟨#[]⟩);have h0:=F.cell 0;have h1:=F.cell 1;have h2:=F.cell 2;simp only [gH,gF,gG,bJ,bN,bL] at h0 h1 h2;refine bodyPost_ret (v:=gq ⟨30,0,[]⟩) ?_ rfl ⟨by rw [E.o],yA G1.o _ (by omega) _ _ _⟩;clear F z0 z1 z2 f0 f1 f2;generalize World.setCell _ _ _=WF at *;simp [results,Tryz.results63,go_sem,gq,bs,h0,h1,h2]
   ·go_wp2
    go_roundw
    case rel=>exact ⟨1,by omega,by go_num,trivial,fun _=>hy.o,fun c=>by omega,fun c=>by omega⟩
    case measure=>simp [intOf]
  ·have cK:=hid (cB.o bf);rw [show ((1:Nat):Int)=1 from rfl];have ix:∀ W:World,Sem.run Tryz.prog (Instr.index 155 (.agg #[.int .i64 bt,.int .i64 bf,.int .i64 bd]) (.int .i64 1)) W = .ok (.int .i64 bf) W:=fun _=>by kernel_rfl
   go_wp2_with fail;refine (cK.o _).mono ?_;rintro e V ⟨ht,hV⟩;subst hV;rcases ht.split with ⟨rfl,hn⟩ | ⟨rfl,hy⟩
   ·have E:=hid (show qp bt bf bd=⟨30,1,[]⟩ by unfold qp; rw [if_neg (fun c=>c (p0 (by omega)))]; rw [if_pos hn.o]);go_wp2;have F:=((B1.o.set 0 (.int .i64 30)).set 1 (.int .i64 1)).set 2 (.string ⟨#[]⟩);have h0:=F.cell 0;have h1:=F.cell 1;have h2:=F.cell 2;simp only [gH,gF,gG,bJ,bN,bL] at h0 h1 h2;refine bodyPost_ret (v:=gq ⟨30,1,[]⟩) ?_ rfl ⟨by rw [E.o],yA G1.o _ (by omega) _ _ _⟩;clear F z0 z1 z2 f0 f1 f2;generalize World.setCell _ _ _=WF at *;simp [results,Tryz.results63,go_sem,gq,bs,h0,h1,h2]
   ·go_wp2
    go_roundw
    case rel=>exact ⟨2,by omega,by go_num,trivial,fun _=>p0 (by omega),fun _=>hy.o,fun c=>by omega⟩
    case measure=>simp [intOf]
  ·have cK:=hid (cB.o bd);rw [show ((2:Nat):Int)=2 from rfl];have ix:∀ W:World,Sem.run Tryz.prog (Instr.index 155 (.agg #[.int .i64 bt,.int .i64 bf,.int .i64 bd]) (.int .i64 2)) W = .ok (.int .i64 bd) W:=fun _=>by kernel_rfl
   go_wp2_with fail;refine (cK.o _).mono ?_;rintro e V ⟨ht,hV⟩;subst hV;rcases ht.split with ⟨rfl,hn⟩ | ⟨rfl,hy⟩
   ·have E:=hid (show qp bt bf bd=⟨30,2,[]⟩ by unfold qp; rw [if_neg (fun c=>c (p0 (by omega))),if_neg (fun c=>c (p1 (by omega)))]; rw [if_pos hn.o]);go_wp2;have F:=((B1.o.set 0 (.int .i64 30)).set 1 (.int .i64 2)).set 2 (.string ⟨#[]⟩);have h0:=F.cell 0;have h1:=F.cell 1;have h2:=F.cell 2;simp only [gH,gF,gG,bJ,bN,bL] at h0 h1 h2;refine bodyPost_ret (v:=gq ⟨30,2,[]⟩) ?_ rfl ⟨by rw [E.o],yA G1.o _ (by omega) _ _ _⟩;clear F z0 z1 z2 f0 f1 f2;generalize World.setCell _ _ _=WF at *;simp [results,Tryz.results63,go_sem,gq,bs,h0,h1,h2]
   ·go_wp2
    go_roundw
    case rel=>exact ⟨3,by omega,by go_num,trivial,fun _=>p0 (by omega),fun _=>p1 (by omega),fun _=>hy.o⟩
    case measure=>simp [intOf]
  ·have E:=hid (show qp bt bf bd=Ln.ok by unfold qp; rw [if_neg (fun c=>c (p0 (by omega))),if_neg (fun c=>c (p1 (by omega))),if_neg (fun c=>c (p2 (by omega)))]);go_wp2;have F:=((B1.o.set 0 (.int .i64 0)).set 1 (.int .i64 0)).set 2 (.string ⟨#[]⟩);have h0:=F.cell 0;have h1:=F.cell 1;have h2:=F.cell 2;simp only [gH,gF,gG,bJ,bN,bL] at h0 h1 h2;refine bodyPost_ret (v:=gq Ln.ok) ?_ rfl ⟨by rw [E.o],yA G1.o _ (by omega) _ _ _⟩;clear F z0 z1 z2 f0 f1 f2;generalize World.setCell _ _ _=WF at *;simp [results,Tryz.results63,go_sem,gq,Ln.ok,bs,h0,h1,h2]
def vk (l:List UInt8) (a:Bool) (os:List Lk.Obj):Prop :=
 (a=false/\zx l/\os=[Cr l])\/(a=true/\¬ zx l/\∃ ms,BA l ms/\os=ms.map Cr)
def Po (l:List UInt8):Prop:=¬ zx l/\∀ ms,¬ BA l ms
def qo (os:List Lk.Obj):List (Lk.Obj×Bool):=os.map fun o=>(o,false)
theorem Tryz.xP:(Tryz.prog.info? 159).map (fun i=>(i.zero,i.size,i.bytes))=some (some (.agg #[.pointer none,.bool false]),2,16):=by kernel_rfl
def ynD (W:World) (B:Nat) (v:Value) (a:Bool) (os:List Lk.Obj):Prop :=
 ∃ mg cap gs,v = .agg #[.bool a,.slice (some ⟨mg,0,none⟩) os.length cap]/\B<=mg/\sN W mg gs (qo os)/\os.length<=cap/\cap<=maxLen
def ylb (B:Nat) (l:List UInt8) (e:Ending) (w':World):Prop :=
 (∃ v a os,vk l a os/\e = .returned (.tuple #[v,.bool true])/\ynD w' B v a os)\/(Po l/\e = .returned (.tuple #[.agg #[.bool false,.slice none 0 0],.bool false]))
theorem VZ {w V:World} (h:w.grownBy V none) (r:Nat) (hr:w.heap.size<=r) (a b:Value):w.grownBy ((V.setCell ⟨r,0,none⟩ a).setCell ⟨r,1,none⟩ b) none :=
 yQ (yQ h (yf V r 0 a) (by intro k e; simp at e; omega)) (yf _ r 1 b) (by intro k e; simp at e; omega)
theorem ynW {V:World} {r:Nat} {cs:Array Value} {t:TypeId} (hb:yc V r cs t) (a b:Value):nU [t] V ((V.setCell ⟨r,0,none⟩ a).setCell ⟨r,1,none⟩ b) :=
 (nU.row (yf V r 0 a) (bS.blk hb) (by simp)).trans (nU.row (yf _ r 1 b) (bS.blk (hb.set 0 a)) (by simp))
theorem ysH (V:World) (r:Nat) (a b:Value):((V.setCell ⟨r,0,none⟩ a).setCell ⟨r,1,none⟩ b).heap.size=V.heap.size:=by simp [World.setCell]
def qY (gs:List Nat):List Value:=gs.flatMap fun g=>[aX g,.bool false]
theorem ypE:∀ (gs:List Nat) (i:Nat) (h:i < gs.length),(qY gs)[i * 2]?=some (aX gs[i])/\(qY gs)[i * 2+1]?=some (.bool false):=by
 intro gs
 induction gs with
 | nil=>intro i h; simp at h
 | cons g gs ih =>
  intro i h
  cases i with
  | zero=>exact ⟨rfl,rfl⟩
  | succ i =>
   have:=ih i (by simpa using h)
   have e:qY (g :: gs)=aX g :: .bool false :: qY gs:=rfl;rw [e,show (i+1) * 2=i * 2+1+1 by omega];simp only [bN,qc];exact this
theorem yot (gs:List Nat) (g:Nat):qY gs ++ [aX g,.bool false]=qY (gs ++ [g]):=by simp [qY]
theorem ysF (U:World) (g:Nat):∀ j u,[aX g,Value.bool false][j]?=some u->(U.alloc (.cells #[aX g,.bool false] 159)).cell? ((⟨U.heap.size,0,none⟩:Addr).add j)=some u:=by
 intro j u hu;have e:(⟨U.heap.size,0,none⟩:Addr).add j=⟨U.heap.size,j,none⟩:=by
  unfold Addr.add;by_cases h0:j=0
  ·subst h0; simp
  ·simp [h0]
 rw [e,(yc.new U #[aX g,.bool false] 159).cell j];simpa using hu
theorem Y2 {W:World} {mg:Nat} {gs:List Nat} {os:List Lk.Obj} {cur:Array Value} (hb:yc W mg cur 159) (ht:cur.toList.take (gs.length * 2)=qY gs) (hl:gs.length=os.length) (ho:∀ i (h:i < os.length),yv W (gs[i]'(by rw [hl]; exact h)) os[i]) (hs:∀ o∈os,o.syms.length<=65535):sN W mg gs (qo os):=by
 have fl:(qo os).length=os.length:=by simp [qo]
 refine ⟨by rw [fl]; exact hl,⟨cur,hb,fun i hi=>?_⟩,fun i hi=>?_,fun m hm=>?_⟩
 ·rw [fl] at hi;have hi2:i < gs.length:=by omega
  obtain ⟨q0,q1⟩:=ypE gs i hi2;rw [<- ht,List.getElem?_take,if_pos (by omega)] at q0;rw [<- ht,List.getElem?_take,if_pos (by omega)] at q1;have e:(qo os)[i]'(by rw [fl]; exact hi)=(os[i],false):=by simp [qo]
  rw [e];exact ⟨by simpa using q0,by simpa using q1⟩
 ·rw [fl] at hi;have e:(qo os)[i]'(by rw [fl]; exact hi)=(os[i],false):=by simp [qo]
  rw [e];exact ho i hi
 ·simp only [qo,List.mem_map] at hm;obtain ⟨o,ho',rfl⟩:=hm;exact hs o ho'
theorem ykx (s:ByteArray) (w:World) (ht:dV w) (hs:s.size<=1048576) :
  Calls Tryz.prog 64 #[.string s] w fun e w'=>ylb w.heap.size (sl s) e w'/\w.grownBy w' none:=by
 have G0:=hid (aH w (.cells #[.bool false,.slice none 0 0] 117) none);have B0:=hid (yc.new w #[.bool false,.slice none 0 0] 117);have cR:=hid (fun W (hg:w.grownBy W none)=>VG s W (ht.grown hg) hs);have cM:=hid (fun W (hg:w.grownBy W none)=>ylz s W (ht.grown hg) hs);have HT:=hid ht;clear ht;go_enter Tryz.func64,Tryz.ntmps64;go_wp2_with fail;refine (cR.o _ G0.o).mono ?_;rintro e W1 ⟨hr,hg1⟩;have G1:=hid (ya G0.o hg1);have B1:=hid (B0.o.grown hg1 (by simp));clear hg1;have z0:W1.cell? ⟨w.heap.size,0,none⟩=some (.bool false):=B1.o.cell 0;have z1:W1.cell? ⟨w.heap.size,1,none⟩=some (.slice none 0 0):=B1.o.cell 1
 have f0:=B1.o.free 0;have f1:=B1.o.free 1;have hlt:=B1.o.lt;rcases hr with ⟨o,g,h1,h2,rfl,h3,h4⟩ | ⟨h1,rfl⟩
 ·have HO:=hid h3;have HI:=hid (QC h1 h2);have hne:w.heap.size≠W1.heap.size:=by omega
  have hsy:o.syms.length<=65535:=(OW (MC h2)).1.2.2.2.2.1;clear h1 h2 h3 cM cR;go_wp2;have F2:=ynW B1.o (.bool false) (.slice (some ⟨W1.heap.size,0,none⟩) 1 1);have GF:=VZ G1.o w.heap.size (Nat.le_refl _) (.bool false) (.slice (some ⟨W1.heap.size,0,none⟩) 1 1);have SZ:=ysH W1 w.heap.size (.bool false) (.slice (some ⟨W1.heap.size,0,none⟩) 1 1);have BR:=(B1.o.set 0 (.bool false)).set 1 (.slice (some ⟨W1.heap.size,0,none⟩) 1 1);have Fv:=F2.obj HO.o (by decide) (by decide) (by decide) (by decide);generalize (W1.setCell ⟨w.heap.size,0,none⟩ (.bool false)).setCell ⟨w.heap.size,1,none⟩ (.slice (some ⟨W1.heap.size,0,none⟩) 1 1)=V at *
  have AL:=aH V (.cells #[.pointer (some ⟨g,0,none⟩),.bool false] 159) none;have BN:=yc.new V #[.pointer (some ⟨g,0,none⟩),.bool false] 159;rw [SZ] at BN;have wV:=BR.grown AL (by simp);have h0:=wV.cell 0;have h1:=wV.cell 1;simp only [gH,gF,gG,bJ,bN,bL] at h0 h1;have MM:sN (V.alloc (.cells #[.pointer (some ⟨g,0,none⟩),.bool false] 159)) W1.heap.size [g] (qo [o]):=Y2 BN rfl rfl (fun i hi=>by
   obtain rfl:i=0:=by simp at hi; omega
   exact Fv.kept AL) (fun x hx=>by simp at hx; subst hx; exact hsy)
  refine bodyPost_ret (v:=.tuple #[.agg #[.bool false,.slice (some ⟨W1.heap.size,0,none⟩) 1 1],.bool true]) ?_ rfl ⟨.inl ⟨_,false,[o],.inl ⟨rfl,HI.o.1,by rw [HI.o.2]⟩,rfl,W1.heap.size,1,[g],rfl,by omega,MM,by simp,by decide⟩,ya GF AL⟩;clear MM wV BR AL F2 GF BN z0 z1 f0 f1;generalize World.alloc _ _=WF at *;simp [results,Tryz.results64,go_sem,h0,h1]
 ·have HI:=hid (UC h1);clear h1 cR;go_wp2_with fail;refine (cM.o _ G1.o).mono ?_;rintro e W2 ⟨hm,hg2⟩;have G2:=hid (ya G1.o hg2);have B2:=hid (B1.o.grown hg2 (by simp));clear z0 z1 f0 f1 cM;have z0:W2.cell? ⟨w.heap.size,0,none⟩=some (.bool false):=B2.o.cell 0;have z1:W2.cell? ⟨w.heap.size,1,none⟩=some (.slice none 0 0):=B2.o.cell 1;have f0:=B2.o.free 0;have f1:=B2.o.free 1;rcases hm with ⟨ms,v,hA,rfl,hown⟩ | ⟨hA,rfl⟩
  ·obtain ⟨av,cv,rfl⟩:=yh hown;have HA:=hid hA;have HO:=hid hown;have hml:=hA.1;have Nj:=hid hA.2.1;clear hA hown z0 z1 f0 f1;have hcv:=rR HO.o;have hX:w.heap.size < W2.heap.size:=B2.o.lt;have A3:=hid (aH W2 (.cells #[.bool true,.slice none 0 0] 117) none);have B3:=hid (yc.new W2 #[.bool true,.slice none 0 0] 117);have R3:=hid (B2.o.grown A3.o (by simp));have S3:=hid (HO.o.alloc (.cells #[.bool true,.slice none 0 0] 117));have SZ3:=hid (show (W2.alloc (.cells #[.bool true,.slice none 0 0] 117)).heap.size=W2.heap.size+1 from Array.size_push _);have G3:=hid (ya G2.o A3.o);obtain ⟨i0,hi,hz0,hz1,hz2⟩:=info_parts Tryz.xP
   go_wp2;generalize W2.alloc (.cells #[.bool true,.slice none 0 0] 117)=W3 at *;generalize W2.heap.size=X at *
   go_loopw [34] (fun i wr=>∃ (k:Nat) (gs:List Nat) (vm:Value),k<=ms.length/\i = .int .i64 k/\gs.length=k/\yc wr X #[.bool true,vm] 117/\wr.ownsRow (X+1) 159 2 vm k (qY gs)/\(∀ j (h:j < k) (h1:j < gs.length) (h2:j < ms.length),yv wr gs[j] (Cr ms[j]))/\yc wr w.heap.size #[.bool false,.slice none 0 0] 117/\wr.ownsRow W1.heap.size 9 1 (.slice av ms.length cv) ms.length (wN ms)/\w.grownBy wr none/\X+1<=wr.heap.size) (fun i _=>ms.length - (intOf i).toNat)
   case atStart=>exact ⟨0,[],_,Nat.zero_le _,rfl,rfl,B3.o,World.ownsRow_nil _ _ _ _,fun j h=>by omega,R3.o,S3.o,G3.o,by rw [SZ3.o]; exact Nat.le_refl _⟩
   case round =>
    obtain ⟨k,gs,vm,hk,rfl,hgl,hb,hrow,oV,hres,hstr,hgw,hxs⟩:=hrel;obtain ⟨am,cm,rfl⟩:=yh hrow;have HB:=hid hb;have HRW:=hid hrow;have SG:=hid oV;have FZ:=hid hres;have HST:=hid hstr;have Ag:=hid hgw;clear hb hrow oV hres hstr hgw B3 R3 S3;by_cases hlt:k < ms.length
    ·have TS:=Nj.o ms[k] (iC hlt);have hsz:=Ra TS;obtain ⟨sg,hsg,-,-,-,hsc⟩:=Ld HST.o (by omega);have ck:=hsc k hlt;rw [show (wN ms)[k]?=some (.string (bs ms[k])) by simp [wN,List.getElem?_map,jW hlt]] at ck;have cR:=hid (VG (bs ms[k]) wr (HT.o.grown Ag.o) (by rw [w9]; omega));have g1:(k:Int) < (ms.length:Int):=by omega
     have KI:=hid TS;clear hsc TS hsz;generalize hmk:ms[k]=mk at *;have HMK:=hid hmk;clear hmk;subst hsg;go_wp2_with fail;refine cR.o.mono ?_;rintro e U5 ⟨Ug,h5⟩;rcases Ug with ⟨o,g,q1,q2,rfl,q3,q4⟩ | ⟨q1,rfl⟩
     ·rw [I4] at q1;have EO:=hid (QC q1 q2).2;have hsy:o.syms.length<=65535:=(OW (MC q2)).1.2.2.2.2.1;have Qh:=hid q3;have PN:=hid (HB.o.grown h5 (by simp));have WZ:=hid (HRW.o.kept h5 (by cases Value.ownBlock _ <;> simp));have WQ:=hid (fun j h h1 h2=>(SG.o j h h1 h2).kept h5);have Xk:=hid (FZ.o.grown h5 (by simp));have Xn:=hid (HST.o.kept h5 (by cases Value.ownBlock _ <;> simp));have LU:=hid (ya Ag.o h5);have hx5:X+1<=U5.heap.size:=Nat.le_trans hxs h5.size;clear q1 q2 q3 cR ck h5 HB HRW SG FZ HST Ag;have x1:U5.cell? ⟨X,1,none⟩=some (.slice am k cm):=PN.o.cell 1;have xf:=PN.o.free 1;have hcm:=rR WZ.o
      have CN:=hid (ysF U5 g);have AM:=hid (aH U5 (.cells #[aX g,.bool false] 159) none);have Fw:=hid (WZ.o.alloc (.cells #[aX g,.bool false] 159));have HBA:=hid (PN.o.grown AM.o (by simp));have hXr:X≠w.heap.size:=by omega
      have STEP:=hid (fun (v':Value) (w3:World) (hown':w3.ownsRow (X+1) 159 2 v' (k+1) (qY gs ++ [aX g,.bool false])) (hgrow:(U5.alloc (.cells #[aX g,.bool false] 159)).grownBy w3 (Value.ownBlock (.slice am k cm)))=>show (yc w3 X #[.bool true,.slice am k cm] 117)/\∃ (gs':List Nat),gs'.length=k+1/\yc (w3.setCell ⟨X,1,none⟩ v') X #[.bool true,v'] 117/\(w3.setCell ⟨X,1,none⟩ v').ownsRow (X+1) 159 2 v' (k+1) (qY gs')/\(∀ j (h:j < k+1) (h1:j < gs'.length) (h2:j < ms.length),yv (w3.setCell ⟨X,1,none⟩ v') gs'[j] (Cr ms[j]))/\yc (w3.setCell ⟨X,1,none⟩ v') w.heap.size #[.bool false,.slice none 0 0] 117/\(w3.setCell ⟨X,1,none⟩ v').ownsRow W1.heap.size 9 1 (.slice (some ⟨sg,0,none⟩) ms.length cv) ms.length (wN ms)/\w.grownBy (w3.setCell ⟨X,1,none⟩ v') none/\X+1<=(w3.setCell ⟨X,1,none⟩ v').heap.size by
       have RT:=bS.own Fw.o;have b3:=yN HBA.o hgrow RT (by decide);have gS:=yf w3 X 1 v';have RP:=bS.blk b3;refine ⟨b3,gs ++ [g],by simp [hgl],b3.set 1 v',?_,fun j h h1 h2=>?_,?_,?_,?_,?_⟩
       ·rw [<- yot];exact yB hown' gS RP (by decide)
       ·by_cases hjk:j < k
        ·rw [List.getElem_append_left (by omega)];exact uV (uV ((WQ.o j hjk (by omega) h2).kept AM.o) hgrow RT (by decide) (by decide) (by decide) (by decide)) gS RP (by decide) (by decide) (by decide) (by decide)
        ·obtain rfl:j=k:=by omega
         have e1:(gs ++ [g])[j]=g:=by simp [<- hgl]
         rw [e1,HMK.o,EO.o];exact uV (uV (Qh.o.kept AM.o) hgrow RT (by decide) (by decide) (by decide) (by decide)) gS RP (by decide) (by decide) (by decide) (by decide)
       ·exact (yN (Xk.o.grown AM.o (by simp)) hgrow RT (by decide)).grown gS (by simp; omega)
       ·exact yB (yB (Xn.o.alloc _) hgrow RT (by decide)) gS RP (by decide)
       ·exact yQ (yQ (ya LU.o AM.o) hgrow (fun b e=>by have:=(Fw.o.lt b e).1; omega)) gS (by intro b e; simp at e; omega)
       ·have:=gS.size
        have:=hgrow.size
        have:=AM.o.size
        omega)
      clear WQ Qh Xk Xn LU PN;unfold aX at CN Fw STEP;go_wp2_with (at_builtin; refine QF _ rfl _ _ 115 rfl (X+1) 159 i0 (.agg #[.pointer none,.bool false]) 2 16 Tryz.underlying115 hi hz0 hz1 hz2 rfl (by decide) _ _ _ rfl Fw.o ⟨U5.heap.size,0,none⟩ 1 1 [.pointer (some ⟨g,0,none⟩),.bool false] rfl rfl CN.o (by intro u hu; simp at hu; rcases hu with rfl | rfl <;> rfl) (by unfold maxLen; omega) (by omega) (by simp; omega) ?_; intro v' w3 hown' hgrow hblk; obtain ⟨oP,cv',rfl⟩:=yh hown'; obtain ⟨b3,gs',r1,r2,r3,r4,r5,r6,r7,r8⟩:=STEP.o _ _ hown' hgrow; have k1:=b3.cell 1; have k1f:=b3.free 1; have Q1:=hid r2; have Q2:=hid r3; have Q3:=hid r4; have Q4:=hid r5; have Q5:=hid r6; have Q6:=hid r7; have Q7:=hid r8; clear hgrow hown' b3 r2 r3 r4 r5 r6 r7 r8 hblk)
      go_roundw
      case rel=>exact ⟨k+1,gs',_,by omega,by go_num,r1,Q1.o,Q2.o,Q3.o,Q4.o,Q5.o,Q6.o,Q7.o⟩
      case measure=>simp [intOf]; omega
     ·exact absurd KI.o (UC (by rw [I4] at q1; exact q1))
    ·obtain rfl:k=ms.length:=by omega
     have g3:decide ((ms.length:Int) < (ms.length:Int))=false:=by simp
     have x0:wr.cell? ⟨X,0,none⟩=some (.bool true):=HB.o.cell 0;have x1:wr.cell? ⟨X,1,none⟩=some (.slice am ms.length cm):=HB.o.cell 1;have z0:wr.cell? ⟨w.heap.size,0,none⟩=some (.bool false):=FZ.o.cell 0;have z1:wr.cell? ⟨w.heap.size,1,none⟩=some (.slice none 0 0):=FZ.o.cell 1;have f0:=FZ.o.free 0;have f1:=FZ.o.free 1;have hXr:X≠w.heap.size:=by omega
     have aad:w.heap.size≠X:=by omega
     go_wp2;have F2:=ynW FZ.o (.bool true) (.slice am ms.length cm);have GF:=VZ Ag.o w.heap.size (Nat.le_refl _) (.bool true) (.slice am ms.length cm);have BR:=(FZ.o.set 0 (.bool true)).set 1 (.slice am ms.length cm);have h0:=BR.cell 0;have h1:=BR.cell 1;simp only [gH,gF,gG,bJ,bN,bL] at h0 h1;have Xl:=F2.own HRW.o (by decide);have FA:ynD ((wr.setCell ⟨w.heap.size,0,none⟩ (.bool true)).setCell ⟨w.heap.size,1,none⟩ (.slice am ms.length cm)) w.heap.size (.agg #[.bool true,.slice am ms.length cm]) true (ms.map Cr):=by
      rcases Xl.2 with ⟨q1,q2⟩ | ⟨mg,cap,cur,hv,hb,hg,r3,r4,r5,r6⟩
      ·omega
      ·simp only [Value.slice.injEq] at hv;obtain ⟨rfl,-,rfl⟩:=hv;refine ⟨mg,cm,gs,by simp,by omega,Y2 hg (by rw [hgl]; exact r6) (by simp [hgl]) (fun i hi=>?_) (fun o ho=>?_),by simpa using r3,r4⟩
       ·simp only [sU] at hi;rw [List.getElem_map];exact F2.obj (SG.o i hi (by omega) hi) (by decide) (by decide) (by decide) (by decide)
       ·obtain ⟨m,hm,rfl⟩:=List.mem_map.1 ho;exact (OW (MC (Nj.o m hm).1)).1.2.2.2.2.1
     refine bodyPost_ret (v:=.tuple #[.agg #[.bool true,.slice am ms.length cm],.bool true]) ?_ rfl ⟨.inl ⟨_,true,ms.map Cr,.inr ⟨rfl,HI.o,ms,HA.o,rfl⟩,rfl,FA⟩,GF⟩;clear FA Xl BR GF F2 x0 x1 z0 z1 f0 f1;generalize World.setCell _ _ _=WF at *;simp [results,Tryz.results64,go_sem,h0,h1]
  ·have N:=hid (show Po (sl s) from ⟨HI.o,hA⟩);clear hA;go_wp2;have BR:=(B2.o.set 0 (.bool false)).set 1 (.slice none 0 0);have h0:=BR.cell 0;have h1:=BR.cell 1;simp only [gH,gF,gG,bJ,bN,bL] at h0 h1;refine bodyPost_ret (v:=.tuple #[.agg #[.bool false,.slice none 0 0],.bool false]) ?_ rfl ⟨.inr ⟨N.o,rfl⟩,VZ G2.o w.heap.size (Nat.le_refl _) _ _⟩;clear BR z0 z1 f0 f1;generalize World.setCell _ _ _=WF at *;simp [results,Tryz.results64,go_sem,h0,h1]
namespace Ln
def gL (os:List Lk.Obj) (x:Bool×List Lk.Obj):List Lk.Obj:=if x.1 then gK (x.2.length+1) (qo x.2) os else os ++ x.2
def bQ (xs:List (Bool×List Lk.Obj)):List Lk.Obj:=xs.foldl gL []
end Ln
theorem Rn (os:List Lk.Obj):(qo os).length=os.length:=by simp [qo]
theorem UE (os:List Lk.Obj):sQ (qo os)=os.length:=by
 unfold sQ qo;rw [List.filter_eq_self.2 (by intro x hx; obtain ⟨o,_,rfl⟩:=List.mem_map.1 hx; rfl),sU]
theorem ykO (W0:World) (P:Nat) (bt bf bd:Int) (vm:Value) (bl gl:List Nat) (os:List Lk.Obj) (mg cm:Nat) (gs:List Nat) (a:Bool) (ms:List Lk.Obj) (W:World) (h:qm W0 P bt bf bd vm bl gl os W) (hm:sN W mg gs (qo ms)) (hc:bl.length+ms.length<=4096) (hml:W0.heap.size<=mg) (hcm:ms.length<=cm/\cm<=maxLen) :
  Calls Tryz.prog 65 #[aX P,.agg #[.bool a,.slice (some ⟨mg,0,none⟩) ms.length cm]] W fun e W'=>e = .returned (.tuple #[])/\(∃ OG NJ TQ,qm W0 P bt bf bd OG NJ TQ (Ln.gL os (a,ms)) W'/\NJ.length<=bl.length+ms.length)/\uU [121,125] mg W W':=by
 have A0:=hid (aH W (.cells #[.bool a,.slice (some ⟨mg,0,none⟩) ms.length cm] 117) none);have B0:=hid (yc.new W #[.bool a,.slice (some ⟨mg,0,none⟩) ms.length cm] 117);have H0:=hid (h.kept A0.o);have M0:=hid (hm.kept A0.o);have F0:=hid ((nU.grown (ts:=[121,125]) A0.o).x mg);have hcm2:=hcm.2;unfold maxLen at hcm2;have hmm:mg < W.heap.size:=by
  obtain ⟨cur,hb,-⟩:=hm.row;exact hb.lt
 clear h hm
 cases a with
 | true =>
  have cT:=hid (yhB W0 P bt bf bd vm bl gl os mg cm gs (qo ms) _ H0.o M0.o (by rw [UE]; omega) hml (by rw [Rn]; omega) (by rw [Rn]; exact hcm));rw [Rn,UE] at cT;have E:=hid (show Ln.gL os (true,ms)=Ln.gK (ms.length+1) (qo ms) os from rfl);unfold aX at *;go_enter Tryz.func65,Tryz.ntmps65;go_wp2_with fail;refine cT.o.mono ?_;rintro e W5 ⟨rfl,hg,hf⟩;have HG:=hid hg;have HF:=hid (F0.o.trans hf);clear hg hf cT;go_wp2
  (try simp only [Exit.inBlock,Exit.then]); refine bodyPost_ret (results_none rfl _ _ _) rfl ?_
  rw [E.o];exact ⟨rfl,HG.o,HF.o⟩
 | false =>
  have E:=hid (show Ln.gL os (false,ms)=os ++ ms from rfl);unfold aX at *;go_enter Tryz.func65,Tryz.ntmps65;go_wp2;generalize W.alloc (.cells #[.bool false,.slice (some ⟨mg,0,none⟩) ms.length cm] 117)=W1 at *
  go_loopw [15] (fun i wr=>∃ (k:Nat) (xH C8:List Nat) (IE:Value),k<=ms.length/\i = .int .i64 k/\qm W0 P bt bf bd IE xH C8 (os ++ ms.take k) wr/\sN wr mg gs (qo ms)/\xH.length=bl.length+k/\uU [121,125] mg W wr) (fun i _=>ms.length - (intOf i).toNat)
  case atStart=>exact ⟨0,bl,gl,vm,Nat.zero_le _,rfl,by simpa using H0.o,M0.o,rfl,F0.o⟩
  case round =>
   obtain ⟨k,xH,C8,IE,hk,rfl,hg,hm,hb,hf⟩:=hrel;have HG:=hid hg;have HM:=hid hm;have HF:=hid hf;clear hg hm hf H0 M0 F0;by_cases hlt:k < ms.length
   ·have hk2:k < (qo ms).length:=by rw [Rn]; exact hlt
    obtain ⟨m0,m1,-⟩:=HM.o.cells k hk2;have OB:=hid (HM.o.objs k hk2);have SY:=HM.o.syms _ (iC hk2);have e1:(qo ms)[k]=(ms[k],false):=by simp [qo]
    rw [e1] at m1 OB SY;dsimp only at m1 OB SY;have TK:=hid (show ms.take (k+1)=ms.take k ++ [ms[k]] from List.take_succ_eq_append_getElem hlt);unfold aX at m0;generalize gs[k]'_=gj at *;generalize ms[k]=oj at *;have g1:(k:Int) < (ms.length:Int):=by omega
    have AL:=hid (aH wr (.cells #[.pointer (some ⟨gj,0,none⟩),.bool false] 159) none);have cT:=hid (Z5 W0 P bt bf bd IE xH C8 (os ++ ms.take k) gj oj _ (HG.o.kept AL.o) (OB.o.kept AL.o) (by omega) SY);have Jd:=hid (HM.o.kept AL.o);have nJ:=hid (HF.o.trans ((nU.grown AL.o).x mg));clear e1;unfold aX at cT;go_wp2_with fail;refine cT.o.mono ?_;rintro e W7 ⟨rfl,⟨Yd,b7,h7⟩,f7⟩;have Ni:=hid h7;have jP:=hid (Jd.o.frame f7 (by decide) (by decide) (by decide) (by decide) (by decide));have Ng:=hid (nJ.o.trans (f7.x mg));clear h7 f7 cT m0 m1;go_wp2
    go_roundw
    case rel=>exact ⟨k+1,_,_,_,by omega,by go_num,by rw [TK.o,<- List.append_assoc]; exact Ni.o,jP.o,by simp; omega,Ng.o⟩
    case measure=>simp [intOf]; omega
   ·obtain rfl:k=ms.length:=by omega
    have g3:decide ((ms.length:Int) < (ms.length:Int))=false:=by simp
    go_wp2
    go_end0
    rw [E.o];exact ⟨rfl,⟨IE,xH,C8,by have:=HG.o; rw [List.take_length] at this; exact this,by omega⟩,HF.o⟩
end Go.Proofs.YtpgklkhgfcjceaaGreatDoor
