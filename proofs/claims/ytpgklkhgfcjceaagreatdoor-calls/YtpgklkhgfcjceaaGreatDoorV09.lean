
import Derived.Test.YtpgklkhgfcjceaaGreatDoorV08
set_option maxHeartbeats 16000000
namespace Go.Proofs.YtpgklkhgfcjceaaGreatDoor
open Go.RowKit
def qN (w:World) (b:Nat) (ao:Option Addr) (xs:List Int):Prop :=
 0 < xs.length->∃ g cs,ao=some ⟨g,0,none⟩/\g≠b/\yc w g cs 3/\∀ i (h:i < xs.length),cs[i]?=some (.int .i64 xs[i])
theorem qN.kept {w w':World} {b:Nat} {ao:Option Addr} {xs:List Int} (h:qN w b ao xs) (hk:Wk b w w'):qN w' b ao xs:=by
 intro h0
 obtain ⟨g,cs,h1,h2,h3,h4⟩:=h h0
 exact ⟨g,cs,h1,h2,hk.2 g cs _ h2 (by decide) h3,h4⟩
theorem qN.aR {w:World} {base b:Nat} {ao:Option Addr} {n cap:Nat} {xs:List Int} (h:w.ownsRow base 3 1 (.slice ao n cap) n (xs.map (Value.int .i64))) (hb:∀ g,Value.ownBlock (.slice ao n cap)=some g->g≠b):qN w b ao xs:=by
 intro h0
 have hn:xs.length=n:=by have:=h.1; simpa using this
 rcases h.2 with ⟨h1,h2⟩ | ⟨g,cap',cur,hv,_,hh,_,_,hcs,htk⟩
 ·simp at h1; omega
 ·simp only [Value.slice.injEq] at hv
  obtain ⟨rfl,_,rfl⟩:=hv
  refine ⟨g,cur,rfl,hb g rfl,hh,fun i hi=>?_⟩
  have e:(cur.toList.take (n * 1))[i]?=(xs.map (Value.int .i64))[i]?:=by rw [htk]
  rw [List.getElem?_take,if_pos (by omega)] at e
  rw [<- Array.getElem?_toList,e]
  simp [hi]
theorem yF (b:Nat) (n:Int) (size:Nat) (ms:Int) (hms:ms=(size:Int)) (l:List UInt8) (w:World) (h:gD w b l) (hl:l.length<=16777216) (hs:size<=4) (hn0:-1099511627776<=n) (hn1:n<=1099511627776) :
  Calls Tryz.prog 58 #[.pointer (some ⟨b,0,none⟩),.int .i64 n,.int .i64 ms] w fun e w'=>e = .returned (.tuple #[])/\gD w' b (l ++ Lk.le n size)/\Wk b w w':=by
 subst hms; exact UJ b n size l w h hl hs hn0 hn1
theorem yoo (xs:List Int) (k size:Nat) (h:k < xs.length):Lk.nums (xs.take (k+1)) size=Lk.nums (xs.take k) size ++ Lk.le xs[k] size:=by
 unfold Lk.nums
 rw [List.take_succ_eq_append_getElem h,List.flatMap_append]
 simp
theorem DX (xs:List Int) (size:Nat):(Lk.nums xs size).length=xs.length * size:=by
 unfold Lk.nums
 induction xs with
 | nil=>simp
 | cons x t ih=>simp only [List.flatMap_cons,fu,ih,Lk.aA,iE,Nat.succ_mul]; omega
theorem FN (b:Nat) (ao:Option Addr) (cap size:Nat) (ms:Int) (hms:ms=(size:Int)) (xs:List Int) (l:List UInt8) (w:World) (h:gD w b l) (hI:qN w b ao xs)
  (hl:l.length<=1048576) (hs:size<=4) (hn:xs.length<=65535) (hx:∀ i (h:i < xs.length),-1099511627776<=xs[i]/\xs[i]<=1099511627776) :
  Calls Tryz.prog 59 #[.pointer (some ⟨b,0,none⟩),.slice ao xs.length cap,.int .i64 ms] w fun e w'=>e = .returned (.tuple #[])/\gD w' b (l ++ Lk.nums xs size)/\Wk b w w':=by
 subst hms
 have H:=hid h
 have HI:=hid hI
 have HX:=hid hx
 clear h hI hx
 go_enter Tryz.func59,Tryz.ntmps59
 go_wp2
 go_loopw [10] (fun i wr=>∃ k:Nat,k<=xs.length/\i = .int .i64 k/\gD wr b (l ++ Lk.nums (xs.take k) size)/\Wk b w wr) (fun i _=>xs.length - (intOf i).toNat)
 case atStart=>exact ⟨0,Nat.zero_le _,rfl,by simpa [Lk.nums] using H.o,Wk.refl _ _⟩
 case round =>
  obtain ⟨k,hk,rfl,hw,hbel⟩:=hrel
  have HW:=hid hw
  have HB:=hid hbel
  clear hw hbel
  by_cases hlt2:k < xs.length
  ·obtain ⟨g,cs,hao,-,hbk,hc⟩:=HI.o.kept HB.o (by omega)
   subst hao
   have hck:=(hbk.cell k).trans (hc k hlt2)
   clear hbk
   have hxk:=HX.o k hlt2
   have hlen:(l ++ Lk.nums (xs.take k) size).length<=16777216:=by
    rw [fu,DX,List.length_take_of_le (by omega)]
    have:k * size<=k * 4:=Nat.mul_le_mul_left k hs
    omega
   have cN:=hid (fun W h=>UJ b xs[k] size (l ++ Lk.nums (xs.take k) size) W h hlen hs hxk.1 hxk.2)
   clear hc hlen
   go_wp2_with fail
   refine (cN.o _ HW.o).mono ?_
   rintro e w2 ⟨rfl,hw2,hb2⟩
   have HW2:=hid hw2
   have HB2:=hid (HB.o.trans hb2)
   clear hw2 hb2
   go_wp2
   go_roundw
   case rel=>exact ⟨k+1,by omega,by go_num,by rw [yoo xs k size hlt2,<- List.append_assoc]; exact HW2.o,HB2.o⟩
   case measure=>simp [intOf]; omega
  ·go_wp2
   go_end0
   have e:xs.take k=xs:=List.take_of_length_le (by omega)
   have hw:=HW.o
   rw [e] at hw
   exact ⟨rfl,hw,HB.o⟩
structure xX (w:World) (b v:Nat) (t:TypeId) (cs:Array Value) (l:List UInt8) (W:World):Prop where
 wr:gD W b l
 own:yc W v cs t
 wk:Wk b w W
theorem xX.begin {w:World} {b:Nat} {l:List UInt8} (h:gD w b l) (cs:Array Value) (t:TypeId):xX w b w.heap.size t cs l (w.alloc (.cells cs t)):=by
 obtain ⟨ao,cap,h1,h2⟩:=h
 exact ⟨⟨ao,cap,h1.grown (aH _ _ none) (by simp),h2.alloc _⟩,yc.new _ _ _,(Wk.refl b w).alloc (Nat.le_of_lt h1.lt) _⟩
theorem xX.step {w W W':World} {b v:Nat} {t:TypeId} {cs:Array Value} {l l':List UInt8} (h:xX w b v t cs l W) (hv:v≠b) (ht:t≠5) (hw:gD W' b l') (hk:Wk b W W'):xX w b v t cs l' W' :=
 ⟨hw,hk.2 v cs t hv ht h.own,h.wk.trans hk⟩
theorem Y8 (b:Nat) (y:Lk.Sym) (l:List UInt8) (w:World) (h:gD w b l) (hl:l.length<=1048576) (hg:Lk.kS y) :
  Calls Tryz.prog 60 #[.pointer (some ⟨b,0,none⟩),.agg #[.string (bs y.name),.int .i64 y.bind,.int .i64 y.ah,.int .i64 y.off]] w fun e w'=>e = .returned (.tuple #[])/\gD w' b (l ++ Lk.iO y)/\Wk b w w':=by
 obtain ⟨hn,⟨hb0,hb1⟩,⟨hs0,hs1⟩,ho0,ho1⟩:=hg
 have hvb:w.heap.size≠b:=by obtain ⟨_,_,h1,_⟩:=h; have:=h1.lt; omega
 have S0:=hid (xX.begin h #[.string (bs y.name),.int .i64 y.bind,.int .i64 y.ah,.int .i64 y.off] 100)
 have hsz:((bs y.name).size:Int)=(y.name.length:Int):=by rw [Ao]
 have hsz2:(bs y.name).size=y.name.length:=Ao _
 have c1:=hid (fun W (h:gD W b l)=>yF b ((bs y.name).size:Int) 1 1 rfl l W h (by omega) (by omega) (by omega) (by omega))
 have c2:=hid (fun W (h:gD W b (l ++ Lk.le y.name.length 1))=>Pq b (bs y.name) (l ++ Lk.le y.name.length 1) W h (by rw [fu,Lk.aA]; omega) (by omega))
 have c3:=hid (fun W (h:gD W b (l ++ Lk.le y.name.length 1 ++ y.name))=>yF b y.bind 1 1 rfl (l ++ Lk.le y.name.length 1 ++ y.name) W h (by rw [fu,fu,Lk.aA]; omega) (by omega) (by omega) (by omega))
 have c4:=hid (fun W (h:gD W b (l ++ Lk.le y.name.length 1 ++ y.name ++ Lk.le y.bind 1))=>yF b y.ah 1 1 rfl (l ++ Lk.le y.name.length 1 ++ y.name ++ Lk.le y.bind 1) W h (by rw [fu,fu,fu,Lk.aA,Lk.aA]; omega) (by omega) (by omega) (by omega))
 have c5:=hid (fun W (h:gD W b (l ++ Lk.le y.name.length 1 ++ y.name ++ Lk.le y.bind 1 ++ Lk.le y.ah 1))=>yF b y.off 2 2 rfl (l ++ Lk.le y.name.length 1 ++ y.name ++ Lk.le y.bind 1 ++ Lk.le y.ah 1) W h (by rw [fu,fu,fu,fu,Lk.aA,Lk.aA,Lk.aA]; omega) (by omega) (by omega) (by omega))
 have HS:=hid hsz
 have HSL:=hid (Dj y.name)
 clear h hsz hsz2
 go_enter Tryz.func60,Tryz.ntmps60
 go_wp2_with fail
 refine Calls.aJ (xX w b w.heap.size 100 #[.string (bs y.name),.int .i64 y.bind,.int .i64 y.ah,.int .i64 y.off] l) S0.o ?_
 intro W1 s1
 refine (c1.o W1 s1.wr).mono ?_
 rintro e W2 ⟨rfl,hw,hk⟩
 rw [HS.o] at hw
 have S2:=hid (s1.step hvb (by decide) hw hk)
 have k0:=S2.o.own.cell 0
 clear hw hk s1
 go_wp2_with fail
 refine (c2.o W2 S2.o.wr).mono ?_
 rintro e W3 ⟨rfl,hw,hk⟩
 rw [HSL.o] at hw
 have S3:=hid (S2.o.step hvb (by decide) hw hk)
 have k1:=S3.o.own.cell 1
 clear hw hk k0
 go_wp2_with fail
 refine (c3.o W3 S3.o.wr).mono ?_
 rintro e W4 ⟨rfl,hw,hk⟩
 have S4:=hid (S3.o.step hvb (by decide) hw hk)
 have k2:=S4.o.own.cell 2
 clear hw hk k1
 go_wp2_with fail
 refine (c4.o W4 S4.o.wr).mono ?_
 rintro e W5 ⟨rfl,hw,hk⟩
 have S5:=hid (S4.o.step hvb (by decide) hw hk)
 have k3:=S5.o.own.cell 3
 clear hw hk k2
 go_wp2_with fail
 refine (c5.o W5 S5.o.wr).mono ?_
 rintro e W6 ⟨rfl,hw,hk⟩
 have S6:=hid (S5.o.step hvb (by decide) hw hk)
 clear hw hk k3
 go_wp2
 go_end0
 refine ⟨rfl,?_,S6.o.wk⟩
 have:=S6.o.wr
 simpa [Lk.iO] using this
def Ci (l:List UInt8) (p n:Nat):List UInt8:=(l.drop p).take n
def Ia (l:List UInt8) (p:Nat):Nat->List Int
 | 0=>[]
 | n+1=>Ia l p n ++ [dA l (p+4 * n) 4]
theorem UE (y:Lk.Sym):(Lk.iO y).length=5+y.name.length:=by
 simp only [Lk.iO,fu,Lk.aA]
 omega
theorem O9 (r:Lk.Rel):(Lk.iC r).length=7:=by
 simp only [Lk.iC,fu,Lk.aA]
theorem GH (ys:List Int) (n:Nat):(Lk.nums ys n).length=n * ys.length:=by
 induction ys with
 | nil=>rfl
 | cons y t ih=>simp only [Lk.nums,List.flatMap_cons,fu,Lk.aA,iE,Nat.mul_add] at *; omega
theorem UU {o:Lk.Obj} (h:Gh o) (ah:Int):(yp o ah).length<=1200:=by
 obtain ⟨⟨n1,n2,n3⟩,-⟩:=h
 unfold yp
 split
 ·exact n1
 split
 ·exact n2
 split
 ·omega
 ·simp
theorem Pz {xs:List Int} (h:qO xs):Lk.iQ 4 xs:=fun x hx=>by
 obtain ⟨i,hi,rfl⟩:=List.getElem_of_mem hx
 have:=h i hi
 simp only [Int.reducePow]
 omega
theorem Ho {o:Lk.Obj} (h:yw o):Lk.kR o:=by
 obtain ⟨hz,hb,hw,hs,hr⟩:=h
 have hz':=hz
 obtain ⟨⟨n1,n2,n3⟩,n4,n5,n6⟩:=hz
 refine ⟨by omega,by omega,by omega,by omega,hb.1,?_,by omega,by omega,?_,?_,Pz hw.1,Pz hw.2.1,Pz hw.2.2⟩
 ·intro x hx
  obtain ⟨i,hi,rfl⟩:=List.getElem_of_mem hx
  have:=hb.2 i hi
  simp only [Int.reducePow]
  omega
 ·intro y hy
  obtain ⟨i,hi,rfl⟩:=List.getElem_of_mem hy
  obtain ⟨⟨k1,k2,k3,-,k4,-,k5⟩,-⟩:=hs i hi
  have hl:(bs (o.syms[i]).name).size=(o.syms[i]).name.length:=rfl
  have k6:=k1.2.1
  have hw:=UU hz' (o.syms[i]).ah
  refine ⟨by omega,by omega,by omega,by omega,?_⟩
  unfold uV at k5
  split at k5 <;> omega
 ·intro r hr'
  obtain ⟨i,hi,rfl⟩:=List.getElem_of_mem hr'
  obtain ⟨⟨k1,k2,k3,-,k5,-,-⟩,-⟩:=hr i hi
  have hsp:=Al k2
  have hw:=UU hz' (o.aj[i]).ah
  unfold Bg at k5
  unfold Bj at k1
  unfold Gi at k3
  unfold qz at k2
  refine ⟨by omega,by omega,by omega,?_,?_⟩
  ·split at k3 <;> omega
  ·split at k2
   ·omega
   ·split at k2 <;> omega
theorem Vy {α:Type} (f:α->List UInt8) (m:Nat) (xs:List α) (h:∀ x∈xs,(f x).length<=m):(xs.flatMap f).length<=m * xs.length:=by
 induction xs with
 | nil=>simp
 | cons x t ih =>
  have h1:=h x (by simp)
  have h2:=ih (fun y hy=>h y (by simp [hy]))
  simp only [List.flatMap_cons,fu,iE,Nat.mul_add]
  omega
theorem UH {o:Lk.Obj} (h:yw o):(Lk.iY o).length<=65535:=by
 obtain ⟨hz,hb,hw,hs,hr⟩:=h
 obtain ⟨⟨n1,n2,n3⟩,n4,n5,n6⟩:=hz
 have e1:(o.syms.flatMap Lk.iO).length<=11 * o.syms.length:=Vy _ _ _ fun y hy=>by
  obtain ⟨i,hi,rfl⟩:=List.getElem_of_mem hy
  have k6:=(hs i hi).1.1.2.1
  have hl:(bs (o.syms[i]).name).size=(o.syms[i]).name.length:=rfl
  rw [UE]
  omega
 have e2:(o.aj.flatMap Lk.iC).length<=7 * o.aj.length:=Vy _ _ _ fun y _=>by rw [O9]; omega
 have e3:=GH o.align 1
 have e4:=GH o.text 4
 have e5:=GH o.far 4
 have e6:=GH o.data 4
 have:=hb.1
 simp only [Lk.iY,fu,Lk.aA,iE,List.length_nil]
 omega
theorem yM {l a rest:List UInt8} {p:Nat} (h:l.drop p=a ++ rest):l.drop (p+a.length)=rest:=by
 rw [<- List.drop_drop,h,List.drop_left]
theorem pW {l rest:List UInt8} {v:Int} {p n:Nat} (h:l.drop p=Lk.le v n ++ rest) (h0:0<=v) (h1:v < (256:Int) ^ n):dA l p n=v:=by
 induction n generalizing p v with
 | zero=>simp [dA]; simp at h1; omega
 | succ n ih =>
  simp only [Lk.le,List.cons_append] at h
  have hlt:p < l.length:=by
   have:=congrArg List.length h
   simp at this
   omega
  have hg:l.getD p 0=UInt8.ofNat (v % 256).toNat:=by
   have h2:(l.drop p)[0]?=some (UInt8.ofNat (v % 256).toNat):=by rw [h]; rfl
   rw [List.getElem?_drop] at h2
   rw [jY]
   simp only [Nat.add_zero] at h2
   rw [h2]
   rfl
  have hd:l.drop (p+1)=Lk.le (v / 256) n ++ rest:=by
   rw [<- List.drop_drop,h]
   rfl
  rw [Int.pow_succ] at h1
  have hi:=ih hd (by omega) (by omega)
  simp only [dA,hi,hg]
  have hm:(UInt8.ofNat (v % 256).toNat).toNat=(v % 256).toNat:=by
   rw [UInt8.toNat_ofNat']
   omega
  rw [hm]
  omega
theorem Wj {l x rest:List UInt8} {p:Nat} (h:l.drop p=x ++ rest):Ci l p x.length=x:=by
 unfold Ci
 rw [h,List.take_left]
theorem Ph {l rest:List UInt8} {xs:List Int} {p:Nat} (h:l.drop p=Lk.nums xs 4 ++ rest) (hg:Lk.iQ 4 xs) (k:Nat) (hk:k<=xs.length):Ia l p k=xs.take k:=by
 induction k with
 | zero=>rfl
 | succ k ih =>
  have hk':k < xs.length:=by omega
  rw [Ia,ih (by omega),List.take_succ_eq_append_getElem hk']
  congr 2
  have hlen:∀ ys:List Int,(Lk.nums ys 4).length=4 * ys.length:=by
   intro ys
   induction ys with
   | nil=>rfl
   | cons y t ih=>simp only [Lk.nums,List.flatMap_cons,fu,Lk.aA,iE] at *; omega
  have e:l.drop p=Lk.nums (xs.take k) 4 ++ (Lk.le xs[k] 4 ++ (Lk.nums (xs.drop (k+1)) 4 ++ rest)):=by
   have e0:xs=xs.take k ++ xs[k] :: xs.drop (k+1):=by rw [<- kP hk',List.take_append_drop]
   rw [h]
   refine (congrArg (fun z=>Lk.nums z 4 ++ rest) e0).trans ?_
   simp only [Lk.nums,List.flatMap_append,List.flatMap_cons,List.append_assoc]
  have e2:=yM e
  rw [hlen,List.length_take,Nat.min_eq_left (by omega)] at e2
  exact pW e2 (hg _ (gW hk')).1 (hg _ (gW hk')).2
def QE (l:List UInt8) (p:Nat):Lk.Sym :=
 ⟨Ci l (p+1) (dA l p 1).toNat,dA l (p+1+(dA l p 1).toNat) 1,dA l (p+2+(dA l p 1).toNat) 1,dA l (p+3+(dA l p 1).toNat) 2⟩
def Aq (l:List UInt8):Nat->List Lk.Sym×Nat
 | 0=>([],16)
 | k+1=>((Aq l k).1 ++ [QE l (Aq l k).2],(Aq l k).2+5+(dA l (Aq l k).2 1).toNat)
def Qw (l:List UInt8) (p:Nat):Lk.Rel:=⟨dA l p 1,dA l (p+2) 2,dA l (p+1) 1,dA l (p+4) 1,Lk.xB (dA l (p+5) 2)⟩
def ME (l:List UInt8) (p:Nat):Nat->List Lk.Rel
 | 0=>[]
 | k+1=>ME l p k ++ [Qw l (p+7 * k)]
def xI (l:List UInt8):Lk.Obj :=
 ⟨Ia l ((Aq l (dA l 14 1).toNat).2+7 * (dA l 15 1).toNat) (min (dA l 2 2).toNat 1201),
 Ia l ((Aq l (dA l 14 1).toNat).2+7 * (dA l 15 1).toNat+4 * (dA l 2 2).toNat) (min (dA l 4 2).toNat 1201),
 Ia l ((Aq l (dA l 14 1).toNat).2+7 * (dA l 15 1).toNat+4 * (dA l 2 2).toNat+4 * (dA l 4 2).toNat) (min (dA l 6 2).toNat 1201),
 dA l 8 2,[dA l 10 1,dA l 11 1,dA l 12 1,dA l 13 1],(Aq l (dA l 14 1).toNat).1,ME l (Aq l (dA l 14 1).toNat).2 (dA l 15 1).toNat⟩
theorem ypP {l rest:List UInt8} {y:Lk.Sym} {p:Nat} (h:l.drop p=Lk.iO y ++ rest) (hy:Lk.kS y):QE l p=y/\(dA l p 1).toNat=y.name.length:=by
 obtain ⟨nm,b,s,f⟩:=y
 obtain ⟨h1,h2,h3,h4⟩:=hy
 simp only at h1 h2 h3 h4
 simp only [Lk.iO,List.append_assoc] at h
 have a0:dA l p 1=(nm.length:Int):=pW h (by omega) (by simp; omega)
 have d1:=yM h
 rw [Lk.aA] at d1
 have d2:=yM d1
 have d3:=yM d2
 rw [Lk.aA] at d3
 have d4:=yM d3
 rw [Lk.aA] at d4
 have e0:(dA l p 1).toNat=nm.length:=by rw [a0]; omega
 refine ⟨?_,e0⟩
 unfold QE
 rw [e0]
 have a1:=Wj d1
 have a2:dA l (p+1+nm.length) 1=b:=pW d2 h2.1 (by simpa using h2.2)
 have a3:dA l (p+2+nm.length) 1=s:=by
  rw [show p+2+nm.length=p+1+nm.length+1 from by omega]
  exact pW d3 h3.1 (by simpa using h3.2)
 have a4:dA l (p+3+nm.length) 2=f:=by
  rw [show p+3+nm.length=p+1+nm.length+1+1 from by omega]
  exact pW d4 h4.1 (by simpa using h4.2)
 rw [a1,a2,a3,a4]
theorem ynd {l rest:List UInt8} {ys:List Lk.Sym} (h:l.drop 16=ys.flatMap Lk.iO ++ rest) (hg:∀ y∈ys,Lk.kS y) (k:Nat) (hk:k<=ys.length) :
  Aq l k=(ys.take k,16+((ys.take k).flatMap Lk.iO).length):=by
 induction k with
 | zero=>rfl
 | succ k ih =>
  have hk':k < ys.length:=by omega
  have e:l.drop 16=(ys.take k).flatMap Lk.iO ++ (Lk.iO ys[k] ++ ((ys.drop (k+1)).flatMap Lk.iO ++ rest)):=by
   have e0:ys=ys.take k ++ ys[k] :: ys.drop (k+1):=by rw [<- kP hk',List.take_append_drop]
   rw [h]
   refine (congrArg (fun z=>List.flatMap Lk.iO z ++ rest) e0).trans ?_
   simp only [List.flatMap_append,List.flatMap_cons,List.append_assoc]
  have e2:=yM e
  obtain ⟨s1,s2⟩:=ypP e2 (hg _ (gW hk'))
  simp only [Aq,ih (by omega)]
  rw [s1,s2,List.take_succ_eq_append_getElem hk',List.flatMap_append,fu]
  simp only [List.flatMap_cons,List.flatMap_nil,List.append_nil,UE]
  rw [Nat.add_assoc,Nat.add_assoc]
theorem you {l rest:List UInt8} {r:Lk.Rel} {p:Nat} (h:l.drop p=Lk.iC r ++ rest) (hr:Lk.mI r):Qw l p=r:=by
 obtain ⟨s,f,d,y,a⟩:=r
 obtain ⟨h1,h2,h3,h4,h5,h6⟩:=hr
 simp only at h1 h2 h3 h4 h5 h6
 simp only [Lk.iC,List.append_assoc] at h
 rw [<- Lk.zD a] at h
 have d1:=yM h
 rw [Lk.aA] at d1
 have d2:=yM d1
 rw [Lk.aA] at d2
 have d3:=yM d2
 rw [Lk.aA] at d3
 have d4:=yM d3
 rw [Lk.aA] at d4
 have a0:dA l p 1=s:=pW h h1.1 (by simpa using h1.2)
 have a1:dA l (p+1) 1=d:=pW d1 h2.1 (by simpa using h2.2)
 have a2:dA l (p+2) 2=f:=pW d2 h3.1 (by simpa using h3.2)
 have a3:dA l (p+4) 1=y:=pW d3 h4.1 (by simpa using h4.2)
 have a4:dA l (p+5) 2=Lk.Ae a:=pW d4 (by unfold Lk.Ae; split <;> omega) (by unfold Lk.Ae; simp only [Int.reducePow]; split <;> omega)
 unfold Qw
 rw [a0,a1,a2,a3,a4]
 congr 1
 unfold Lk.xB Lk.Ae
 split <;> split <;> omega
theorem ymX {l rest:List UInt8} {rs:List Lk.Rel} {p:Nat} (h:l.drop p=rs.flatMap Lk.iC ++ rest) (hg:∀ r∈rs,Lk.mI r) (k:Nat) (hk:k<=rs.length) :
  ME l p k=rs.take k:=by
 induction k with
 | zero=>rfl
 | succ k ih =>
  have hk':k < rs.length:=by omega
  have hlen:∀ ys:List Lk.Rel,(ys.flatMap Lk.iC).length=7 * ys.length:=by
   intro ys
   induction ys with
   | nil=>rfl
   | cons y t ih=>simp only [List.flatMap_cons,fu,O9,iE] at *; omega
  have e:l.drop p=(rs.take k).flatMap Lk.iC ++ (Lk.iC rs[k] ++ ((rs.drop (k+1)).flatMap Lk.iC ++ rest)):=by
   have e0:rs=rs.take k ++ rs[k] :: rs.drop (k+1):=by rw [<- kP hk',List.take_append_drop]
   rw [h]
   refine (congrArg (fun z=>List.flatMap Lk.iC z ++ rest) e0).trans ?_
   simp only [List.flatMap_append,List.flatMap_cons,List.append_assoc]
  have e2:=yM e
  rw [hlen,List.length_take,Nat.min_eq_left (by omega)] at e2
  simp only [ME,ih (by omega),List.take_succ_eq_append_getElem hk']
  rw [you e2 (hg _ (gW hk'))]
theorem ylt (rs:List Lk.Rel):(rs.flatMap Lk.iC).length=7 * rs.length:=by
 induction rs with
 | nil=>rfl
 | cons y t ih=>simp only [List.flatMap_cons,fu,O9,iE] at *; omega
theorem ypG {o:Lk.Obj} (hg:Lk.kR o) (hz:o.text.length<=1200/\o.far.length<=1200/\o.data.length<=1200):xI (Lk.iY o)=o:=by
 obtain ⟨g1,g2,g3,g4,g5,g6,g7,g8,g9,g10,g11,g12,g13⟩:=hg
 obtain ⟨tx,fx,dx,bss,al,ys,rs⟩:=o
 simp only at *
 obtain ⟨a,b,c,d,rfl⟩:∃ a b c d,al=[a,b,c,d]:=by
  match al,g5 with
  | [a,b,c,d],_=>exact ⟨a,b,c,d,rfl⟩
 generalize hl:Lk.iY ⟨tx,fx,dx,bss,[a,b,c,d],ys,rs⟩=l
 have h0:l.drop 0=[76,75] ++ Lk.lQ ⟨tx,fx,dx,bss,[a,b,c,d],ys,rs⟩:=by rw [<- hl]; rfl
 simp only [Lk.lQ] at h0
 have h2:=yM h0
 have h4:=yM h2
 rw [Lk.aA] at h4
 have h6:=yM h4
 rw [Lk.aA] at h6
 have h8:=yM h6
 rw [Lk.aA] at h8
 have h10:=yM h8
 rw [Lk.aA] at h10
 have hal:Lk.nums [a,b,c,d] 1=Lk.le a 1 ++ (Lk.le b 1 ++ (Lk.le c 1 ++ Lk.le d 1)):=by simp only [Lk.nums,List.flatMap_cons,List.flatMap_nil,List.append_nil]
 rw [hal] at h10
 simp only [List.append_assoc] at h10
 have h11:=yM h10
 rw [Lk.aA] at h11
 have h12:=yM h11
 rw [Lk.aA] at h12
 have Jm:=yM h12
 rw [Lk.aA] at Jm
 have tO:=yM Jm
 rw [Lk.aA] at tO
 have K7:=yM tO
 rw [Lk.aA] at K7
 have h16:=yM K7
 rw [Lk.aA] at h16
 have hs:=yM h16
 have hr:=yM hs
 have ht:=yM hr
 have hf:=yM ht
 simp only [iE,List.length_nil,Nat.zero_add,Nat.reduceAdd] at h2 h4 h6 h8 h10 h11 h12 Jm tO K7 h16 hs hr ht hf
 have v2:dA l 2 2=(tx.length:Int):=pW h2 (by omega) (by simp; omega)
 have v4:dA l 4 2=(fx.length:Int):=pW h4 (by omega) (by simp; omega)
 have v6:dA l 6 2=(dx.length:Int):=pW h6 (by omega) (by simp; omega)
 have v8:dA l 8 2=bss:=pW h8 g4.1 (by simpa using g4.2)
 have w1:=g6 a (by simp)
 have w2:=g6 b (by simp)
 have w3:=g6 c (by simp)
 have w4:=g6 d (by simp)
 have v10:dA l 10 1=a:=pW h10 w1.1 w1.2
 have v11:dA l 11 1=b:=pW h11 w2.1 w2.2
 have v12:dA l 12 1=c:=pW h12 w3.1 w3.2
 have v13:dA l 13 1=d:=pW Jm w4.1 w4.2
 have v14:dA l 14 1=(ys.length:Int):=pW tO (by omega) (by simp; omega)
 have v15:dA l 15 1=(rs.length:Int):=pW K7 (by omega) (by simp; omega)
 have Js:=ylt rs
 have eS:=ynd h16 g9 ys.length (Nat.le_refl _)
 rw [List.take_length] at eS
 unfold xI
 rw [v2,v4,v6,v8,v10,v11,v12,v13,v14,v15]
 simp only [Int.toNat_natCast,eS]
 rw [ymX hs g10 rs.length (Nat.le_refl _),List.take_length]
 rw [Js] at hr ht hf
 rw [GH] at ht hf
 rw [GH] at hf
 rw [Nat.min_eq_left (by omega),Nat.min_eq_left (by omega),Nat.min_eq_left (by omega)]
 rw [Ph hr g11 tx.length (Nat.le_refl _),List.take_length,Ph ht g12 fx.length (Nat.le_refl _),List.take_length]
 rw [Ph (rest:=[]) (by rw [List.append_nil]; exact hf) g13 dx.length (Nat.le_refl _),List.take_length]
def uT (l:List UInt8):Prop:=yw (xI l)/\Lk.iY (xI l)=l
theorem Le {l:List UInt8} {o:Lk.Obj} (h:Lk.gJ l=some o) (hv:yw o):uT l/\xI l=o:=by
 obtain ⟨hg,rfl⟩:=(Lk.jL l o).1 h
 have hz:=hv.1.1
 have e:=ypG hg ⟨hz.1,hz.2.1,by omega⟩
 unfold uT
 rw [e]
 exact ⟨⟨hv,rfl⟩,rfl⟩
theorem ZP {l:List UInt8} (h:uT l):Lk.gJ l=some (xI l):=(Lk.jL l _).2 ⟨Ho h.1,h.2.symm⟩
theorem LK {l:List UInt8} (h:uT l):l.length<=65535:=by
 have:=UH h.1
 rw [h.2] at this
 exact this
theorem OE {l:List UInt8} (h:∀ o,Lk.gJ l=some o->¬ yw o):¬ uT l:=fun k=>h _ (ZP k) k.1
def jh (m:List UInt8):List UInt8:=Lk.le m.length 2 ++ m
def RQ (ms:List (List UInt8)):List UInt8:=[65,82] ++ (Lk.le ms.length 1 ++ ms.flatMap jh)
def wW (l:List UInt8) (ms:List (List UInt8)):Prop:=(1<=ms.length/\ms.length<=6)/\(∀ m∈ms,uT m)/\RQ ms=l
theorem Uf:¬ uT []:=fun h=>by
 have:=congrArg List.length h.2
 simp [Lk.iY] at this
def DZ (l:List UInt8):Nat->List (List UInt8)×Nat
 | 0=>([],3)
 | k+1=>((DZ l k).1 ++ [Ci l ((DZ l k).2+2) (dA l (DZ l k).2 2).toNat],(DZ l k).2+2+(dA l (DZ l k).2 2).toNat)
def Wx (l:List UInt8):List (List UInt8):=(DZ l (min (dA l 2 1).toNat 6)).1
theorem ymO {l rest:List UInt8} {ms:List (List UInt8)} (h:l.drop 3=ms.flatMap jh ++ rest) (hg:∀ m∈ms,m.length<=65535) (k:Nat) (hk:k<=ms.length) :
  DZ l k=(ms.take k,3+((ms.take k).flatMap jh).length):=by
 induction k with
 | zero=>rfl
 | succ k ih =>
  have hk':k < ms.length:=by omega
  have e:l.drop 3=(ms.take k).flatMap jh ++ (jh ms[k] ++ ((ms.drop (k+1)).flatMap jh ++ rest)):=by
   have e0:ms=ms.take k ++ ms[k] :: ms.drop (k+1):=by rw [<- kP hk',List.take_append_drop]
   rw [h]
   refine (congrArg (fun z=>List.flatMap jh z ++ rest) e0).trans ?_
   simp only [List.flatMap_append,List.flatMap_cons,List.append_assoc]
  have e2:=yM e
  have hm:=hg _ (gW hk')
  unfold jh at e2
  rw [List.append_assoc] at e2
  have a0:dA l (3+((ms.take k).flatMap jh).length) 2=(ms[k].length:Int):=pW e2 (by omega) (by simp only [Int.reducePow]; omega)
  have e3:=yM e2
  rw [Lk.aA] at e3
  have a1:=Wj e3
  simp only [DZ,ih (by omega)]
  rw [a0,Int.toNat_natCast]
  refine Prod.ext ?_ ?_
  ·simp only
   rw [List.take_succ_eq_append_getElem hk']
   congr 2
  ·simp only
   rw [List.take_succ_eq_append_getElem hk',List.flatMap_append,fu]
   simp only [List.flatMap_cons,List.flatMap_nil,List.append_nil,jh,fu,Lk.aA]
   omega
theorem VG {l:List UInt8} {ms:List (List UInt8)} (h:wW l ms):Wx l=ms:=by
 obtain ⟨⟨h1,h2⟩,h3,h4⟩:=h
 have d0:l.drop 0=[65,82] ++ (Lk.le ms.length 1 ++ ms.flatMap jh):=by rw [<- h4]; rfl
 have d2:=yM d0
 have d3:=yM d2
 rw [Lk.aA] at d3
 simp only [iE,List.length_nil,Nat.zero_add,Nat.reduceAdd] at d2 d3
 have a:dA l 2 1=(ms.length:Int):=pW d2 (by omega) (by simp only [Int.reducePow]; omega)
 unfold Wx
 rw [a,Int.toNat_natCast,Nat.min_eq_left h2,ymO (rest:=[]) (by rw [List.append_nil]; exact d3) (fun m hm=>LK (h3 m hm)) ms.length (Nat.le_refl _),List.take_length]
theorem Tryz.u7:(Tryz.prog.info? 9).map (fun i=>(i.zero,i.size,i.bytes))=some (some (.string ⟨#[]⟩),1,16):=by kernel_rfl
theorem yps {l:List UInt8} {p:Nat} (hp:p<=l.length) (h:uT (Lk.aD l (Lk.rdNum l 2 (p,false)).1.toNat (Lk.rdNum l 2 (p,false)).2).1) :
  ∃ m,Lk.aD l (Lk.rdNum l 2 (p,false)).1.toNat (Lk.rdNum l 2 (p,false)).2=(m,(p+2+m.length,false))/\l.drop p=jh m ++ l.drop (p+2+m.length)/\p+2+m.length<=l.length:=by
 by_cases h1:2<=l.length - p
 ·have e1:Lk.rdNum l 2 (p,false)=(Lk.num ((l.drop p).take 2),(p+2,false)):=by simp [Lk.rdNum,Lk.aD,h1]
  rw [e1] at h ⊢
  simp only at h ⊢
  have hn:=Lk.num_nonneg ((l.drop p).take 2)
  have hlen:((l.drop p).take 2).length=2:=by simp; omega
  have hle:=Lk.uE ((l.drop p).take 2)
  rw [hlen] at hle
  obtain ⟨n,hn'⟩:=Int.eq_ofNat_of_zero_le hn
  rw [hn'] at h hle ⊢
  simp only [Int.toNat_natCast] at h ⊢
  by_cases h2:n<=l.length - (p+2)
  ·have hml:((l.drop (p+2)).take n).length=n:=by simp; omega
   have e2:Lk.aD l n (p+2,false)=((l.drop (p+2)).take n,(p+2+n,false)):=by simp [Lk.aD,h2]
   refine ⟨(l.drop (p+2)).take n,by rw [e2,hml],?_,by rw [hml]; omega⟩
   rw [hml]
   unfold jh
   rw [hml,hle,List.append_assoc,<- List.drop_drop (i:=n),List.take_append_drop,<- List.drop_drop (i:=2),List.take_append_drop]
  ·have e2:(Lk.aD l n (p+2,false)).1=[]:=by simp [Lk.aD,h2]
   rw [e2] at h
   exact absurd h Uf
 ·have e1:Lk.rdNum l 2 (p,false)=(0,(p,true)):=by simp [Lk.rdNum,Lk.aD,h1,Lk.num]
  rw [e1] at h
  have e2:(Lk.aD l (0:Int).toNat (p,true)).1=[]:=by simp [Lk.aD]
  rw [e2] at h
  exact absurd h Uf
theorem yrN {l m rest:List UInt8} {p:Nat} (hp:p<=l.length) (h:l.drop p=jh m ++ rest) (hm:m.length<=65535):(Lk.aD l (Lk.rdNum l 2 (p,false)).1.toNat (Lk.rdNum l 2 (p,false)).2).1=m:=by
 unfold jh at h
 rw [List.append_assoc] at h
 obtain ⟨a1,b1,c1,p1,d1⟩:=(Lk.aB l 2).on (st:=(p,false)) hp rfl (x:=(m.length:Int)) ⟨by omega,by simp only [Int.reducePow]; omega⟩ h
 rw [a1,Int.toNat_natCast]
 exact ((Lk.dZ l m.length).on p1 b1 (x:=m) rfl d1).1
theorem Z8 (n:Int) (w:World) :
  Calls Tryz.prog 164 #[.int .i64 n] w fun e w'=>yg e (1<=n/\n<=6)/\w'=w:=by
 go_enter Tryz.func164,Tryz.ntmps164
 by_cases h1:1<=n
 ·by_cases h2:n<=6
  ·have d1:decide (1<=n)=true:=by simpa using h1
   have d2:decide (n<=6)=true:=by simpa using h2
   go_wp2
   go_ret
   exact ⟨yg.yes ⟨h1,h2⟩,rfl⟩
  ·have d1:decide (1<=n)=true:=by simpa using h1
   have d2:decide (n<=6)=false:=by simp; omega
   go_wp2
   go_ret
   exact ⟨yg.no (fun h=>by omega),rfl⟩
 ·have d1:decide (1<=n)=false:=by simp; omega
  go_wp2
  go_ret
  exact ⟨yg.no (fun h=>by omega),rfl⟩
theorem Zb (s:ByteArray) (w:World) (ht:dz w) (hs:s.size<=1048576) :
  Calls Tryz.prog 165 #[.string s] w fun e w'=>yg e (uT (sl s))/\w.grownBy w' none:=by
 have cR:=hid (Qb s w ht hs)
 go_enter Tryz.func165,Tryz.ntmps165
 go_wp2_with fail
 refine cR.o.mono ?_
 rintro e w1 ⟨⟨o,g,hr,hv,rfl,-,-⟩ | ⟨hno,rfl⟩,hq⟩
 ·have H:=hid (Le hr hv).1
  have HQ:=hid hq
  go_wp2
  go_ret
  exact ⟨yg.yes H.o,HQ.o⟩
 ·have H:=hid (OE hno)
  have HQ:=hid hq
  go_wp2
  go_ret
  exact ⟨yg.no H.o,HQ.o⟩
def tu (ms:List (List UInt8)):List Value:=ms.map (fun m=>Value.string (bs m))
def ymh (l:List UInt8) (base:Nat) (e:Ending) (w':World):Prop :=
 (∃ ms v,wW l ms/\e = .returned (.tuple #[v,.int .i64 0])/\w'.ownsRow base 9 1 v ms.length (tu ms)) \/
 ((∀ ms,¬ wW l ms)/\e = .returned (.tuple #[.slice none 0 0,.int .i64 21]))
theorem yll (s:ByteArray) (w:World) (ht:dz w) (hs:s.size<=1048576) :
  Calls Tryz.prog 99 #[.string s] w fun e w'=>ymh (sl s) w.heap.size e w'/\w.grownBy w' none:=by
 obtain ⟨i0,hi,hz0,hz1,hz2⟩:=info_parts Tryz.u7
 have HT:=hid ht
 clear ht
 have hlen:=yr s
 have l0:=F8 (sl s) 2 (0,false) (by rw [hlen]; omega)
 have c0:=fun W b h=>F5 b s 0 2 2 rfl false W h hs (Nat.zero_le _) (by omega)
 have HX0:=hid (Lk.dZ (sl s) 2)
 have T0:=hid (show (Lk.aD (sl s) 2 (0,false)).1=[65,82]->Lk.aD (sl s) 2 (0,false)=([65,82],(2,false))/\(sl s).drop 0=[65,82] ++ (sl s).drop 2/\2<=(sl s).length from fun h=>by
  unfold Lk.aD at h ⊢
  simp only at h ⊢
  by_cases c:2<=(sl s).length - 0
  ·rw [if_pos c] at h ⊢
   simp only at h ⊢
   refine ⟨by rw [h],?_,by omega⟩
   rw [<- h,List.drop_zero,List.take_append_drop]
  ·rw [if_neg c] at h
   simp at h)
 have N0:=hid (show ∀ ms,wW (sl s) ms->(Lk.aD (sl s) 2 (0,false)).1=[65,82] from fun ms h=>(HX0.o.on (st:=(0,false)) (Nat.zero_le _) rfl (x:=[65,82]) (rest:=Lk.le ms.length 1 ++ ms.flatMap jh) rfl (by rw [<- h.2.2]; rfl)).1)
 clear HX0
 rw [hlen] at l0
 generalize Lk.aD (sl s) 2 (0,false)=x0 at *
 obtain ⟨mk,p0,s0⟩:=x0
 simp only at c0 T0 N0 l0
 have c1:=fun W b h=>yI b s p0 1 1 rfl s0 W h hs l0 (by omega)
 have l1:=yB (sl s) 1 (p0,s0) (by rw [hlen]; exact l0)
 rw [hlen] at l1
 have b1:=yO (sl s) 1 (p0,s0)
 simp only [Int.reducePow] at b1
 have T1:=hid (show mk=[65,82]->1<=(Lk.rdNum (sl s) 1 (p0,s0)).1->(Lk.rdNum (sl s) 1 (p0,s0)).2=(3,false)/\(sl s).drop 0=[65,82] ++ (Lk.le (Lk.rdNum (sl s) 1 (p0,s0)).1 1 ++ (sl s).drop 3)/\3<=(sl s).length from fun hm h=>by
  obtain ⟨e,d,hl2⟩:=T0.o hm
  simp only [Prod.mk.injEq] at e
  obtain ⟨-,rfl,rfl⟩:=e
  by_cases c:1<=(sl s).length - 2
  ·have e1:Lk.rdNum (sl s) 1 (2,false)=(Lk.num (((sl s).drop 2).take 1),(3,false)):=by simp [Lk.rdNum,Lk.aD,c]
   rw [e1]
   have hle:=Lk.uE (((sl s).drop 2).take 1)
   rw [show (((sl s).drop 2).take 1).length=1 from by simp; omega] at hle
   refine ⟨rfl,?_,by omega⟩
   simp only
   rw [d,hle,show (sl s).drop 3=((sl s).drop 2).drop 1 from by rw [List.drop_drop],List.take_append_drop]
  ·have e1:Lk.rdNum (sl s) 1 (2,false)=(0,(2,true)):=by simp [Lk.rdNum,Lk.aD,c,Lk.num]
   rw [e1] at h
   simp at h)
 have N1:=hid (show ∀ ms,wW (sl s) ms->(Lk.rdNum (sl s) 1 (p0,s0)).1=(ms.length:Int) from fun ms h=>by
  obtain ⟨e,d,hl2⟩:=T0.o (N0.o ms h)
  simp only [Prod.mk.injEq] at e
  obtain ⟨-,rfl,rfl⟩:=e
  have d0:(sl s).drop 0=[65,82] ++ (Lk.le ms.length 1 ++ ms.flatMap jh):=by rw [<- h.2.2]; rfl
  exact ((Lk.aB (sl s) 1).on (st:=(2,false)) hl2 rfl (x:=(ms.length:Int)) (rest:=ms.flatMap jh) ⟨by omega,by have:=h.1.2; simp only [Int.reducePow]; omega⟩ (yM d0)).1)
 generalize Lk.rdNum (sl s) 1 (p0,s0)=x1 at *
 obtain ⟨cnt,p1,s1⟩:=x1
 simp only at c1 T1 N1 l1 b1
 have C0:=hid c0
 have C1:=hid c1
 clear c0 c1
 have Bu:=hid hlen
 clear hlen
 have cV:=hid (fun W=>Z8 cnt W)
 go_enter Tryz.func99,Tryz.ntmps99
 go_wp2_with fail
 refine (OG s w).mono ?_
 rintro e W1 ⟨rfl,g1⟩
 have R:aZ (W1.alloc (.cells #[.string s,.int .i64 0,.bool false] 83)) W1.heap.size s 0 false:=heap_alloc_new W1 _
 have HR:=hid R
 have G1:=hid (ya g1 (aH W1 (.cells #[.string s,.int .i64 0,.bool false] 83) none))
 have hbw:w.heap.size<=W1.heap.size:=g1.size
 clear R g1
 generalize hb:W1.heap.size=b at *
 go_wp2_with fail
 refine (C0.o _ b HR.o).mono ?_
 rintro e W2 ⟨rfl,r2,g2⟩
 have R2:=hid r2
 have G2:=hid (FQ G1.o g2 hbw)
 clear r2 g2 HR G1 hb
 go_wp2_with fail
 refine (C1.o _ b R2.o).mono ?_
 rintro e W3 ⟨rfl,r3,g3⟩
 have R3:=hid r3
 have G3:=hid (FQ G2.o g3 hbw)
 clear r3 g3 R2 G2
 have Rl:=hid (yG mk)
 by_cases c:mk=[65,82]
 rotate_left
 ·have d:((bs mk).toList == [65,82])=false:=by rw [Rl.o,beq_eq_false_iff_ne]; exact c
  have CC:=hid c
  clear c
  go_wp2
  go_ret2
  exact ⟨.inr ⟨fun ms h=>CC.o (N0.o ms h),rfl⟩,G3.o⟩
 have d:((bs mk).toList == [65,82])=true:=by rw [Rl.o,beq_iff_eq]; exact c
 have CC:=hid c
 clear c
 go_wp2_with fail
 refine (cV.o _).mono ?_
 rintro e W4 ⟨t,rfl⟩
 rcases t.split with ⟨rfl,pv⟩ | ⟨rfl,pv⟩ <;> clear t
 ·go_wp2
  go_ret2
  exact ⟨.inr ⟨fun ms h=>pv.o (by rw [N1.o ms h]; have:=h.1; omega),rfl⟩,G3.o⟩
 obtain ⟨hst,hd,hl3⟩:=T1.o CC.o pv.o.1
 simp only [Prod.mk.injEq] at hst
 obtain ⟨rfl,rfl⟩:=hst
 obtain ⟨n,rfl⟩:=Int.eq_ofNat_of_zero_le b1.1
 have XM:=hid pv.o
 have hn6:n<=6:=by have:=pv.o.2; omega
 have Ra:=hid N1.o
 have A3:=hid (show ∀ ms,wW (sl s) ms->ms.length=n/\∃ ms',ms=[] ++ ms'/\(sl s).drop 3=ms'.flatMap jh from fun ms h=>by
  refine ⟨by have:=Ra.o ms h; omega,ms,rfl,?_⟩
  have d0:(sl s).drop 0=[65,82] ++ (Lk.le ms.length 1 ++ ms.flatMap jh):=by rw [<- h.2.2]; rfl
  have:=yM (yM d0)
  rw [Lk.aA] at this
  exact this)
 have HD:=hid hd
 clear hd hl3 pv N1 Ra T0 T1 N0 C0 C1
 have hbs:W4.heap.size<=W4.heap.size:=Nat.le_refl _
 have hblt:b < W4.heap.size:=R3.o.lt
 have hw4:w.heap.size<=W4.heap.size:=G3.o.size
 go_wp2
 go_loopw [7,8] (fun v i wr=>∃ (k:Nat) (acc:List (List UInt8)) (p:Nat),k<=n/\i = .int .i64 k/\acc.length=k/\p<=s.size /\
   wr.ownsRow W4.heap.size 9 1 v k (tu acc)/\aZ wr b s p false/\w.grownBy wr none/\W4.heap.size<=wr.heap.size/\(∀ m∈acc,uT m)/\(sl s).drop 3=acc.flatMap jh ++ (sl s).drop p /\
   ∀ ms,wW (sl s) ms->ms.length=n/\∃ ms',ms=acc ++ ms'/\(sl s).drop p=ms'.flatMap jh) (fun _ i _=>n - (intOf i).toNat)
 case atStart=>exact ⟨0,[],3,Nat.zero_le _,rfl,rfl,l1,World.ownsRow_nil _ _ _ _,R3.o,G3.o,Nat.le_refl _,by simp,by simp,A3.o⟩
 case round =>
  obtain ⟨k,acc,p,hk,rfl,hacc,hp,hown,hrd,hgr,hsz,hall,hdr,har⟩:=hrel
  have sw:=hid hacc
  have Bv:=hid hrd
  have HG:=hid hgr
  have Ip:=hid hall
  have HDR:=hid hdr
  have MU:=hid har
  clear hacc hrd hgr hall hdr har
  by_cases hlt:k < n
  ·have hlt':(k:Int) < (n:Int):=by omega
   have hstep:=hid (fun h=>yps (l:=sl s) (p:=p) (by rw [Bu.o]; exact hp) h)
   have hon:=hid (fun (m rest:List UInt8) h hm=>yrN (l:=sl s) (m:=m) (rest:=rest) (p:=p) (by rw [Bu.o]; exact hp) h hm)
   have k0:=hid (fun W h=>yI b s p 2 2 rfl false W h hs hp (by omega))
   have r0:=yO (sl s) 2 (p,false)
   have q0:=yB (sl s) 2 (p,false) (by rw [Bu.o]; exact hp)
   rw [Bu.o] at q0
   simp only [Int.reducePow] at r0
   generalize Lk.rdNum (sl s) 2 (p,false)=y0 at *
   obtain ⟨len,p2,s2⟩:=y0
   simp only at k0 r0 q0 hstep hon
   obtain ⟨len,rfl⟩:=Int.eq_ofNat_of_zero_le r0.1
   simp only [Int.toNat_natCast] at hstep hon
   have k1:=hid (fun W h=>F5 b s p2 len (len:Int) rfl s2 W h hs q0 (by omega))
   have q1:=F8 (sl s) len (p2,s2) (by rw [Bu.o]; exact q0)
   rw [Bu.o] at q1
   have q2:(Lk.aD (sl s) len (p2,s2)).1.length<=65535:=by
    unfold Lk.aD
    split
    ·simp only [List.length_take]; omega
    ·simp
   generalize Lk.aD (sl s) len (p2,s2)=y1 at *
   obtain ⟨m,p3,s3⟩:=y1
   simp only at k1 q1 q2 hstep hon
   go_wp2_with fail
   refine (k0.o _ Bv.o).mono ?_
   rintro e U1 ⟨rfl,r1,g1⟩
   have RA:=hid r1
   have GA:=hid (FQ HG.o g1 hbw)
   have hown1:=F3 hown hblt g1
   have hsz1:=Nat.le_trans hsz g1.size
   clear r1 g1 hown hsz Bv HG k0
   go_wp2_with fail
   refine (k1.o _ RA.o).mono ?_
   rintro e U2 ⟨rfl,r1,g1⟩
   have RB:=hid r1
   have GB:=hid (FQ GA.o g1 hbw)
   have hown2:=F3 hown1 hblt g1
   have hsz2:=Nat.le_trans hsz1 g1.size
   clear r1 g1 hown1 hsz1 RA GA k1
   have cO:=hid (Zb (bs m) U2 (HT.o.grown GB.o) (by show m.length<=1048576; omega))
   rw [Dj] at cO
   go_wp2_with fail
   refine cO.o.mono ?_
   rintro e U3 ⟨t,g1⟩
   have RC:=hid (RB.o.grown g1 (by simp))
   have GC:=hid (ya GB.o g1)
   have hown3:=hown2.kept g1 (by cases (Value.ownBlock _) <;> simp)
   have Yy:=Nat.le_trans hsz2 g1.size
   rcases t.split with ⟨rfl,pv⟩ | ⟨rfl,pv⟩ <;> clear t g1 hown2 hsz2 RB GB cO
   ·have NA:=hid (show ∀ ms,¬ wW (sl s) ms from fun ms h=>by
     obtain ⟨h1,ms',h2,h3⟩:=MU.o ms h
     have h4:=sw.o
     match ms',h2,h3 with
     | [],h2,_=>rw [h2] at h1; simp at h1; omega
     | m' :: CG,h2,h3 =>
      have hm':uT m':=h.2.1 m' (by rw [h2]; simp)
      have e:=hon.o m' (CG.flatMap jh) (by rw [h3]; rfl) (LK hm')
      subst e
      exact pv.o hm')
    clear pv
    go_wp2
    go_ret2
    exact ⟨.inr ⟨NA.o,rfl⟩,GC.o⟩
   ·obtain ⟨m',he,hdp,hle⟩:=hstep.o pv.o
    simp only [Prod.mk.injEq] at he
    obtain ⟨rfl,rfl,rfl⟩:=he
    rw [Bu.o] at hle
    have QU:=hid hdp
    have Na:=hid pv.o
    have MW:=hid (show ∀ ms,wW (sl s) ms->ms.length=n/\∃ ms',ms=(acc ++ [m]) ++ ms'/\(sl s).drop (p+2+m.length)=ms'.flatMap jh from fun ms h=>by
     obtain ⟨h1,ms',h2,h3⟩:=MU.o ms h
     refine ⟨h1,?_⟩
     have h4:=sw.o
     match ms',h2,h3 with
     | [],h2,_=>rw [h2] at h1; simp at h1; omega
     | m' :: CG,h2,h3 =>
      have hm':uT m':=h.2.1 m' (by rw [h2]; simp)
      have e:=hon.o m' (CG.flatMap jh) (by rw [h3]; rfl) (LK hm')
      subst e
      refine ⟨CG,by rw [h2]; simp,?_⟩
      rw [QU.o] at h3
      exact List.append_cancel_left h3)
    clear pv hdp hstep hon
    have zm:acc.length<=6:=by have:=sw.o; omega
    go_wp2_with (at_builtin; refine wpList_append_own _ rfl _ _ 29 rfl W4.heap.size 9 i0 (.string ⟨#[]⟩) 1 16 Tryz.underlying29 hi hz0 hz1 hz2 rfl (by decide) _ _ _ rfl (hown3.alloc _) ⟨U3.heap.size,0,none⟩ 1 1 [.string (bs m)] rfl rfl (cell_one_new _ _ _) (by intro u hu; simp at hu; subst hu; rfl) (by unfold maxLen; omega) (by omega) (by simp; omega) ?_; intro v' w3 hown' hgrow _)
    have K1:=hid (show w3.ownsRow W4.heap.size 9 1 v' (k+1) (tu (acc ++ [m])) from by unfold tu; rw [List.map_append]; exact hown')
    have K2:=hid ((RC.o.grown (aH _ _ none) (by simp)).grown hgrow (fun e=>by have:=(hown3.lt b e.symm).1; omega))
    have K3:=hid (show w.grownBy w3 none from by
     cases ni:Value.ownBlock _ with
     | none=>rw [ni] at hgrow; exact ya (ya GC.o (aH _ _ none)) hgrow
     | some bb=>rw [ni] at hgrow; exact FQ (ya GC.o (aH _ _ none)) hgrow (by have:=(hown3.lt bb ni).1; omega))
    have K4:=hid (show W4.heap.size<=w3.heap.size from by have:=hgrow.size; simp at this; omega)
    clear hgrow hown' hown3
    go_wp2
    go_roundw
    case rel=>exact ⟨k+1,acc ++ [m],p+2+m.length,by omega,by go_num,by simp [sw.o],hle,K1.o,K2.o,K3.o,K4.o,fun x hx=>(List.mem_append.1 hx).elim (Ip.o x) (fun h=>by rw [List.mem_singleton.1 h]; exact Na.o),by rw [HDR.o,QU.o]; simp,MW.o⟩
    case measure=>simp [intOf]; omega
  ·obtain rfl:k=n:=by omega
   have cD:=hid (PY b s p false wr Bv.o)
   go_wp2_with fail
   refine cD.o.mono ?_
   rintro e U1 ⟨he,kd,rfl⟩
   by_cases c:p=s.size
   ·rw [show (!false && decide (p=s.size))=true from by simp [c]] at he
    subst he
    have AR:=hid (show wW (sl s) acc from ⟨by have:=XM.o; have:=sw.o; omega,Ip.o,by
     have e1:=HDR.o
     have e0:(sl s).drop p=[]:=List.drop_of_length_le (by rw [Bu.o]; omega)
     rw [e0,List.append_nil] at e1
     unfold RQ
     rw [<- e1,sw.o]
     exact HD.o.symm⟩)
    have HO:=hid (yW hown hw4)
    obtain ⟨av,cv,rfl⟩:=yh hown
    clear c hown
    go_wp2
    go_ret2
    refine ⟨.inl ⟨acc,_,AR.o,rfl,?_⟩,ye HG.o _⟩
    rw [sw.o]
    exact HO.o.kept (ye (World.grownBy.refl _ none) kd) (by cases (Value.ownBlock _) <;> simp)
   ·rw [show (!false && decide (p=s.size))=false from by simp [c]] at he
    subst he
    have NA:=hid (show ∀ ms,¬ wW (sl s) ms from fun ms h=>by
     obtain ⟨h1,ms',h2,h3⟩:=MU.o ms h
     have h4:=sw.o
     rw [h2] at h1
     simp only [fu] at h1
     have h5:ms'=[]:=List.eq_nil_of_length_eq_zero (by omega)
     rw [h5] at h3
     have h6:=congrArg List.length h3
     simp only [List.flatMap_nil,List.length_nil,List.length_drop,Bu.o] at h6
     omega)
    clear c
    go_wp2
    go_ret2
    exact ⟨.inr ⟨NA.o,rfl⟩,ye HG.o _⟩
theorem ynQ (a:Int) (w:World):Calls Tryz.prog 80 #[.int .i64 a] w fun e w'=>yg e (Im.Base a)/\w'=w:=by
 by_cases h1:4096<=a
 ·by_cases h2:a < 1073741824
  ·exact Lu a w (by omega) (by omega)
  ·have N:=hid (show ¬ Im.Base a from fun h=>h2 h.1.2)
   have d1:decide (4096<=a)=true:=by simpa using h1
   have d2:decide (a < 1073741824)=false:=by simpa using h2
   go_enter Tryz.func80,Tryz.ntmps80
   go_wp2
   go_ret
   exact ⟨yg.no N.o,rfl⟩
 ·have N:=hid (show ¬ Im.Base a from fun h=>h1 h.1.1)
  have d1:decide (4096<=a)=false:=by simpa using h1
  go_enter Tryz.func80,Tryz.ntmps80
  go_wp2
  go_ret
  exact ⟨yg.no N.o,rfl⟩
open Classical in
noncomputable def nZ (bt bf bd:Int):Ln.pO:=if ¬ Im.Base bt then ⟨30,0,[]⟩ else if ¬ Im.Base bf then ⟨30,1,[]⟩ else if ¬ Im.Base bd then ⟨30,2,[]⟩ else Ln.ok
set_option maxRecDepth 100000 in
theorem Zd (bt bf bd:Int) (w:World) :
  Calls Tryz.prog 63 #[.agg #[.int .i64 bt,.int .i64 bf,.int .i64 bd]] w fun e w'=>e = .returned (fF (nZ bt bf bd))/\w.grownBy w' none:=by
 have cB:=hid (fun a W=>ynQ a W)
 have hs1:(w.alloc (.cells #[.int .i64 bt,.int .i64 bf,.int .i64 bd] 33)).heap.size=w.heap.size+1:=Array.size_push _
 have G1:=hid (ya (aH w (.cells #[.int .i64 bt,.int .i64 bf,.int .i64 bd] 33) none) (aH (w.alloc (.cells #[.int .i64 bt,.int .i64 bf,.int .i64 bd] 33)) (.cells #[.int .i64 0,.int .i64 0,.string ⟨#[]⟩] 45) none))
 have B1:=hid (yc.new (w.alloc (.cells #[.int .i64 bt,.int .i64 bf,.int .i64 bd] 33)) #[.int .i64 0,.int .i64 0,.string ⟨#[]⟩] 45)
 rw [hs1] at B1
 clear hs1
 go_enter Tryz.func63,Tryz.ntmps63
 go_wp2
 generalize (w.alloc (.cells #[.int .i64 bt,.int .i64 bf,.int .i64 bd] 33)).alloc (.cells #[.int .i64 0,.int .i64 0,.string ⟨#[]⟩] 45)=W1 at *
 go_loopw [12] (fun i wr=>∃ k:Nat,k<=3/\i = .int .i64 k/\wr=W1/\(0 < k->Im.Base bt)/\(1 < k->Im.Base bf)/\(2 < k->Im.Base bd)) (fun i _=>3 - (intOf i).toNat)
 case atStart=>exact ⟨0,by omega,rfl,rfl,fun c=>by omega,fun c=>by omega,fun c=>by omega⟩
 case round =>
  obtain ⟨k,hk,rfl,rfl,p0,p1,p2⟩:=hrel
  have z0:wr.cell? ⟨w.heap.size+1,0,none⟩=some (.int .i64 0):=B1.o.cell 0
  have z1:wr.cell? ⟨w.heap.size+1,1,none⟩=some (.int .i64 0):=B1.o.cell 1
  have z2:wr.cell? ⟨w.heap.size+1,2,none⟩=some (.string ⟨#[]⟩):=B1.o.cell 2
  have f0:=B1.o.free 0
  have f1:=B1.o.free 1
  have f2:=B1.o.free 2
  rcases (show k=0\/k=1\/k=2\/k=3 by omega) with rfl | rfl | rfl | rfl
  ·have cK:=hid (cB.o bt)
   rw [show ((0:Nat):Int)=0 from rfl]
   have ix:∀ W:World,Sem.run Tryz.prog (Instr.index 155 (.agg #[.int .i64 bt,.int .i64 bf,.int .i64 bd]) (.int .i64 0)) W = .ok (.int .i64 bt) W:=fun _=>by kernel_rfl
   go_wp2_with fail
   refine (cK.o _).mono ?_
   rintro e V ⟨ht,hV⟩
   subst hV
   rcases ht.split with ⟨rfl,hn⟩ | ⟨rfl,hy⟩
   ·have E:=hid (show nZ bt bf bd=⟨30,0,[]⟩ by unfold nZ; rw [if_pos hn.o])
    go_wp2
    have F:=((B1.o.set 0 (.int .i64 30)).set 1 (.int .i64 0)).set 2 (.string ⟨#[]⟩)
    have h0:=F.cell 0
    have h1:=F.cell 1
    have h2:=F.cell 2
    simp only [fQ,fT,fP,bC,bG,bE] at h0 h1 h2
    refine bodyPost_ret (v:=fF ⟨30,0,[]⟩) ?_ rfl ⟨by rw [E.o],yx G1.o _ (by omega) _ _ _⟩
    clear F z0 z1 z2 f0 f1 f2
    generalize World.setCell _ _ _=WF at *
    simp [results,Tryz.results63,go_sem,fF,bs,h0,h1,h2]
   ·go_wp2
    go_roundw
    case rel=>exact ⟨1,by omega,by go_num,trivial,fun _=>hy.o,fun c=>by omega,fun c=>by omega⟩
    case measure=>simp [intOf]
  ·have cK:=hid (cB.o bf)
   rw [show ((1:Nat):Int)=1 from rfl]
   have ix:∀ W:World,Sem.run Tryz.prog (Instr.index 155 (.agg #[.int .i64 bt,.int .i64 bf,.int .i64 bd]) (.int .i64 1)) W = .ok (.int .i64 bf) W:=fun _=>by kernel_rfl
   go_wp2_with fail
   refine (cK.o _).mono ?_
   rintro e V ⟨ht,hV⟩
   subst hV
   rcases ht.split with ⟨rfl,hn⟩ | ⟨rfl,hy⟩
   ·have E:=hid (show nZ bt bf bd=⟨30,1,[]⟩ by unfold nZ; rw [if_neg (fun c=>c (p0 (by omega)))]; rw [if_pos hn.o])
    go_wp2
    have F:=((B1.o.set 0 (.int .i64 30)).set 1 (.int .i64 1)).set 2 (.string ⟨#[]⟩)
    have h0:=F.cell 0
    have h1:=F.cell 1
    have h2:=F.cell 2
    simp only [fQ,fT,fP,bC,bG,bE] at h0 h1 h2
    refine bodyPost_ret (v:=fF ⟨30,1,[]⟩) ?_ rfl ⟨by rw [E.o],yx G1.o _ (by omega) _ _ _⟩
    clear F z0 z1 z2 f0 f1 f2
    generalize World.setCell _ _ _=WF at *
    simp [results,Tryz.results63,go_sem,fF,bs,h0,h1,h2]
   ·go_wp2
    go_roundw
    case rel=>exact ⟨2,by omega,by go_num,trivial,fun _=>p0 (by omega),fun _=>hy.o,fun c=>by omega⟩
    case measure=>simp [intOf]
  ·have cK:=hid (cB.o bd)
   rw [show ((2:Nat):Int)=2 from rfl]
   have ix:∀ W:World,Sem.run Tryz.prog (Instr.index 155 (.agg #[.int .i64 bt,.int .i64 bf,.int .i64 bd]) (.int .i64 2)) W = .ok (.int .i64 bd) W:=fun _=>by kernel_rfl
   go_wp2_with fail
   refine (cK.o _).mono ?_
   rintro e V ⟨ht,hV⟩
   subst hV
   rcases ht.split with ⟨rfl,hn⟩ | ⟨rfl,hy⟩
   ·have E:=hid (show nZ bt bf bd=⟨30,2,[]⟩ by unfold nZ; rw [if_neg (fun c=>c (p0 (by omega))),if_neg (fun c=>c (p1 (by omega)))]; rw [if_pos hn.o])
    go_wp2
    have F:=((B1.o.set 0 (.int .i64 30)).set 1 (.int .i64 2)).set 2 (.string ⟨#[]⟩)
    have h0:=F.cell 0
    have h1:=F.cell 1
    have h2:=F.cell 2
    simp only [fQ,fT,fP,bC,bG,bE] at h0 h1 h2
    refine bodyPost_ret (v:=fF ⟨30,2,[]⟩) ?_ rfl ⟨by rw [E.o],yx G1.o _ (by omega) _ _ _⟩
    clear F z0 z1 z2 f0 f1 f2
    generalize World.setCell _ _ _=WF at *
    simp [results,Tryz.results63,go_sem,fF,bs,h0,h1,h2]
   ·go_wp2
    go_roundw
    case rel=>exact ⟨3,by omega,by go_num,trivial,fun _=>p0 (by omega),fun _=>p1 (by omega),fun _=>hy.o⟩
    case measure=>simp [intOf]
  ·have E:=hid (show nZ bt bf bd=Ln.ok by unfold nZ; rw [if_neg (fun c=>c (p0 (by omega))),if_neg (fun c=>c (p1 (by omega))),if_neg (fun c=>c (p2 (by omega)))])
   go_wp2
   have F:=((B1.o.set 0 (.int .i64 0)).set 1 (.int .i64 0)).set 2 (.string ⟨#[]⟩)
   have h0:=F.cell 0
   have h1:=F.cell 1
   have h2:=F.cell 2
   simp only [fQ,fT,fP,bC,bG,bE] at h0 h1 h2
   refine bodyPost_ret (v:=fF Ln.ok) ?_ rfl ⟨by rw [E.o],yx G1.o _ (by omega) _ _ _⟩
   clear F z0 z1 z2 f0 f1 f2
   generalize World.setCell _ _ _=WF at *
   simp [results,Tryz.results63,go_sem,fF,Ln.ok,bs,h0,h1,h2]
end Go.Proofs.YtpgklkhgfcjceaaGreatDoor
