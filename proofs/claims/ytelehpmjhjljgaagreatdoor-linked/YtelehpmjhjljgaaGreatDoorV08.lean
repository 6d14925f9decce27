
import Derived.Test.YtelehpmjhjljgaaGreatDoorV07
import Derived.Deep.RegionLaw
import Derived.Deep.AppendLies
set_option maxHeartbeats 16000000
set_option maxRecDepth 100000
namespace Go.Proofs.YtelehpmjhjljgaaGreatDoor
open Go.RowKit
theorem Y8 (s:ByteArray) (k:Nat) (h:k < s.size):(sl s).take (k+1)=(sl s).take k ++ [s[k]]:=by
 have h':k < s.data.toList.length:=by rw [Array.length_toList]; exact h
 unfold sl;rw [List.take_succ_eq_append_getElem h'];rfl
theorem ymN (b:Nat) (s:ByteArray) (l:List UInt8) (w:World) (h:kr w b l) (hl:l.length<=16777216) (hs:s.size<=1048576) :
  Calls Tryz.prog 54 #[.pointer (some ⟨b,0,none⟩),.string s] w fun e w'=>e = .returned (.tuple #[])/\kr w' b (l ++ sl s)/\Wk b w w':=by
 obtain ⟨i0,hi,hz0,hz1,hz2⟩:=info_parts Tryz.uy;have H:=hid h;clear h;go_enter Tryz.func54,Tryz.ntmps54;go_wp2
 go_loopw [4] (fun i wr=>∃ (k:Nat),k<=s.size/\i = .int .i64 k/\(∃ acc:List UInt8,acc.length=l.length+k/\kr wr b acc/\l ++ (sl s).take k=acc)/\Wk b w wr) (fun i _=>s.size - (intOf i).toNat)
 case atStart=>exact ⟨0,Nat.zero_le _,rfl,⟨l,rfl,H.o,by simp⟩,Wk.refl _ _⟩
 case round =>
  obtain ⟨k,hk,rfl,hdone,hbel⟩:=hrel;have HD:=hid hdone;have HB:=hid hbel;clear hdone hbel;by_cases hlt:k < s.size
  ·obtain ⟨acc,hdl,hw,hle⟩:=HD.o;obtain ⟨ao,cap,hblk,hown⟩:=hw;have c0:=hblk.cell 0;have f0:=hblk.free 0;have hbl:=hblk.lt;have xB:=hid hblk;have KZ:=hid hle;have KS:=hid hdl;have PU:acc.length<=33554432:=by omega
   have hrow:=hid (show ∀ g,Value.ownBlock (.slice ao acc.length cap)=some g->b+1<=g from fun g hg=>(hown.lt g hg).1);have HOW:=hid hown;have hne:=World.new_ne wr ⟨b,0,none⟩ (by simpa using c0);have g1:(0:Int)<=(k:Int):=by omega
   have g2:(k:Int) < (s.size:Int):=by omega
   have hA:Hd ((wr.alloc (.cells #[.int .u8 s[k].toNat] 5)).drew.ownsRow (b+1) 5 1 (.slice ao acc.length cap) acc.length (qc acc)):=(hown.alloc _).drew;have hN:Hd (∀ j u,[Value.int .u8 s[k].toNat][j]?=some u->(wr.alloc (.cells #[.int .u8 s[k].toNat] 5)).drew.cell? ((⟨wr.heap.size,0,none⟩:Addr).add j)=some u):=World.news_of_block (heap_alloc_new wr (.cells #[.int .u8 s[k].toNat] 5));have iY:Hd (∀ u∈[Value.int .u8 (s[k].toNat:Int)],u.oneCell'=true):=by intro u hu; simp at hu; subst hu; rfl
   have h63:Hd (acc.length+1<=maxLen):=by show _<=_; unfold maxLen; omega
   have hby:Hd ((acc.length+1) * 1<=140737488355328):=by show _<=_; omega
   have hbs:Hd (b+1<=(wr.alloc (.cells #[.int .u8 s[k].toNat] 5)).drew.heap.size):=by show _<=_; simp; omega
   have VJ:Hd ((wr.alloc (.cells #[.int .u8 s[k].toNat] 5)).drew.heap.size=wr.heap.size+1):=by show _=_; simp
   clear hblk hle hdl HD hown;go_wp2;refine wp_region_any (by kernel_rfl) ?_
   change wpAny _ Region.Mode.any _ _ _ _ _ wr.drew
   refine wpAny_take (i:=0) (v:=?_) rfl (by kernel_rfl) (by kernel_rfl) (by kernel_rfl) (fun _ _ _ h=>h) (Or.inl ⟨by kernel_rfl,?_⟩) ?_
   rotate_left
   ·intro w; go_simp; with_reducible rfl
   refine wpAny_take (i:=1) (v:=?_) rfl (by kernel_rfl) (by kernel_rfl) (by kernel_rfl) (fun _ _ _ h=>h) (Or.inl ⟨by kernel_rfl,?_⟩) ?_
   rotate_left
   ·intro w; go_simp; with_reducible rfl
   refine wpAny_take (i:=2) (v:=?_) rfl (by kernel_rfl) (by kernel_rfl) (by kernel_rfl) (fun _ _ _ h=>h) (Or.inl ⟨by kernel_rfl,?_⟩) ?_
   rotate_left
   ·intro w; go_simp; with_reducible rfl
   refine wpAny_take (i:=3) (v:=?_) rfl (by kernel_rfl) (by kernel_rfl) (by kernel_rfl) (fun _ _ _ h=>h) (Or.inl ⟨by kernel_rfl,?_⟩) ?_
   rotate_left
   ·intro w; go_simp; with_reducible rfl
   refine wpAny_take (i:=5) (v:=?_) rfl (by kernel_rfl) (by kernel_rfl) (by kernel_rfl) (fun _ _ _ h=>h) (Or.inl ⟨by kernel_rfl,?_⟩) ?_
   rotate_left
   ·intro w; go_simp; with_reducible rfl
   refine wpAny_take (i:=6) (v:=?_) rfl (by kernel_rfl) (by kernel_rfl) (by kernel_rfl) (fun _ _ _ h=>h) (Or.inl ⟨by kernel_rfl,?_⟩) ?_
   rotate_left
   ·intro w; go_simp; with_reducible rfl
   refine wpAny_take (i:=7) (v:=?_) rfl (by kernel_rfl) (by kernel_rfl) (by kernel_rfl) (fun _ _ _ h=>h) (Or.inl ⟨by kernel_rfl,?_⟩) ?_
   rotate_left
   ·intro w; go_simp; with_reducible rfl
   refine wpAny_ready (rs:=[4,8]) (by kernel_rfl) (by simp) ?_;refine AllReady.cons rfl (fun K hK=>?_) (AllReady.cons rfl (fun K hK=>?_) AllReady.nil)
   ·go_simp;refine hK _ _ ?_;clear hK K;refine wpAny_ready (rs:=[8]) (by kernel_rfl) (by simp) ?_;refine AllReady.cons rfl (fun K hK=>?_) AllReady.nil;go_simp;refine hK _ _ ?_;clear hK K;refine wpAny_ready (rs:=[9]) (by kernel_rfl) (by simp) ?_;refine AllReady.cons rfl (fun K hK=>?_) AllReady.nil;rw [if_pos (by kernel_rfl)];refine wp_append_own _ (.tmp 15) (.tmp 19) 121 rfl (b+1) 5 i0 (.int .u8 0) 1 1 Tryz.underlying121 hi hz0 hz1 hz2 rfl (by decide) (.slice ao acc.length cap) acc.length (qc acc) (by kernel_rfl) hA.o ⟨wr.heap.size,0,none⟩ 1 1 [.int .u8 s[k].toNat] (by kernel_rfl) rfl hN.o iY.o h63.o hby.o hbs.o ?_
    intro v' w3 hown' hgrow _;obtain ⟨Jg,cap',rfl⟩:=yj hown';have gd:(wr.alloc (.cells #[.int .u8 s[k].toNat] 5)).grownBy w3 (Value.ownBlock (.slice ao acc.length cap)):=⟨hgrow.os,hgrow.tape,hgrow.output,hgrow.size,hgrow.block⟩
    have m0:=(Gp xB.o gd hrow.o).cell 0;have n0:=(Gp xB.o gd hrow.o).free 0;have P:=hid (Sq xB.o HB.o HOW.o gd hrow.o hown');clear hown' hgrow gd;refine hK _ _ ?_;clear hK K;refine wpAny_take (i:=10) (v:=?_) rfl (by kernel_rfl) (by kernel_rfl) (by kernel_rfl) (fun _ _ _ h=>h) (Or.inl ⟨by kernel_rfl,?_⟩) ?_
    rotate_left
    ·intro w; go_simp; with_reducible rfl
    refine wpAny_take (i:=11) (v:=?_) rfl (by kernel_rfl) (by kernel_rfl) (by kernel_rfl) (fun _ _ _ h=>h) (Or.inl ⟨by kernel_rfl,?_⟩) ?_
    rotate_left
    ·intro w; go_simp; with_reducible rfl
    refine wpAny_ready (rs:=[12]) (by kernel_rfl) (by simp) ?_;refine AllReady.cons rfl (fun K hK=>?_) AllReady.nil;go_simp;refine hK _ _ ?_;clear hK K;refine wpAny_done (by kernel_rfl) ?_ _;clear hA hN iY h63 hby hbs VJ c0 f0 hne;go_wp2
    go_roundw
    case rel =>
     refine ⟨k+1,by omega,by go_num,⟨acc ++ [s[k]],?_,P.o.1,?_⟩,P.o.2⟩
     ·have:=KS.o; simp; omega
     ·rw [<- KZ.o,List.append_assoc,Y8 s k hlt]
    case measure=>simp [intOf]; omega
   ·go_simp;refine hK _ _ ?_;clear hK K;refine wpAny_ready (rs:=[4]) (by kernel_rfl) (by simp) ?_;refine AllReady.cons rfl (fun K hK=>?_) AllReady.nil;go_simp;refine hK _ _ ?_;clear hK K;refine wpAny_ready (rs:=[9]) (by kernel_rfl) (by simp) ?_;refine AllReady.cons rfl (fun K hK=>?_) AllReady.nil;rw [if_pos (by kernel_rfl)];refine wp_append_own _ (.tmp 15) (.tmp 19) 121 rfl (b+1) 5 i0 (.int .u8 0) 1 1 Tryz.underlying121 hi hz0 hz1 hz2 rfl (by decide) (.slice ao acc.length cap) acc.length (qc acc) (by kernel_rfl) hA.o ⟨wr.heap.size,0,none⟩ 1 1 [.int .u8 s[k].toNat] (by kernel_rfl) rfl hN.o iY.o h63.o hby.o hbs.o ?_
    intro v' w3 hown' hgrow _;obtain ⟨Jg,cap',rfl⟩:=yj hown';have gd:(wr.alloc (.cells #[.int .u8 s[k].toNat] 5)).grownBy w3 (Value.ownBlock (.slice ao acc.length cap)):=⟨hgrow.os,hgrow.tape,hgrow.output,hgrow.size,hgrow.block⟩
    have m0:=(Gp xB.o gd hrow.o).cell 0;have n0:=(Gp xB.o gd hrow.o).free 0;have P:=hid (Sq xB.o HB.o HOW.o gd hrow.o hown');clear hown' hgrow gd;refine hK _ _ ?_;clear hK K;refine wpAny_take (i:=10) (v:=?_) rfl (by kernel_rfl) (by kernel_rfl) (by kernel_rfl) (fun _ _ _ h=>h) (Or.inl ⟨by kernel_rfl,?_⟩) ?_
    rotate_left
    ·intro w; go_simp; with_reducible rfl
    refine wpAny_take (i:=11) (v:=?_) rfl (by kernel_rfl) (by kernel_rfl) (by kernel_rfl) (fun _ _ _ h=>h) (Or.inl ⟨by kernel_rfl,?_⟩) ?_
    rotate_left
    ·intro w; go_simp; with_reducible rfl
    refine wpAny_ready (rs:=[12]) (by kernel_rfl) (by simp) ?_;refine AllReady.cons rfl (fun K hK=>?_) AllReady.nil;go_simp;refine hK _ _ ?_;clear hK K;refine wpAny_done (by kernel_rfl) ?_ _;clear hA hN iY h63 hby hbs VJ c0 f0 hne;go_wp2
    go_roundw
    case rel =>
     refine ⟨k+1,by omega,by go_num,⟨acc ++ [s[k]],?_,P.o.1,?_⟩,P.o.2⟩
     ·have:=KS.o; simp; omega
     ·rw [<- KZ.o,List.append_assoc,Y8 s k hlt]
    case measure=>simp [intOf]; omega
  ·go_wp2
   go_end0
   obtain ⟨acc,hdl,hw,hle⟩:=HD.o;rw [List.take_of_length_le (by rw [rz]; omega)] at hle;rw [hle];exact ⟨rfl,hw,HB.o⟩
theorem ynM (l:List UInt8):strOfNums (l.map fun c=>(c.toNat:Int))=bs l:=by
 unfold strOfNums bs;rw [List.map_map,List.map_congr_left (g:=id) (fun c _=>by simp),List.map_id]
theorem XM {w:World} {base:Nat} {ao:Option Addr} {cap:Nat} {l:List UInt8} (h:w.ownsRow base 5 1 (.slice ao l.length cap) l.length (qc l)) :
  (convert 121 9 (.slice ao l.length cap)).run Tryz.prog w = .ok (.string (bs l)) w:=by
 rcases h.2 with ⟨h1,h2⟩ | ⟨g,cap',cur,hv,_⟩
 ·simp only [Value.slice.injEq] at h1;obtain ⟨rfl,h3,rfl⟩:=h1
  have:l=[]:=List.length_eq_zero_iff.1 h3
  subst this;exact run_convert_bytes_nil w 121 5 Tryz.underlying121 Tryz.underlying5 _ _ 9 Tryz.underlying9
 ·simp only [Value.slice.injEq] at hv;obtain ⟨rfl,_,rfl⟩:=hv
  have:=run_convert_bytes_arg (P:=Tryz.prog) w 121 5 Tryz.underlying121 Tryz.underlying5 g 0 l.length cap (l.map fun c=>(c.toNat:Int)) (by simp) (fun i hi=>by
   have q:=h.cellAt i (by omega);rw [Nat.zero_add,q];simp [qc,hi]) 9 Tryz.underlying9
  rw [ynM] at this;exact this
theorem ylM (b:Nat) (l:List UInt8) (w:World) (h:kr w b l) :
  Calls Tryz.prog 57 #[.pointer (some ⟨b,0,none⟩)] w fun e w'=>e = .returned (.string (bs l))/\w'=w:=by
 obtain ⟨ao,cap,hblk,hown⟩:=h;have c0:=hblk.cell 0;have hr:=XM hown;clear hblk hown;go_enter Tryz.func57,Tryz.ntmps57;go_wp2;go_ret;exact ⟨rfl,rfl⟩
def xX (w:World) (b:Nat) (ao:Option Addr) (xs:List Int):Prop :=
 0 < xs.length->∃ g cs,ao=some ⟨g,0,none⟩/\g≠b/\ye w g cs 3/\∀ i (h:i < xs.length),cs[i]?=some (.int .i64 xs[i])
theorem xX.kept {w w':World} {b:Nat} {ao:Option Addr} {xs:List Int} (h:xX w b ao xs) (hk:Wk b w w'):xX w' b ao xs:=by
 intro h0;obtain ⟨g,cs,h1,h2,h3,h4⟩:=h h0;exact ⟨g,cs,h1,h2,hk.2 g cs _ h2 (by decide) h3,h4⟩
theorem xX.aB {w:World} {base b:Nat} {ao:Option Addr} {n cap:Nat} {xs:List Int} (h:w.ownsRow base 3 1 (.slice ao n cap) n (xs.map (Value.int .i64))) (hb:∀ g,Value.ownBlock (.slice ao n cap)=some g->g≠b):xX w b ao xs:=by
 intro h0;have hn:xs.length=n:=by have:=h.1; simpa using this
 rcases h.2 with ⟨h1,h2⟩ | ⟨g,cap',cur,hv,_,hh,_,_,hcs,htk⟩
 ·simp at h1; omega
 ·simp only [Value.slice.injEq] at hv;obtain ⟨rfl,_,rfl⟩:=hv;refine ⟨g,cur,rfl,hb g rfl,hh,fun i hi=>?_⟩;have e:(cur.toList.take (n * 1))[i]?=(xs.map (Value.int .i64))[i]?:=by rw [htk]
  rw [List.getElem?_take,if_pos (by omega)] at e;rw [<- Array.getElem?_toList,e];simp [hi]
theorem C8 (b:Nat) (n:Int) (size:Nat) (ms:Int) (hms:ms=(size:Int)) (l:List UInt8) (w:World) (h:kr w b l) (hl:l.length<=16777216) (hs:size<=4) (hn0:-1099511627776<=n) (hn1:n<=1099511627776) :
  Calls Tryz.prog 55 #[.pointer (some ⟨b,0,none⟩),.int .i64 n,.int .i64 ms] w fun e w'=>e = .returned (.tuple #[])/\kr w' b (l ++ Lk.le n size)/\Wk b w w':=by
 subst hms; exact X3 b n size l w h hl hs hn0 hn1
theorem Rx (xs:List Int) (k size:Nat) (h:k < xs.length):Lk.nums (xs.take (k+1)) size=Lk.nums (xs.take k) size ++ Lk.le xs[k] size:=by
 unfold Lk.nums;rw [List.take_succ_eq_append_getElem h,List.flatMap_append];simp
theorem xg (xs:List Int) (size:Nat):(Lk.nums xs size).length=xs.length * size:=by
 unfold Lk.nums
 induction xs with
 | nil=>simp
 | cons x t ih=>simp only [List.flatMap_cons,fE,ih,Lk.aD,gL,Nat.succ_mul]; omega
theorem Qz (b:Nat) (ao:Option Addr) (cap size:Nat) (ms:Int) (hms:ms=(size:Int)) (xs:List Int) (l:List UInt8) (w:World) (h:kr w b l) (hI:xX w b ao xs)
  (hl:l.length<=1048576) (hs:size<=4) (hn:xs.length<=65535) (hx:∀ i (h:i < xs.length),-1099511627776<=xs[i]/\xs[i]<=1099511627776) :
  Calls Tryz.prog 56 #[.pointer (some ⟨b,0,none⟩),.slice ao xs.length cap,.int .i64 ms] w fun e w'=>e = .returned (.tuple #[])/\kr w' b (l ++ Lk.nums xs size)/\Wk b w w':=by
 subst hms;have H:=hid h;have HI:=hid hI;have HX:=hid hx;clear h hI hx;go_enter Tryz.func56,Tryz.ntmps56;go_wp2
 go_loopw [10] (fun i wr=>∃ k:Nat,k<=xs.length/\i = .int .i64 k/\kr wr b (l ++ Lk.nums (xs.take k) size)/\Wk b w wr) (fun i _=>xs.length - (intOf i).toNat)
 case atStart=>exact ⟨0,Nat.zero_le _,rfl,by simpa [Lk.nums] using H.o,Wk.refl _ _⟩
 case round =>
  obtain ⟨k,hk,rfl,hw,hbel⟩:=hrel;have HW:=hid hw;have HB:=hid hbel;clear hw hbel;by_cases hlt2:k < xs.length
  ·obtain ⟨g,cs,hao,-,hbk,hc⟩:=HI.o.kept HB.o (by omega);subst hao;have hck:=(hbk.cell k).trans (hc k hlt2);clear hbk;have hxk:=HX.o k hlt2;have hlen:(l ++ Lk.nums (xs.take k) size).length<=16777216:=by
    rw [fE,xg,List.length_take_of_le (by omega)]
    have:k * size<=k * 4:=Nat.mul_le_mul_left k hs
    omega
   have cN:=hid (fun W h=>X3 b xs[k] size (l ++ Lk.nums (xs.take k) size) W h hlen hs hxk.1 hxk.2);clear hc hlen;go_wp2_with fail;refine (cN.o _ HW.o).mono ?_;rintro e w2 ⟨rfl,hw2,hb2⟩;have HW2:=hid hw2;have HB2:=hid (HB.o.trans hb2);clear hw2 hb2;go_wp2
   go_roundw
   case rel=>exact ⟨k+1,by omega,by go_num,by rw [Rx xs k size hlt2,<- List.append_assoc]; exact HW2.o,HB2.o⟩
   case measure=>simp [intOf]; omega
  ·go_wp2
   go_end0
   have e:xs.take k=xs:=List.take_of_length_le (by omega);have hw:=HW.o;rw [e] at hw;exact ⟨rfl,hw,HB.o⟩
def kM (l:List UInt8) (p n:Nat):List UInt8:=(l.drop p).take n
theorem yom (s:ByteArray) (p n:Nat) (w:World) (hs:s.size<=1048576) (hp:p<=16777216) (hn:n<=16777216) :
  Calls Tryz.prog 59 #[.string s,.int .i64 p,.int .i64 n] w fun e w'=>e = .returned (.string (bs (kM (sl s) p n)))/\w'=w:=by
 have hsz:=hid (rz s);by_cases h1:s.size < p
 ·have C:=hid (show kM (sl s) p n=[] from by unfold kM; rw [List.drop_of_length_le (by rw [hsz.o]; omega)]; simp);have g1:(s.size:Int) < (p:Int):=by omega
  by_cases h2:0 < n
  ·have g2:(0:Int) < (n:Int):=by omega
   go_enter Tryz.func59,Tryz.ntmps59;go_wp2;go_ret;exact ⟨EM (by rw [C.o]; rfl),rfl⟩
  ·have e:n=0:=by omega
   subst e;go_enter Tryz.func59,Tryz.ntmps59;go_wp2;go_ret;exact ⟨EM (by rw [C.o]; rfl),rfl⟩
 ·have g1:(p:Int)<=(s.size:Int):=by omega
  by_cases h2:s.size - p < n
  ·have g2:(s.size:Int) - (p:Int) < (n:Int):=by omega
   go_enter Tryz.func59,Tryz.ntmps59;go_wp2;go_ret;refine ⟨EM ?_,rfl⟩;rw [Rj];unfold kM
   congr 1
   rw [List.take_of_length_le (by rw [List.length_drop,hsz.o]; omega),List.take_of_length_le (by rw [List.length_drop,hsz.o]; omega)]
  ·have g2:(n:Int)<=(s.size:Int) - (p:Int):=by omega
   go_enter Tryz.func59,Tryz.ntmps59;go_wp2;go_ret;refine ⟨EM ?_,rfl⟩;rw [Rj,Nat.add_sub_cancel_left];rfl
def lZ (l:List UInt8) (p:Nat):Nat->List Int
 | 0=>[]
 | n+1=>lZ l p n ++ [bX l (p+4 * n) 4]
theorem Gc (l:List UInt8) (p n:Nat):(lZ l p n).length=n:=by
 induction n with
 | zero=>rfl
 | succ n ih=>simp [lZ,ih]
theorem ykj (s:ByteArray) (p n:Nat) (w:World) (hs:s.size<=1048576) (hp:p<=8388608) (hn:n<=65535) :
  Calls Tryz.prog 60 #[.string s,.int .i64 p,.int .i64 n] w fun e w'=>∃ v,e = .returned v/\w'.ownsRow w.heap.size 3 1 v (min n 1201) ((lZ (sl s) p (min n 1201)).map (Value.int .i64))/\w.grownBy w' none:=by
 obtain ⟨i0,hi,hz0,hz1,hz2⟩:=info_parts Tryz.fP;go_enter Tryz.func60,Tryz.ntmps60;go_wp2
 go_loopw [7,8] (fun v i wr=>∃ k:Nat,k<=n/\k<=1201/\i = .int .i64 k/\wr.ownsRow w.heap.size 3 1 v k ((lZ (sl s) p k).map (Value.int .i64))/\w.grownBy wr none) (fun _ i _=>n - (intOf i).toNat)
 case atStart=>exact ⟨0,Nat.zero_le _,Nat.zero_le _,rfl,World.ownsRow_nil _ _ _ _,World.grownBy.refl _ _⟩
 case round =>
  obtain ⟨k,hk,hk2,rfl,hown,hgr⟩:=hrel;have HG:=hid hgr;have hsz:=hgr.size;clear hgr;by_cases hlt:k < n/\k < 1201
  ·obtain ⟨hlt1,hlt2⟩:=hlt;have g1:(k:Int) < (n:Int):=by omega
   have g2:(k:Int) < 1201:=by omega
   have cA:=hid (fun W=>qQ s (p+4 * k) 4 ((p:Int)+4 * (k:Int)) 4 (by omega) rfl W hs (by omega) (by omega));go_wp2_with fail;refine (cA.o _).mono ?_;rintro e w1 ⟨rfl,rfl⟩;have HX:=hid (show lZ (sl s) p (k+1)=lZ (sl s) p k ++ [bX (sl s) (p+4 * k) 4] from rfl);generalize bX (sl s) (p+4 * k) 4=x at *;go_wp2_with (at_builtin; refine wpList_append_own _ rfl _ _ 35 rfl w.heap.size 3 i0 (.int .i64 0) 1 8 Tryz.underlying35 hi hz0 hz1 hz2 rfl (by decide) _ _ _ rfl (hown.alloc _) ⟨w1.heap.size,0,none⟩ 1 1 [.int .i64 x] rfl rfl (cell_one_new _ _ _) (by intro u hu; simp at hu; subst hu; rfl) (by unfold maxLen; omega) (by omega) (by simp; omega) ?_; intro v' w3 hown' hgrow _)
   have G3:=hid (show w.grownBy w3 none from ⟨hgrow.os.trans HG.o.os,hgrow.tape.trans HG.o.tape,hgrow.output.trans HG.o.output,by have:=hgrow.size; simp at this; omega,fun i hi' _ =>
    (hgrow.block i (by simp; omega) (fun e=>by have:=(hown.lt i e.symm).1; omega)).trans ((Below.heap_alloc _ _ i (by omega)).trans (HG.o.block i hi' (by simp)))⟩)
   clear hgrow hown;go_wp2
   go_roundw
   case rel=>exact ⟨k+1,by omega,by omega,by go_num,by rw [HX.o]; simpa using hown',G3.o⟩
   case measure=>simp [intOf]; omega
  ·have hmin:min n 1201=k:=by omega
   have HM:=hid hmin;by_cases hlt1:k < n
   ·have g1:decide ((k:Int) < (n:Int))=true:=by simp; omega
    have g2:decide ((k:Int) < 1201)=false:=by simp; omega
    clear hmin;go_wp2;go_ret;rw [HM.o];exact ⟨_,rfl,hown,HG.o⟩
   ·have g1:decide ((k:Int) < (n:Int))=false:=by simp; omega
    clear hmin;go_wp2;go_ret;rw [HM.o];exact ⟨_,rfl,hown,HG.o⟩
theorem XY (y:Lk.Sym):(Lk.iN y).length=5+y.name.length:=by
 simp only [Lk.iN,fE,Lk.aD];omega
theorem Rb (r:Lk.Rel):(Lk.iG r).length=7:=by
 simp only [Lk.iG,fE,Lk.aD]
theorem Gd (ys:List Int) (n:Nat):(Lk.nums ys n).length=n * ys.length:=by
 induction ys with
 | nil=>rfl
 | cons y t ih=>simp only [Lk.nums,List.flatMap_cons,fE,Lk.aD,gL,Nat.mul_add] at *; omega
theorem Yk {o:Lk.Obj} (h:Fb o) (ah:Int):(yh o ah).length<=1200:=by
 obtain ⟨⟨n1,n2,n3⟩,-⟩:=h;unfold yh;split
 ·exact n1
 split
 ·exact n2
 split
 ·omega
 ·simp
theorem Ra {xs:List Int} (h:j6 xs):Lk.iy 4 xs:=fun x hx=>by
 obtain ⟨i,hi,rfl⟩:=List.getElem_of_mem hx
 have:=h i hi
 simp only [Int.reducePow];omega
theorem MX {o:Lk.Obj} (h:yp o):Lk.lI o:=by
 obtain ⟨hz,hb,hw,hs,hr⟩:=h;have hz':=hz;obtain ⟨⟨n1,n2,n3⟩,n4,n5,n6⟩:=hz;refine ⟨by omega,by omega,by omega,by omega,hb.1,?_,by omega,by omega,?_,?_,Ra hw.1,Ra hw.2.1,Ra hw.2.2⟩
 ·intro x hx;obtain ⟨i,hi,rfl⟩:=List.getElem_of_mem hx
  have:=hb.2 i hi
  simp only [Int.reducePow];omega
 ·intro y hy;obtain ⟨i,hi,rfl⟩:=List.getElem_of_mem hy;obtain ⟨⟨k1,k2,k3,-,k4,-,k5⟩,-⟩:=hs i hi;have hl:(bs (o.syms[i]).name).size=(o.syms[i]).name.length:=rfl;have k6:=k1.2.1;have hw:=Yk hz' (o.syms[i]).ah;refine ⟨by omega,by omega,by omega,by omega,?_⟩;unfold kY at k5;split at k5 <;> omega
 ·intro r hr';obtain ⟨i,hi,rfl⟩:=List.getElem_of_mem hr';obtain ⟨⟨k1,k2,k3,-,k5,-,-⟩,-⟩:=hr i hi;have hsp:=yC k2;have hw:=Yk hz' (o.aj[i]).ah;unfold yA at k5;unfold yH at k1;unfold jw at k3;unfold yl at k2;refine ⟨by omega,by omega,by omega,?_,?_⟩
  ·split at k3 <;> omega
  ·split at k2
   ·omega
   ·split at k2 <;> omega
theorem Sg {α:Type} (f:α->List UInt8) (m:Nat) (xs:List α) (h:∀ x∈xs,(f x).length<=m):(xs.flatMap f).length<=m * xs.length:=by
 induction xs with
 | nil=>simp
 | cons x t ih =>
  have h1:=h x (by simp);have h2:=ih (fun y hy=>h y (by simp [hy]));simp only [List.flatMap_cons,fE,gL,Nat.mul_add];omega
theorem ykv {o:Lk.Obj} (h:yp o):(Lk.kP o).length<=65535:=by
 obtain ⟨hz,hb,hw,hs,hr⟩:=h;obtain ⟨⟨n1,n2,n3⟩,n4,n5,n6⟩:=hz;have e1:(o.syms.flatMap Lk.iN).length<=11 * o.syms.length:=Sg _ _ _ fun y hy=>by
  obtain ⟨i,hi,rfl⟩:=List.getElem_of_mem hy;have k6:=(hs i hi).1.1.2.1;have hl:(bs (o.syms[i]).name).size=(o.syms[i]).name.length:=rfl;rw [XY];omega
 have e2:(o.aj.flatMap Lk.iG).length<=7 * o.aj.length:=Sg _ _ _ fun y _=>by rw [Rb]; omega
 have e3:=Gd o.align 1;have e4:=Gd o.text 4;have e5:=Gd o.far 4;have e6:=Gd o.data 4
 have:=hb.1
 simp only [Lk.kP,fE,Lk.aD,gL,List.length_nil];omega
theorem yR {l a rest:List UInt8} {p:Nat} (h:l.drop p=a ++ rest):l.drop (p+a.length)=rest:=by
 rw [<- List.drop_drop,h,List.drop_left]
theorem oW {l rest:List UInt8} {v:Int} {p n:Nat} (h:l.drop p=Lk.le v n ++ rest) (h0:0<=v) (h1:v < (256:Int) ^ n):bX l p n=v:=by
 induction n generalizing p v with
 | zero=>simp [bX]; simp at h1; omega
 | succ n ih =>
  simp only [Lk.le,List.cons_append] at h;have hlt:p < l.length:=by
   have:=congrArg List.length h
   simp at this;omega
  have hg:l.getD p 0=UInt8.ofNat (v % 256).toNat:=by
   have h2:(l.drop p)[0]?=some (UInt8.ofNat (v % 256).toNat):=by rw [h]; rfl
   rw [List.getElem?_drop] at h2;rw [iJ];simp only [Nat.add_zero] at h2;rw [h2];rfl
  have hd:l.drop (p+1)=Lk.le (v / 256) n ++ rest:=by
   rw [<- List.drop_drop,h];rfl
  rw [Int.pow_succ] at h1;have hi:=ih hd (by omega) (by omega);simp only [bX,hi,hg];have hm:(UInt8.ofNat (v % 256).toNat).toNat=(v % 256).toNat:=by
   rw [UInt8.toNat_ofNat'];omega
  rw [hm];omega
theorem YN {l x rest:List UInt8} {p:Nat} (h:l.drop p=x ++ rest):kM l p x.length=x:=by
 unfold kM;rw [h,List.take_left]
theorem Rw {l rest:List UInt8} {xs:List Int} {p:Nat} (h:l.drop p=Lk.nums xs 4 ++ rest) (hg:Lk.iy 4 xs) (k:Nat) (hk:k<=xs.length):lZ l p k=xs.take k:=by
 induction k with
 | zero=>rfl
 | succ k ih =>
  have hk':k < xs.length:=by omega
  rw [lZ,ih (by omega),List.take_succ_eq_append_getElem hk']
  congr 2
  have hlen:∀ ys:List Int,(Lk.nums ys 4).length=4 * ys.length:=by
   intro ys
   induction ys with
   | nil=>rfl
   | cons y t ih=>simp only [Lk.nums,List.flatMap_cons,fE,Lk.aD,gL] at *; omega
  have e:l.drop p=Lk.nums (xs.take k) 4 ++ (Lk.le xs[k] 4 ++ (Lk.nums (xs.drop (k+1)) 4 ++ rest)):=by
   have e0:xs=xs.take k ++ xs[k] :: xs.drop (k+1):=by rw [<- jg hk',List.take_append_drop]
   rw [h];refine (congrArg (fun z=>Lk.nums z 4 ++ rest) e0).trans ?_;simp only [Lk.nums,List.flatMap_append,List.flatMap_cons,List.append_assoc]
  have e2:=yR e;rw [hlen,List.length_take,Nat.min_eq_left (by omega)] at e2;exact oW e2 (hg _ (dM hk')).1 (hg _ (dM hk')).2
def bD (l:List UInt8) (p:Nat):Lk.Sym :=
 ⟨kM l (p+1) (bX l p 1).toNat,bX l (p+1+(bX l p 1).toNat) 1,bX l (p+2+(bX l p 1).toNat) 1,bX l (p+3+(bX l p 1).toNat) 2⟩
def yG (l:List UInt8):Nat->List Lk.Sym×Nat
 | 0=>([],16)
 | k+1=>((yG l k).1 ++ [bD l (yG l k).2],(yG l k).2+5+(bX l (yG l k).2 1).toNat)
def Gs (l:List UInt8) (p:Nat):Lk.Rel:=⟨bX l p 1,bX l (p+2) 2,bX l (p+1) 1,bX l (p+4) 1,Lk.tL (bX l (p+5) 2)⟩
def rC (l:List UInt8) (p:Nat):Nat->List Lk.Rel
 | 0=>[]
 | k+1=>rC l p k ++ [Gs l (p+7 * k)]
theorem WZ (l:List UInt8) (k:Nat):(yG l k).1.length=k:=by
 induction k with
 | zero=>rfl
 | succ k ih=>simp [yG,ih]
theorem WY (l:List UInt8) (p k:Nat):(rC l p k).length=k:=by
 induction k with
 | zero=>rfl
 | succ k ih=>simp [rC,ih]
theorem ykt (l:List UInt8) (k:Nat):(yG l k).2<=16+260 * k:=by
 induction k with
 | zero=>simp [yG]
 | succ k ih =>
  have h:=q9 l (yG l k).2 1;simp only [yG,Int.reducePow] at *;omega
def yF (l:List UInt8):Lk.Obj :=
 ⟨lZ l ((yG l (bX l 14 1).toNat).2+7 * (bX l 15 1).toNat) (min (bX l 2 2).toNat 1201),
 lZ l ((yG l (bX l 14 1).toNat).2+7 * (bX l 15 1).toNat+4 * (bX l 2 2).toNat) (min (bX l 4 2).toNat 1201),
 lZ l ((yG l (bX l 14 1).toNat).2+7 * (bX l 15 1).toNat+4 * (bX l 2 2).toNat+4 * (bX l 4 2).toNat) (min (bX l 6 2).toNat 1201),
 bX l 8 2,[bX l 10 1,bX l 11 1,bX l 12 1,bX l 13 1],(yG l (bX l 14 1).toNat).1,rC l (yG l (bX l 14 1).toNat).2 (bX l 15 1).toNat⟩
theorem ynN {l rest:List UInt8} {y:Lk.Sym} {p:Nat} (h:l.drop p=Lk.iN y ++ rest) (hy:Lk.nP y):bD l p=y/\(bX l p 1).toNat=y.name.length:=by
 obtain ⟨nm,b,s,f⟩:=y;obtain ⟨h1,h2,h3,h4⟩:=hy;simp only at h1 h2 h3 h4;simp only [Lk.iN,List.append_assoc] at h;have a0:bX l p 1=(nm.length:Int):=oW h (by omega) (by simp; omega);have d1:=yR h;rw [Lk.aD] at d1;have d2:=yR d1;have d3:=yR d2;rw [Lk.aD] at d3;have d4:=yR d3;rw [Lk.aD] at d4;have e0:(bX l p 1).toNat=nm.length:=by rw [a0]; omega
 refine ⟨?_,e0⟩;unfold bD;rw [e0];have a1:=YN d1;have a2:bX l (p+1+nm.length) 1=b:=oW d2 h2.1 (by simpa using h2.2);have a3:bX l (p+2+nm.length) 1=s:=by
  rw [show p+2+nm.length=p+1+nm.length+1 from by omega];exact oW d3 h3.1 (by simpa using h3.2)
 have a4:bX l (p+3+nm.length) 2=f:=by
  rw [show p+3+nm.length=p+1+nm.length+1+1 from by omega];exact oW d4 h4.1 (by simpa using h4.2)
 rw [a1,a2,a3,a4]
theorem ylH {l rest:List UInt8} {ys:List Lk.Sym} (h:l.drop 16=ys.flatMap Lk.iN ++ rest) (hg:∀ y∈ys,Lk.nP y) (k:Nat) (hk:k<=ys.length) :
  yG l k=(ys.take k,16+((ys.take k).flatMap Lk.iN).length):=by
 induction k with
 | zero=>rfl
 | succ k ih =>
  have hk':k < ys.length:=by omega
  have e:l.drop 16=(ys.take k).flatMap Lk.iN ++ (Lk.iN ys[k] ++ ((ys.drop (k+1)).flatMap Lk.iN ++ rest)):=by
   have e0:ys=ys.take k ++ ys[k] :: ys.drop (k+1):=by rw [<- jg hk',List.take_append_drop]
   rw [h];refine (congrArg (fun z=>List.flatMap Lk.iN z ++ rest) e0).trans ?_;simp only [List.flatMap_append,List.flatMap_cons,List.append_assoc]
  have e2:=yR e;obtain ⟨s1,s2⟩:=ynN e2 (hg _ (dM hk'));simp only [yG,ih (by omega)];rw [s1,s2,List.take_succ_eq_append_getElem hk',List.flatMap_append,fE];simp only [List.flatMap_cons,List.flatMap_nil,List.append_nil,XY];rw [Nat.add_assoc,Nat.add_assoc]
theorem ymH {l rest:List UInt8} {r:Lk.Rel} {p:Nat} (h:l.drop p=Lk.iG r ++ rest) (hr:Lk.nO r):Gs l p=r:=by
 obtain ⟨s,f,d,y,a⟩:=r;obtain ⟨h1,h2,h3,h4,h5,h6⟩:=hr;simp only at h1 h2 h3 h4 h5 h6;simp only [Lk.iG,List.append_assoc] at h;rw [<- Lk.zT a] at h;have d1:=yR h;rw [Lk.aD] at d1;have d2:=yR d1;rw [Lk.aD] at d2;have d3:=yR d2;rw [Lk.aD] at d3;have d4:=yR d3;rw [Lk.aD] at d4;have a0:bX l p 1=s:=oW h h1.1 (by simpa using h1.2);have a1:bX l (p+1) 1=d:=oW d1 h2.1 (by simpa using h2.2);have a2:bX l (p+2) 2=f:=oW d2 h3.1 (by simpa using h3.2);have a3:bX l (p+4) 1=y:=oW d3 h4.1 (by simpa using h4.2);have a4:bX l (p+5) 2=Lk.zX a:=oW d4 (by unfold Lk.zX; split <;> omega) (by unfold Lk.zX; simp only [Int.reducePow]; split <;> omega)
 unfold Gs;rw [a0,a1,a2,a3,a4]
 congr 1
 unfold Lk.tL Lk.zX;split <;> split <;> omega
theorem ylD {l rest:List UInt8} {rs:List Lk.Rel} {p:Nat} (h:l.drop p=rs.flatMap Lk.iG ++ rest) (hg:∀ r∈rs,Lk.nO r) (k:Nat) (hk:k<=rs.length) :
  rC l p k=rs.take k:=by
 induction k with
 | zero=>rfl
 | succ k ih =>
  have hk':k < rs.length:=by omega
  have hlen:∀ ys:List Lk.Rel,(ys.flatMap Lk.iG).length=7 * ys.length:=by
   intro ys
   induction ys with
   | nil=>rfl
   | cons y t ih=>simp only [List.flatMap_cons,fE,Rb,gL] at *; omega
  have e:l.drop p=(rs.take k).flatMap Lk.iG ++ (Lk.iG rs[k] ++ ((rs.drop (k+1)).flatMap Lk.iG ++ rest)):=by
   have e0:rs=rs.take k ++ rs[k] :: rs.drop (k+1):=by rw [<- jg hk',List.take_append_drop]
   rw [h];refine (congrArg (fun z=>List.flatMap Lk.iG z ++ rest) e0).trans ?_;simp only [List.flatMap_append,List.flatMap_cons,List.append_assoc]
  have e2:=yR e;rw [hlen,List.length_take,Nat.min_eq_left (by omega)] at e2;simp only [rC,ih (by omega),List.take_succ_eq_append_getElem hk'];rw [ymH e2 (hg _ (dM hk'))]
theorem ykp (rs:List Lk.Rel):(rs.flatMap Lk.iG).length=7 * rs.length:=by
 induction rs with
 | nil=>rfl
 | cons y t ih=>simp only [List.flatMap_cons,fE,Rb,gL] at *; omega
theorem ynJ {o:Lk.Obj} (hg:Lk.lI o) (hz:o.text.length<=1200/\o.far.length<=1200/\o.data.length<=1200):yF (Lk.kP o)=o:=by
 obtain ⟨g1,g2,g3,g4,g5,g6,g7,g8,g9,g10,g11,g12,g13⟩:=hg;obtain ⟨tx,fx,dx,bss,al,ys,rs⟩:=o;simp only at *;obtain ⟨a,b,c,d,rfl⟩:∃ a b c d,al=[a,b,c,d]:=by
  match al,g5 with
  | [a,b,c,d],_=>exact ⟨a,b,c,d,rfl⟩
 generalize hl:Lk.kP ⟨tx,fx,dx,bss,[a,b,c,d],ys,rs⟩=l;have h0:l.drop 0=[76,75] ++ Lk.kG ⟨tx,fx,dx,bss,[a,b,c,d],ys,rs⟩:=by rw [<- hl]; rfl
 simp only [Lk.kG] at h0;have h2:=yR h0;have h4:=yR h2;rw [Lk.aD] at h4;have h6:=yR h4;rw [Lk.aD] at h6;have h8:=yR h6;rw [Lk.aD] at h8;have h10:=yR h8;rw [Lk.aD] at h10;have hal:Lk.nums [a,b,c,d] 1=Lk.le a 1 ++ (Lk.le b 1 ++ (Lk.le c 1 ++ Lk.le d 1)):=by simp only [Lk.nums,List.flatMap_cons,List.flatMap_nil,List.append_nil]
 rw [hal] at h10;simp only [List.append_assoc] at h10;have h11:=yR h10;rw [Lk.aD] at h11;have h12:=yR h11;rw [Lk.aD] at h12;have Ju:=yR h12;rw [Lk.aD] at Ju;have LC:=yR Ju;rw [Lk.aD] at LC;have LG:=yR LC;rw [Lk.aD] at LG;have h16:=yR LG;rw [Lk.aD] at h16;have hs:=yR h16;have hr:=yR hs;have ht:=yR hr;have hf:=yR ht;simp only [gL,List.length_nil,Nat.zero_add,Nat.reduceAdd] at h2 h4 h6 h8 h10 h11 h12 Ju LC LG h16 hs hr ht hf;have v2:bX l 2 2=(tx.length:Int):=oW h2 (by omega) (by simp; omega);have v4:bX l 4 2=(fx.length:Int):=oW h4 (by omega) (by simp; omega);have v6:bX l 6 2=(dx.length:Int):=oW h6 (by omega) (by simp; omega)
 have v8:bX l 8 2=bss:=oW h8 g4.1 (by simpa using g4.2);have w1:=g6 a (by simp);have w2:=g6 b (by simp);have w3:=g6 c (by simp);have w4:=g6 d (by simp);have v10:bX l 10 1=a:=oW h10 w1.1 w1.2;have v11:bX l 11 1=b:=oW h11 w2.1 w2.2;have v12:bX l 12 1=c:=oW h12 w3.1 w3.2;have v13:bX l 13 1=d:=oW Ju w4.1 w4.2;have v14:bX l 14 1=(ys.length:Int):=oW LC (by omega) (by simp; omega);have v15:bX l 15 1=(rs.length:Int):=oW LG (by omega) (by simp; omega);have JF:=ykp rs;have eS:=ylH h16 g9 ys.length (Nat.le_refl _);rw [List.take_length] at eS;unfold yF;rw [v2,v4,v6,v8,v10,v11,v12,v13,v14,v15];simp only [Int.toNat_natCast,eS]
 rw [ylD hs g10 rs.length (Nat.le_refl _),List.take_length];rw [JF] at hr ht hf;rw [Gd] at ht hf;rw [Gd] at hf;rw [Nat.min_eq_left (by omega),Nat.min_eq_left (by omega),Nat.min_eq_left (by omega)];rw [Rw hr g11 tx.length (Nat.le_refl _),List.take_length,Rw ht g12 fx.length (Nat.le_refl _),List.take_length];rw [Rw (rest:=[]) (by rw [List.append_nil]; exact hf) g13 dx.length (Nat.le_refl _),List.take_length]
def jG (l:List UInt8):Prop:=yp (yF l)/\Lk.kP (yF l)=l
theorem QU {l:List UInt8} {o:Lk.Obj} (h:Lk.gu l=some o) (hv:yp o):jG l/\yF l=o:=by
 obtain ⟨hg,rfl⟩:=(Lk.jT l o).1 h;have hz:=hv.1.1;have e:=ynJ hg ⟨hz.1,hz.2.1,by omega⟩;unfold jG;rw [e];exact ⟨⟨hv,rfl⟩,rfl⟩
theorem yis {l:List UInt8} (h:jG l):Lk.gu l=some (yF l):=(Lk.jT l _).2 ⟨MX h.1,h.2.symm⟩
theorem Kl {l:List UInt8} (h:jG l):l.length<=65535:=by
 have:=ykv h.1
 rw [h.2] at this;exact this
theorem QD {l:List UInt8} (h:∀ o,Lk.gu l=some o->¬ yp o):¬ jG l:=fun k=>h _ (yis k) k.1
def gI (m:List UInt8):List UInt8:=Lk.le m.length 2 ++ m
def Ao (ms:List (List UInt8)):List UInt8:=[65,82] ++ (Lk.le ms.length 1 ++ ms.flatMap gI)
def nH (l:List UInt8) (ms:List (List UInt8)):Prop:=(1<=ms.length/\ms.length<=6)/\(∀ m∈ms,jG m)/\Ao ms=l
theorem WR:¬ jG []:=fun h=>by
 have:=congrArg List.length h.2
 simp [Lk.kP] at this
def yW (l:List UInt8):Nat->List (List UInt8)×Nat
 | 0=>([],3)
 | k+1=>((yW l k).1 ++ [kM l ((yW l k).2+2) (bX l (yW l k).2 2).toNat],(yW l k).2+2+(bX l (yW l k).2 2).toNat)
def yS (l:List UInt8):List (List UInt8):=(yW l (min (bX l 2 1).toNat 6)).1
theorem yhE (l:List UInt8) (k:Nat):(yW l k).1.length=k:=by
 induction k with
 | zero=>rfl
 | succ k ih=>simp [yW,ih]
theorem yki (l:List UInt8) (k:Nat):(yW l k).2<=3+65537 * k:=by
 induction k with
 | zero=>simp [yW]
 | succ k ih =>
  have h:=q9 l (yW l k).2 2;simp only [yW,Int.reducePow] at *;omega
theorem WO (l:List UInt8) (k:Nat):∀ m∈(yW l k).1,m.length<=65535:=by
 induction k with
 | zero=>intro m hm; simp [yW] at hm
 | succ k ih =>
  intro m hm;simp only [yW,List.mem_append,List.mem_singleton] at hm;rcases hm with hm | rfl
  ·exact ih m hm
  ·have h:=q9 l (yW l k).2 2;simp only [Int.reducePow] at h;simp only [kM,List.length_take];omega
theorem ylz {l rest:List UInt8} {ms:List (List UInt8)} (h:l.drop 3=ms.flatMap gI ++ rest) (hg:∀ m∈ms,m.length<=65535) (k:Nat) (hk:k<=ms.length) :
  yW l k=(ms.take k,3+((ms.take k).flatMap gI).length):=by
 induction k with
 | zero=>rfl
 | succ k ih =>
  have hk':k < ms.length:=by omega
  have e:l.drop 3=(ms.take k).flatMap gI ++ (gI ms[k] ++ ((ms.drop (k+1)).flatMap gI ++ rest)):=by
   have e0:ms=ms.take k ++ ms[k] :: ms.drop (k+1):=by rw [<- jg hk',List.take_append_drop]
   rw [h];refine (congrArg (fun z=>List.flatMap gI z ++ rest) e0).trans ?_;simp only [List.flatMap_append,List.flatMap_cons,List.append_assoc]
  have e2:=yR e;have hm:=hg _ (dM hk');unfold gI at e2;rw [List.append_assoc] at e2;have a0:bX l (3+((ms.take k).flatMap gI).length) 2=(ms[k].length:Int):=oW e2 (by omega) (by simp only [Int.reducePow]; omega);have e3:=yR e2;rw [Lk.aD] at e3;have a1:=YN e3;simp only [yW,ih (by omega)];rw [a0,Int.toNat_natCast];refine Prod.ext ?_ ?_
  ·simp only;rw [List.take_succ_eq_append_getElem hk']
   congr 2
  ·simp only;rw [List.take_succ_eq_append_getElem hk',List.flatMap_append,fE];simp only [List.flatMap_cons,List.flatMap_nil,List.append_nil,gI,fE,Lk.aD];omega
theorem Sc {l:List UInt8} {ms:List (List UInt8)} (h:nH l ms):yS l=ms:=by
 obtain ⟨⟨h1,h2⟩,h3,h4⟩:=h;have d0:l.drop 0=[65,82] ++ (Lk.le ms.length 1 ++ ms.flatMap gI):=by rw [<- h4]; rfl
 have d2:=yR d0;have d3:=yR d2;rw [Lk.aD] at d3;simp only [gL,List.length_nil,Nat.zero_add,Nat.reduceAdd] at d2 d3;have a:bX l 2 1=(ms.length:Int):=oW d2 (by omega) (by simp only [Int.reducePow]; omega);unfold yS;rw [a,Int.toNat_natCast,Nat.min_eq_left h2,ylz (rest:=[]) (by rw [List.append_nil]; exact d3) (fun m hm=>Kl (h3 m hm)) ms.length (Nat.le_refl _),List.take_length]
theorem Tryz.nQ:(Tryz.prog.info? 9).map (fun i=>(i.zero,i.size,i.bytes))=some (some (.string ⟨#[]⟩),1,16):=by kernel_rfl
theorem ynr {l:List UInt8} {p:Nat} (hp:p<=l.length) (h:jG (Lk.aF l (Lk.rdNum l 2 (p,false)).1.toNat (Lk.rdNum l 2 (p,false)).2).1) :
  ∃ m,Lk.aF l (Lk.rdNum l 2 (p,false)).1.toNat (Lk.rdNum l 2 (p,false)).2=(m,(p+2+m.length,false))/\l.drop p=gI m ++ l.drop (p+2+m.length)/\p+2+m.length<=l.length:=by
 by_cases h1:2<=l.length - p
 ·have e1:Lk.rdNum l 2 (p,false)=(Lk.num ((l.drop p).take 2),(p+2,false)):=by simp [Lk.rdNum,Lk.aF,h1]
  rw [e1] at h ⊢;simp only at h ⊢;have hn:=Lk.num_nonneg ((l.drop p).take 2);have hlen:((l.drop p).take 2).length=2:=by simp; omega
  have hle:=Lk.uE ((l.drop p).take 2);rw [hlen] at hle;obtain ⟨n,hn'⟩:=Int.eq_ofNat_of_zero_le hn;rw [hn'] at h hle ⊢;simp only [Int.toNat_natCast] at h ⊢;by_cases h2:n<=l.length - (p+2)
  ·have hml:((l.drop (p+2)).take n).length=n:=by simp; omega
   have e2:Lk.aF l n (p+2,false)=((l.drop (p+2)).take n,(p+2+n,false)):=by simp [Lk.aF,h2]
   refine ⟨(l.drop (p+2)).take n,by rw [e2,hml],?_,by rw [hml]; omega⟩;rw [hml];unfold gI;rw [hml,hle,List.append_assoc,<- List.drop_drop (i:=n),List.take_append_drop,<- List.drop_drop (i:=2),List.take_append_drop]
  ·have e2:(Lk.aF l n (p+2,false)).1=[]:=by simp [Lk.aF,h2]
   rw [e2] at h;exact absurd h WR
 ·have e1:Lk.rdNum l 2 (p,false)=(0,(p,true)):=by simp [Lk.rdNum,Lk.aF,h1,Lk.num]
  rw [e1] at h;have e2:(Lk.aF l (0:Int).toNat (p,true)).1=[]:=by simp [Lk.aF]
  rw [e2] at h;exact absurd h WR
theorem ypi {l m rest:List UInt8} {p:Nat} (hp:p<=l.length) (h:l.drop p=gI m ++ rest) (hm:m.length<=65535):(Lk.aF l (Lk.rdNum l 2 (p,false)).1.toNat (Lk.rdNum l 2 (p,false)).2).1=m:=by
 unfold gI at h;rw [List.append_assoc] at h;obtain ⟨a1,b1,c1,p1,d1⟩:=(Lk.aC l 2).on (st:=(p,false)) hp rfl (x:=(m.length:Int)) ⟨by omega,by simp only [Int.reducePow]; omega⟩ h;rw [a1,Int.toNat_natCast];exact ((Lk.dU l m.length).on p1 b1 (x:=m) rfl d1).1
theorem yhP (n:Int) (w:World) :
  Calls Tryz.prog 101 #[.int .i64 n] w fun e w'=>yg e (1<=n/\n<=6)/\w'=w:=by
 go_enter Tryz.func101,Tryz.ntmps101;by_cases h1:1<=n
 ·by_cases h2:n<=6
  ·have d1:decide (1<=n)=true:=by simpa using h1
   have d2:decide (n<=6)=true:=by simpa using h2
   go_wp2;go_ret;exact ⟨yg.yes ⟨h1,h2⟩,rfl⟩
  ·have d1:decide (1<=n)=true:=by simpa using h1
   have d2:decide (n<=6)=false:=by simp; omega
   go_wp2;go_ret;exact ⟨yg.no (fun h=>by omega),rfl⟩
 ·have d1:decide (1<=n)=false:=by simp; omega
  go_wp2;go_ret;exact ⟨yg.no (fun h=>by omega),rfl⟩
theorem yhy (s:ByteArray) (w:World) (ht:fZ w) (hs:s.size<=1048576) :
  Calls Tryz.prog 102 #[.string s] w fun e w'=>yg e (jG (sl s))/\w.grownBy w' none:=by
 have cR:=hid (R8 s w ht hs);go_enter Tryz.func102,Tryz.ntmps102;go_wp2_with fail;refine cR.o.mono ?_;rintro e w1 ⟨⟨o,g,hr,hv,rfl,-,-⟩ | ⟨hno,rfl⟩,hq⟩
 ·have H:=hid (QU hr hv).1;have HQ:=hid hq;go_wp2;go_ret;exact ⟨yg.yes H.o,HQ.o⟩
 ·have H:=hid (QD hno);have HQ:=hid hq;go_wp2;go_ret;exact ⟨yg.no H.o,HQ.o⟩
def eB (ms:List (List UInt8)):List Value:=ms.map (fun m=>Value.string (bs m))
def ykZ (l:List UInt8) (base:Nat) (e:Ending) (w':World):Prop :=
 (∃ ms v,nH l ms/\e = .returned (.tuple #[v,.int .i64 0])/\w'.ownsRow base 9 1 v ms.length (eB ms)) \/
 ((∀ ms,¬ nH l ms)/\e = .returned (.tuple #[.slice none 0 0,.int .i64 21]))
theorem ykh (s:ByteArray) (w:World) (ht:fZ w) (hs:s.size<=1048576) :
  Calls Tryz.prog 71 #[.string s] w fun e w'=>ykZ (sl s) w.heap.size e w'/\w.grownBy w' none:=by
 obtain ⟨i0,hi,hz0,hz1,hz2⟩:=info_parts Tryz.nQ;have HT:=hid ht;clear ht;have hlen:=rz s;have l0:=Gg (sl s) 2 (0,false) (by rw [hlen]; omega);have c0:=fun W b h=>Kq b s 0 2 2 rfl false W h hs (Nat.zero_le _) (by omega)
 have HX0:=hid (Lk.dU (sl s) 2);have T0:=hid (show (Lk.aF (sl s) 2 (0,false)).1=[65,82]->Lk.aF (sl s) 2 (0,false)=([65,82],(2,false))/\(sl s).drop 0=[65,82] ++ (sl s).drop 2/\2<=(sl s).length from fun h=>by
  unfold Lk.aF at h ⊢;simp only at h ⊢;by_cases c:2<=(sl s).length - 0
  ·rw [if_pos c] at h ⊢;simp only at h ⊢;refine ⟨by rw [h],?_,by omega⟩;rw [<- h,List.drop_zero,List.take_append_drop]
  ·rw [if_neg c] at h;simp at h)
 have N0:=hid (show ∀ ms,nH (sl s) ms->(Lk.aF (sl s) 2 (0,false)).1=[65,82] from fun ms h=>(HX0.o.on (st:=(0,false)) (Nat.zero_le _) rfl (x:=[65,82]) (rest:=Lk.le ms.length 1 ++ ms.flatMap gI) rfl (by rw [<- h.2.2]; rfl)).1);clear HX0;rw [hlen] at l0;generalize Lk.aF (sl s) 2 (0,false)=x0 at *;obtain ⟨mk,p0,s0⟩:=x0;simp only at c0 T0 N0 l0;have c1:=fun W b h=>sV b s p0 1 1 rfl s0 W h hs l0 (by omega)
 have l1:=nk (sl s) 1 (p0,s0) (by rw [hlen]; exact l0);rw [hlen] at l1;have b1:=vJ (sl s) 1 (p0,s0);simp only [Int.reducePow] at b1;have T1:=hid (show mk=[65,82]->1<=(Lk.rdNum (sl s) 1 (p0,s0)).1->(Lk.rdNum (sl s) 1 (p0,s0)).2=(3,false)/\(sl s).drop 0=[65,82] ++ (Lk.le (Lk.rdNum (sl s) 1 (p0,s0)).1 1 ++ (sl s).drop 3)/\3<=(sl s).length from fun hm h=>by
  obtain ⟨e,d,hl2⟩:=T0.o hm;simp only [Prod.mk.injEq] at e;obtain ⟨-,rfl,rfl⟩:=e;by_cases c:1<=(sl s).length - 2
  ·have e1:Lk.rdNum (sl s) 1 (2,false)=(Lk.num (((sl s).drop 2).take 1),(3,false)):=by simp [Lk.rdNum,Lk.aF,c]
   rw [e1];have hle:=Lk.uE (((sl s).drop 2).take 1);rw [show (((sl s).drop 2).take 1).length=1 from by simp; omega] at hle;refine ⟨rfl,?_,by omega⟩;simp only;rw [d,hle,show (sl s).drop 3=((sl s).drop 2).drop 1 from by rw [List.drop_drop],List.take_append_drop]
  ·have e1:Lk.rdNum (sl s) 1 (2,false)=(0,(2,true)):=by simp [Lk.rdNum,Lk.aF,c,Lk.num]
   rw [e1] at h;simp at h)
 have N1:=hid (show ∀ ms,nH (sl s) ms->(Lk.rdNum (sl s) 1 (p0,s0)).1=(ms.length:Int) from fun ms h=>by
  obtain ⟨e,d,hl2⟩:=T0.o (N0.o ms h);simp only [Prod.mk.injEq] at e;obtain ⟨-,rfl,rfl⟩:=e;have d0:(sl s).drop 0=[65,82] ++ (Lk.le ms.length 1 ++ ms.flatMap gI):=by rw [<- h.2.2]; rfl
  exact ((Lk.aC (sl s) 1).on (st:=(2,false)) hl2 rfl (x:=(ms.length:Int)) (rest:=ms.flatMap gI) ⟨by omega,by have:=h.1.2; simp only [Int.reducePow]; omega⟩ (yR d0)).1)
 generalize Lk.rdNum (sl s) 1 (p0,s0)=x1 at *;obtain ⟨cnt,p1,s1⟩:=x1;simp only at c1 T1 N1 l1 b1;have C0:=hid c0;have C1:=hid c1;clear c0 c1;have xG:=hid hlen;clear hlen;have cV:=hid (fun W=>yhP cnt W);go_enter Tryz.func71,Tryz.ntmps71;go_wp2_with fail;refine (WQ s w).mono ?_;rintro e W1 ⟨rfl,g1⟩;have R:bC (W1.alloc (.cells #[.string s,.int .i64 0,.bool false] 173)) W1.heap.size s 0 false:=heap_alloc_new W1 _;have HR:=hid R;have G1:=hid (ya g1 (aH W1 (.cells #[.string s,.int .i64 0,.bool false] 173) none));have hbw:w.heap.size<=W1.heap.size:=g1.size;clear R g1;generalize hb:W1.heap.size=b at *
 go_wp2_with fail;refine (C0.o _ b HR.o).mono ?_;rintro e W2 ⟨rfl,r2,g2⟩;have R2:=hid r2;have G2:=hid (Aa G1.o g2 hbw);clear r2 g2 HR G1 hb;go_wp2_with fail;refine (C1.o _ b R2.o).mono ?_;rintro e W3 ⟨rfl,r3,g3⟩;have R3:=hid r3;have G3:=hid (Aa G2.o g3 hbw);clear r3 g3 R2 G2;have Ak:=hid (qO mk);by_cases c:mk=[65,82]
 rotate_left
 ·have d:((bs mk).toList == [65,82])=false:=by rw [Ak.o,beq_eq_false_iff_ne]; exact c
  have CC:=hid c;clear c;go_wp2;go_ret2;exact ⟨.inr ⟨fun ms h=>CC.o (N0.o ms h),rfl⟩,G3.o⟩
 have d:((bs mk).toList == [65,82])=true:=by rw [Ak.o,beq_iff_eq]; exact c
 have CC:=hid c;clear c;go_wp2_with fail;refine (cV.o _).mono ?_;rintro e W4 ⟨t,rfl⟩;rcases t.split with ⟨rfl,pv⟩ | ⟨rfl,pv⟩ <;> clear t
 ·go_wp2;go_ret2;exact ⟨.inr ⟨fun ms h=>pv.o (by rw [N1.o ms h]; have:=h.1; omega),rfl⟩,G3.o⟩
 obtain ⟨hst,hd,hl3⟩:=T1.o CC.o pv.o.1;simp only [Prod.mk.injEq] at hst;obtain ⟨rfl,rfl⟩:=hst;obtain ⟨n,rfl⟩:=Int.eq_ofNat_of_zero_le b1.1;have HPV:=hid pv.o;have hn6:n<=6:=by have:=pv.o.2; omega
 have TU:=hid N1.o;have A3:=hid (show ∀ ms,nH (sl s) ms->ms.length=n/\∃ ms',ms=[] ++ ms'/\(sl s).drop 3=ms'.flatMap gI from fun ms h=>by
  refine ⟨by have:=TU.o ms h; omega,ms,rfl,?_⟩;have d0:(sl s).drop 0=[65,82] ++ (Lk.le ms.length 1 ++ ms.flatMap gI):=by rw [<- h.2.2]; rfl
  have:=yR (yR d0)
  rw [Lk.aD] at this;exact this)
 have HD:=hid hd;clear hd hl3 pv N1 TU T0 T1 N0 C0 C1;have hbs:W4.heap.size<=W4.heap.size:=Nat.le_refl _;have hblt:b < W4.heap.size:=R3.o.lt;have hw4:w.heap.size<=W4.heap.size:=G3.o.size;go_wp2
 go_loopw [7,8] (fun v i wr=>∃ (k:Nat) (acc:List (List UInt8)) (p:Nat),k<=n/\i = .int .i64 k/\acc.length=k/\p<=s.size /\
   wr.ownsRow W4.heap.size 9 1 v k (eB acc)/\bC wr b s p false/\w.grownBy wr none/\W4.heap.size<=wr.heap.size/\(∀ m∈acc,jG m)/\(sl s).drop 3=acc.flatMap gI ++ (sl s).drop p /\
   ∀ ms,nH (sl s) ms->ms.length=n/\∃ ms',ms=acc ++ ms'/\(sl s).drop p=ms'.flatMap gI) (fun _ i _=>n - (intOf i).toNat)
 case atStart=>exact ⟨0,[],3,Nat.zero_le _,rfl,rfl,l1,World.ownsRow_nil _ _ _ _,R3.o,G3.o,Nat.le_refl _,by simp,by simp,A3.o⟩
 case round =>
  obtain ⟨k,acc,p,hk,rfl,hacc,hp,hown,hrd,hgr,hsz,hall,hdr,har⟩:=hrel;have rE:=hid hacc;have Dy:=hid hrd;have HG:=hid hgr;have nX:=hid hall;have HDR:=hid hdr;have Ic:=hid har;clear hacc hrd hgr hall hdr har;by_cases hlt:k < n
  ·have hlt':(k:Int) < (n:Int):=by omega
   have hstep:=hid (fun h=>ynr (l:=sl s) (p:=p) (by rw [xG.o]; exact hp) h);have hon:=hid (fun (m rest:List UInt8) h hm=>ypi (l:=sl s) (m:=m) (rest:=rest) (p:=p) (by rw [xG.o]; exact hp) h hm);have k0:=hid (fun W h=>sV b s p 2 2 rfl false W h hs hp (by omega));have r0:=vJ (sl s) 2 (p,false);have q0:=nk (sl s) 2 (p,false) (by rw [xG.o]; exact hp);rw [xG.o] at q0;simp only [Int.reducePow] at r0;generalize Lk.rdNum (sl s) 2 (p,false)=y0 at *;obtain ⟨len,p2,s2⟩:=y0;simp only at k0 r0 q0 hstep hon;obtain ⟨len,rfl⟩:=Int.eq_ofNat_of_zero_le r0.1;simp only [Int.toNat_natCast] at hstep hon;have k1:=hid (fun W h=>Kq b s p2 len (len:Int) rfl s2 W h hs q0 (by omega))
   have q1:=Gg (sl s) len (p2,s2) (by rw [xG.o]; exact q0);rw [xG.o] at q1;have q2:(Lk.aF (sl s) len (p2,s2)).1.length<=65535:=by
    unfold Lk.aF;split
    ·simp only [List.length_take]; omega
    ·simp
   generalize Lk.aF (sl s) len (p2,s2)=y1 at *;obtain ⟨m,p3,s3⟩:=y1;simp only at k1 q1 q2 hstep hon;go_wp2_with fail;refine (k0.o _ Dy.o).mono ?_;rintro e U1 ⟨rfl,r1,g1⟩;have RA:=hid r1;have GA:=hid (Aa HG.o g1 hbw);have hown1:=EU hown hblt g1;have hsz1:=Nat.le_trans hsz g1.size;clear r1 g1 hown hsz Dy HG k0;go_wp2_with fail;refine (k1.o _ RA.o).mono ?_;rintro e U2 ⟨rfl,r1,g1⟩;have RB:=hid r1;have GB:=hid (Aa GA.o g1 hbw);have hown2:=EU hown1 hblt g1;have hsz2:=Nat.le_trans hsz1 g1.size;clear r1 g1 hown1 hsz1 RA GA k1;have cO:=hid (yhy (bs m) U2 (HT.o.grown GB.o) (by show m.length<=1048576; omega))
   rw [Df] at cO;go_wp2_with fail;refine cO.o.mono ?_;rintro e U3 ⟨t,g1⟩;have RC:=hid (RB.o.grown g1 (by simp));have GC:=hid (ya GB.o g1);have hown3:=hown2.kept g1 (by cases (Value.ownBlock _) <;> simp);have aap:=Nat.le_trans hsz2 g1.size;rcases t.split with ⟨rfl,pv⟩ | ⟨rfl,pv⟩ <;> clear t g1 hown2 hsz2 RB GB cO
   ·have NA:=hid (show ∀ ms,¬ nH (sl s) ms from fun ms h=>by
     obtain ⟨h1,ms',h2,h3⟩:=Ic.o ms h;have h4:=rE.o
     match ms',h2,h3 with
     | [],h2,_=>rw [h2] at h1; simp at h1; omega
     | m' :: Bz,h2,h3 =>
      have hm':jG m':=h.2.1 m' (by rw [h2]; simp);have e:=hon.o m' (Bz.flatMap gI) (by rw [h3]; rfl) (Kl hm');subst e;exact pv.o hm')
    clear pv;go_wp2;go_ret2;exact ⟨.inr ⟨NA.o,rfl⟩,GC.o⟩
   ·obtain ⟨m',he,hdp,hle⟩:=hstep.o pv.o;simp only [Prod.mk.injEq] at he;obtain ⟨rfl,rfl,rfl⟩:=he;rw [xG.o] at hle;have Tx:=hid hdp;have Oe:=hid pv.o;have NU:=hid (show ∀ ms,nH (sl s) ms->ms.length=n/\∃ ms',ms=(acc ++ [m]) ++ ms'/\(sl s).drop (p+2+m.length)=ms'.flatMap gI from fun ms h=>by
     obtain ⟨h1,ms',h2,h3⟩:=Ic.o ms h;refine ⟨h1,?_⟩;have h4:=rE.o
     match ms',h2,h3 with
     | [],h2,_=>rw [h2] at h1; simp at h1; omega
     | m' :: Bz,h2,h3 =>
      have hm':jG m':=h.2.1 m' (by rw [h2]; simp);have e:=hon.o m' (Bz.flatMap gI) (by rw [h3]; rfl) (Kl hm');subst e;refine ⟨Bz,by rw [h2]; simp,?_⟩;rw [Tx.o] at h3;exact List.append_cancel_left h3)
    clear pv hdp hstep hon;have zD:acc.length<=6:=by have:=rE.o; omega
    go_wp2_with (at_builtin; refine wpList_append_own _ rfl _ _ 22 rfl W4.heap.size 9 i0 (.string ⟨#[]⟩) 1 16 Tryz.underlying22 hi hz0 hz1 hz2 rfl (by decide) _ _ _ rfl (hown3.alloc _) ⟨U3.heap.size,0,none⟩ 1 1 [.string (bs m)] rfl rfl (cell_one_new _ _ _) (by intro u hu; simp at hu; subst hu; rfl) (by unfold maxLen; omega) (by omega) (by simp; omega) ?_; intro v' w3 hown' hgrow _)
    have K1:=hid (show w3.ownsRow W4.heap.size 9 1 v' (k+1) (eB (acc ++ [m])) from by unfold eB; rw [List.map_append]; exact hown');have K2:=hid ((RC.o.grown (aH _ _ none) (by simp)).grown hgrow (fun e=>by have:=(hown3.lt b e.symm).1; omega));have K3:=hid (show w.grownBy w3 none from by
     cases lV:Value.ownBlock _ with
     | none=>rw [lV] at hgrow; exact ya (ya GC.o (aH _ _ none)) hgrow
     | some bb=>rw [lV] at hgrow; exact Aa (ya GC.o (aH _ _ none)) hgrow (by have:=(hown3.lt bb lV).1; omega))
    have K4:=hid (show W4.heap.size<=w3.heap.size from by have:=hgrow.size; simp at this; omega);clear hgrow hown' hown3;go_wp2
    go_roundw
    case rel=>exact ⟨k+1,acc ++ [m],p+2+m.length,by omega,by go_num,by simp [rE.o],hle,K1.o,K2.o,K3.o,K4.o,fun x hx=>(List.mem_append.1 hx).elim (nX.o x) (fun h=>by rw [List.mem_singleton.1 h]; exact Oe.o),by rw [HDR.o,Tx.o]; simp,NU.o⟩
    case measure=>simp [intOf]; omega
  ·obtain rfl:k=n:=by omega
   have cD:=hid (Yp b s p false wr Dy.o);go_wp2_with fail;refine cD.o.mono ?_;rintro e U1 ⟨he,kd,rfl⟩;by_cases c:p=s.size
   ·rw [show (!false && decide (p=s.size))=true from by simp [c]] at he;subst he;have AR:=hid (show nH (sl s) acc from ⟨by have:=HPV.o; have:=rE.o; omega,nX.o,by
     have e1:=HDR.o;have e0:(sl s).drop p=[]:=List.drop_of_length_le (by rw [xG.o]; omega);rw [e0,List.append_nil] at e1;unfold Ao;rw [<- e1,rE.o];exact HD.o.symm⟩)
    have HO:=hid (uX hown hw4);obtain ⟨av,cv,rfl⟩:=yj hown;clear c hown;go_wp2;go_ret2;refine ⟨.inl ⟨acc,_,AR.o,rfl,?_⟩,yd HG.o _⟩;rw [rE.o];exact HO.o.kept (yd (World.grownBy.refl _ none) kd) (by cases (Value.ownBlock _) <;> simp)
   ·rw [show (!false && decide (p=s.size))=false from by simp [c]] at he;subst he;have NA:=hid (show ∀ ms,¬ nH (sl s) ms from fun ms h=>by
     obtain ⟨h1,ms',h2,h3⟩:=Ic.o ms h;have h4:=rE.o;rw [h2] at h1;simp only [fE] at h1;have h5:ms'=[]:=List.eq_nil_of_length_eq_zero (by omega);rw [h5] at h3;have h6:=congrArg List.length h3;simp only [List.flatMap_nil,List.length_nil,List.length_drop,xG.o] at h6;omega)
    clear c;go_wp2;go_ret2;exact ⟨.inr ⟨NA.o,rfl⟩,yd HG.o _⟩
theorem ymi (a:Int) (w:World):Calls Tryz.prog 69 #[.int .i64 a] w fun e w'=>yg e (Im.Base a)/\w'=w:=by
 by_cases h1:4096<=a
 ·by_cases h2:a < 1073741824
  ·exact ylk a w (by omega) (by omega)
  ·have N:=hid (show ¬ Im.Base a from fun h=>h2 h.1.2);have d1:decide (4096<=a)=true:=by simpa using h1
   have d2:decide (a < 1073741824)=false:=by simpa using h2
   go_enter Tryz.func69,Tryz.ntmps69;go_wp2;go_ret;exact ⟨yg.no N.o,rfl⟩
 ·have N:=hid (show ¬ Im.Base a from fun h=>h1 h.1.1);have d1:decide (4096<=a)=false:=by simpa using h1
  go_enter Tryz.func69,Tryz.ntmps69;go_wp2;go_ret;exact ⟨yg.no N.o,rfl⟩
open Classical in
noncomputable def mV (bt bf bd:Int):Ln.nW:=if ¬ Im.Base bt then ⟨30,0,[]⟩ else if ¬ Im.Base bf then ⟨30,1,[]⟩ else if ¬ Im.Base bd then ⟨30,2,[]⟩ else Ln.ok
theorem yhz (bt bf bd:Int) (w:World) :
  Calls Tryz.prog 40 #[.agg #[.int .i64 bt,.int .i64 bf,.int .i64 bd]] w fun e w'=>e = .returned (bJ (mV bt bf bd))/\w.grownBy w' none:=by
 have cB:=hid (fun a W=>ymi a W);have hs1:(w.alloc (.cells #[.int .i64 bt,.int .i64 bf,.int .i64 bd] 27)).heap.size=w.heap.size+1:=Array.size_push _;have G1:=hid (ya (aH w (.cells #[.int .i64 bt,.int .i64 bf,.int .i64 bd] 27) none) (aH (w.alloc (.cells #[.int .i64 bt,.int .i64 bf,.int .i64 bd] 27)) (.cells #[.int .i64 0,.int .i64 0,.string ⟨#[]⟩] 32) none));have B1:=hid (ye.new (w.alloc (.cells #[.int .i64 bt,.int .i64 bf,.int .i64 bd] 27)) #[.int .i64 0,.int .i64 0,.string ⟨#[]⟩] 32);rw [hs1] at B1;clear hs1;go_enter Tryz.func40,Tryz.ntmps40;go_wp2;generalize (w.alloc (.cells #[.int .i64 bt,.int .i64 bf,.int .i64 bd] 27)).alloc (.cells #[.int .i64 0,.int .i64 0,.string ⟨#[]⟩] 32)=W1 at *
 go_loopw [12] (fun i wr=>∃ k:Nat,k<=3/\i = .int .i64 k/\wr=W1/\(0 < k->Im.Base bt)/\(1 < k->Im.Base bf)/\(2 < k->Im.Base bd)) (fun i _=>3 - (intOf i).toNat)
 case atStart=>exact ⟨0,by omega,rfl,rfl,fun c=>by omega,fun c=>by omega,fun c=>by omega⟩
 case round =>
  obtain ⟨k,hk,rfl,rfl,p0,p1,p2⟩:=hrel;have z0:wr.cell? ⟨w.heap.size+1,0,none⟩=some (.int .i64 0):=B1.o.cell 0;have z1:wr.cell? ⟨w.heap.size+1,1,none⟩=some (.int .i64 0):=B1.o.cell 1;have z2:wr.cell? ⟨w.heap.size+1,2,none⟩=some (.string ⟨#[]⟩):=B1.o.cell 2;have f0:=B1.o.free 0;have f1:=B1.o.free 1;have f2:=B1.o.free 2;rcases (show k=0\/k=1\/k=2\/k=3 by omega) with rfl | rfl | rfl | rfl
  ·have cK:=hid (cB.o bt);rw [show ((0:Nat):Int)=0 from rfl];have ix:∀ W:World,Sem.run Tryz.prog (Instr.index 140 (.agg #[.int .i64 bt,.int .i64 bf,.int .i64 bd]) (.int .i64 0)) W = .ok (.int .i64 bt) W:=fun _=>by kernel_rfl
   go_wp2_with fail;refine (cK.o _).mono ?_;rintro e V ⟨ht,hV⟩;subst hV;rcases ht.split with ⟨rfl,hn⟩ | ⟨rfl,hy⟩
   ·have E:=hid (show mV bt bf bd=⟨30,0,[]⟩ by unfold mV; rw [if_pos hn.o]);go_wp2;have F:=((B1.o.set 0 (.int .i64 30)).set 1 (.int .i64 0)).set 2 (.string ⟨#[]⟩);have h0:=F.cell 0;have h1:=F.cell 1;have h2:=F.cell 2;simp only [fu,fC,eX,dH,dL,dK] at h0 h1 h2;refine bodyPost_ret (v:=bJ ⟨30,0,[]⟩) ?_ rfl ⟨by rw [E.o],yx G1.o _ (by omega) _ _ _⟩;clear F z0 z1 z2 f0 f1 f2;generalize World.setCell _ _ _=WF at *;simp [results,Tryz.results40,go_sem,bJ,bs,h0,h1,h2]
   ·go_wp2
    go_roundw
    case rel=>exact ⟨1,by omega,by go_num,trivial,fun _=>hy.o,fun c=>by omega,fun c=>by omega⟩
    case measure=>simp [intOf]
  ·have cK:=hid (cB.o bf);rw [show ((1:Nat):Int)=1 from rfl];have ix:∀ W:World,Sem.run Tryz.prog (Instr.index 140 (.agg #[.int .i64 bt,.int .i64 bf,.int .i64 bd]) (.int .i64 1)) W = .ok (.int .i64 bf) W:=fun _=>by kernel_rfl
   go_wp2_with fail;refine (cK.o _).mono ?_;rintro e V ⟨ht,hV⟩;subst hV;rcases ht.split with ⟨rfl,hn⟩ | ⟨rfl,hy⟩
   ·have E:=hid (show mV bt bf bd=⟨30,1,[]⟩ by unfold mV; rw [if_neg (fun c=>c (p0 (by omega)))]; rw [if_pos hn.o]);go_wp2;have F:=((B1.o.set 0 (.int .i64 30)).set 1 (.int .i64 1)).set 2 (.string ⟨#[]⟩);have h0:=F.cell 0;have h1:=F.cell 1;have h2:=F.cell 2;simp only [fu,fC,eX,dH,dL,dK] at h0 h1 h2;refine bodyPost_ret (v:=bJ ⟨30,1,[]⟩) ?_ rfl ⟨by rw [E.o],yx G1.o _ (by omega) _ _ _⟩;clear F z0 z1 z2 f0 f1 f2;generalize World.setCell _ _ _=WF at *;simp [results,Tryz.results40,go_sem,bJ,bs,h0,h1,h2]
   ·go_wp2
    go_roundw
    case rel=>exact ⟨2,by omega,by go_num,trivial,fun _=>p0 (by omega),fun _=>hy.o,fun c=>by omega⟩
    case measure=>simp [intOf]
  ·have cK:=hid (cB.o bd);rw [show ((2:Nat):Int)=2 from rfl];have ix:∀ W:World,Sem.run Tryz.prog (Instr.index 140 (.agg #[.int .i64 bt,.int .i64 bf,.int .i64 bd]) (.int .i64 2)) W = .ok (.int .i64 bd) W:=fun _=>by kernel_rfl
   go_wp2_with fail;refine (cK.o _).mono ?_;rintro e V ⟨ht,hV⟩;subst hV;rcases ht.split with ⟨rfl,hn⟩ | ⟨rfl,hy⟩
   ·have E:=hid (show mV bt bf bd=⟨30,2,[]⟩ by unfold mV; rw [if_neg (fun c=>c (p0 (by omega))),if_neg (fun c=>c (p1 (by omega)))]; rw [if_pos hn.o]);go_wp2;have F:=((B1.o.set 0 (.int .i64 30)).set 1 (.int .i64 2)).set 2 (.string ⟨#[]⟩);have h0:=F.cell 0;have h1:=F.cell 1;have h2:=F.cell 2;simp only [fu,fC,eX,dH,dL,dK] at h0 h1 h2;refine bodyPost_ret (v:=bJ ⟨30,2,[]⟩) ?_ rfl ⟨by rw [E.o],yx G1.o _ (by omega) _ _ _⟩;clear F z0 z1 z2 f0 f1 f2;generalize World.setCell _ _ _=WF at *;simp [results,Tryz.results40,go_sem,bJ,bs,h0,h1,h2]
   ·go_wp2
    go_roundw
    case rel=>exact ⟨3,by omega,by go_num,trivial,fun _=>p0 (by omega),fun _=>p1 (by omega),fun _=>hy.o⟩
    case measure=>simp [intOf]
  ·have E:=hid (show mV bt bf bd=Ln.ok by unfold mV; rw [if_neg (fun c=>c (p0 (by omega))),if_neg (fun c=>c (p1 (by omega))),if_neg (fun c=>c (p2 (by omega)))]);go_wp2;have F:=((B1.o.set 0 (.int .i64 0)).set 1 (.int .i64 0)).set 2 (.string ⟨#[]⟩);have h0:=F.cell 0;have h1:=F.cell 1;have h2:=F.cell 2;simp only [fu,fC,eX,dH,dL,dK] at h0 h1 h2;refine bodyPost_ret (v:=bJ Ln.ok) ?_ rfl ⟨by rw [E.o],yx G1.o _ (by omega) _ _ _⟩;clear F z0 z1 z2 f0 f1 f2;generalize World.setCell _ _ _=WF at *;simp [results,Tryz.results40,go_sem,bJ,Ln.ok,bs,h0,h1,h2]
end Go.Proofs.YtelehpmjhjljgaaGreatDoor
