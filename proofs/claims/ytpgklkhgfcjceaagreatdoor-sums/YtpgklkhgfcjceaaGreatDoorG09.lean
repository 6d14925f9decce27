/- Walks over package wire's Writer: Text, Bytes. -/
/- Walks over package object: the writers. -/
/- Walks over the document's answer: numbers and parts of a file. -/
/- The plain side: what is valid fits its bytes. -/
/- The plain side: what the document's Parse takes out of bytes, and that it takes an object's parts out of an object's bytes. -/
/- The plain side: what is valid fits its bytes; what the document's Parse answers, and what Read answers. -/
/- The plain side: archives. -/
/- Walks over package archive: Members. -/
/- Walks over package archive: Members, the walk. -/
/- Linking: bases, files. -/
import Derived.Test.YtpgklkhgfcjceaaGreatDoorG08
import Derived.Deep.RegionLaw
import Derived.Deep.AppendLies
import Derived.Test.YtpgklkhgfcjceaaGreatDoorG06
import Derived.Test.YtpgklkhgfcjceaaGreatDoorG04
import Derived.Test.YtpgklkhgfcjceaaGreatDoorG05
namespace Go.Proofs.YtpgklkhgfcjceaaGreatDoor
open Go.RowKit
theorem ylS (s:ByteArray) (k:Nat) (h:k < s.size):(sl s).take (k+1)=(sl s).take k ++ [s[k]]:=by
 have h':k < s.data.toList.length:=by rw [Array.length_toList]; exact h
 unfold sl
 rw [List.take_succ_eq_append_getElem h']
 rfl
set_option maxHeartbeats 2000000 in
theorem yfK (b:Nat) (s:ByteArray) (l:List UInt8) (w:World) (h:WrAt w b l) (hl:l.length<=16777216) (hs:s.size<=1048576) :
  Calls Tryz.prog 57 #[.pointer (some ⟨b,0,none⟩),.string s] w fun e w'=>e = .returned (.tuple #[])/\WrAt w' b (l ++ sl s)/\Wk b w w':=by
 obtain ⟨i0,hi,hz0,hz1,hz2⟩:=info_parts Tryz.infoU8
 have H:=hid h
 clear h
 go_enter Tryz.func57,Tryz.ntmps57
 go_wp2
 go_loopw [4] (fun i wr=>∃ (k:Nat),k<=s.size/\i = .int .i64 k/\(∃ acc:List UInt8,acc.length=l.length+k/\WrAt wr b acc/\l ++ (sl s).take k=acc)/\Wk b w wr) (fun i _=>s.size - (intOf i).toNat)
 case atStart=>exact ⟨0,Nat.zero_le _,rfl,⟨l,rfl,H.out,by simp⟩,Wk.refl _ _⟩
 case round =>
  obtain ⟨k,hk,rfl,hdone,hbel⟩:=hrel
  have HD:=hid hdone
  have HB:=hid hbel
  clear hdone hbel
  by_cases hlt:k < s.size
  ·obtain ⟨acc,hdl,hw,hle⟩:=HD.out
   obtain ⟨ao,cap,hblk,hown⟩:=hw
   have c0:=hblk.cell 0
   have f0:=hblk.free 0
   have hbl:=hblk.lt
   have HBK:=hid hblk
   have HLE:=hid hle
   have HDL:=hid hdl
   have hdl2:acc.length<=33554432:=by omega
   have hrow:=hid (show ∀ g,Value.ownBlock (.slice ao acc.length cap)=some g->b+1<=g from fun g hg=>(hown.lt g hg).1)
   have HOW:=hid hown
   have hne:=World.new_ne wr ⟨b,0,none⟩ (by simpa using c0)
   have g1:(0:Int)<=(k:Int):=by omega
   have g2:(k:Int) < (s.size:Int):=by omega
   have hA:Hid ((wr.alloc (.cells #[.int .u8 s[k].toNat] 5)).drew.ownsRow (b+1) 5 1 (.slice ao acc.length cap) acc.length (byV acc)):=(hown.alloc _).drew
   have hN:Hid (∀ j u,[Value.int .u8 s[k].toNat][j]?=some u->(wr.alloc (.cells #[.int .u8 s[k].toNat] 5)).drew.cell? ((⟨wr.heap.size,0,none⟩:Addr).add j)=some u):=World.news_of_block (heap_alloc_new wr (.cells #[.int .u8 s[k].toNat] 5))
   have hOne:Hid (∀ u∈[Value.int .u8 (s[k].toNat:Int)],u.oneCell'=true):=by intro u hu; simp at hu; subst hu; rfl
   have h63:Hid (acc.length+1<=maxLen):=by show _<=_; unfold maxLen; omega
   have hby:Hid ((acc.length+1) * 1<=140737488355328):=by show _<=_; omega
   have hbs:Hid (b+1<=(wr.alloc (.cells #[.int .u8 s[k].toNat] 5)).drew.heap.size):=by show _<=_; simp; omega
   have hHH:Hid ((wr.alloc (.cells #[.int .u8 s[k].toNat] 5)).drew.heap.size=wr.heap.size+1):=by show _=_; simp
   clear hblk hle hdl HD hown
   go_wp2
   refine wp_region_any (by kernel_rfl) ?_
   change wpAny _ Region.Mode.any _ _ _ _ _ wr.drew
   refine wpAny_take (i:=0) (v:=?_) rfl (by kernel_rfl) (by kernel_rfl) (by kernel_rfl) (fun _ _ _ h=>h) (Or.inl ⟨by kernel_rfl,?_⟩) ?_
   rotate_left
   ·intro w; go_simp; with_reducible rfl
   refine wpAny_take (i:=1) (v:=?_) rfl (by kernel_rfl) (by kernel_rfl) (by kernel_rfl) (fun _ _ _ h=>h) (Or.inl ⟨by kernel_rfl,?_⟩) ?_
   rotate_left
   ·intro w; go_simp; with_reducible rfl
   refine wpAny_take (i:=2) (v:=?_) rfl (by kernel_rfl) (by kernel_rfl) (by kernel_rfl) (fun _ _ _ h=>h) (Or.inl ⟨by kernel_rfl,?_⟩) ?_
   rotate_left
   ·intro w; go_simp; with_reducible rfl
   refine wpAny_take (i:=3) (v:=?_) rfl (by kernel_rfl) (by kernel_rfl) (by kernel_rfl) (fun _ _ _ h=>h) (Or.inl ⟨by kernel_rfl,?_⟩) ?_
   rotate_left
   ·intro w; go_simp; with_reducible rfl
   refine wpAny_take (i:=5) (v:=?_) rfl (by kernel_rfl) (by kernel_rfl) (by kernel_rfl) (fun _ _ _ h=>h) (Or.inl ⟨by kernel_rfl,?_⟩) ?_
   rotate_left
   ·intro w; go_simp; with_reducible rfl
   refine wpAny_take (i:=6) (v:=?_) rfl (by kernel_rfl) (by kernel_rfl) (by kernel_rfl) (fun _ _ _ h=>h) (Or.inl ⟨by kernel_rfl,?_⟩) ?_
   rotate_left
   ·intro w; go_simp; with_reducible rfl
   refine wpAny_take (i:=7) (v:=?_) rfl (by kernel_rfl) (by kernel_rfl) (by kernel_rfl) (fun _ _ _ h=>h) (Or.inl ⟨by kernel_rfl,?_⟩) ?_
   rotate_left
   ·intro w; go_simp; with_reducible rfl
   refine wpAny_ready (rs:=[4,8]) (by kernel_rfl) (by simp) ?_
   refine AllReady.cons rfl (fun K hK=>?_) (AllReady.cons rfl (fun K hK=>?_) AllReady.nil)
   ·go_simp
    refine hK _ _ ?_
    clear hK K
    refine wpAny_ready (rs:=[8]) (by kernel_rfl) (by simp) ?_
    refine AllReady.cons rfl (fun K hK=>?_) AllReady.nil
    go_simp
    refine hK _ _ ?_
    clear hK K
    refine wpAny_ready (rs:=[9]) (by kernel_rfl) (by simp) ?_
    refine AllReady.cons rfl (fun K hK=>?_) AllReady.nil
    rw [if_pos (by kernel_rfl)]
    refine wp_append_own _ (.tmp 15) (.tmp 19) 42 rfl (b+1) 5 i0 (.int .u8 0) 1 1 Tryz.underlying42 hi hz0 hz1 hz2 rfl (by decide) (.slice ao acc.length cap) acc.length (byV acc) (by kernel_rfl) hA.out ⟨wr.heap.size,0,none⟩ 1 1 [.int .u8 s[k].toNat] (by kernel_rfl) rfl hN.out hOne.out h63.out hby.out hbs.out ?_
    intro v' w3 hown' hgrow _
    obtain ⟨ao',cap',rfl⟩:=yh hown'
    have gd:(wr.alloc (.cells #[.int .u8 s[k].toNat] 5)).grownBy w3 (Value.ownBlock (.slice ao acc.length cap)):=⟨hgrow.os,hgrow.tape,hgrow.output,hgrow.size,hgrow.block⟩
    have m0:=(ydQ HBK.out gd hrow.out).cell 0
    have n0:=(ydQ HBK.out gd hrow.out).free 0
    have P:=hid (ykz HBK.out HB.out HOW.out gd hrow.out hown')
    clear hown' hgrow gd
    refine hK _ _ ?_
    clear hK K
    refine wpAny_take (i:=10) (v:=?_) rfl (by kernel_rfl) (by kernel_rfl) (by kernel_rfl) (fun _ _ _ h=>h) (Or.inl ⟨by kernel_rfl,?_⟩) ?_
    rotate_left
    ·intro w; go_simp; with_reducible rfl
    refine wpAny_take (i:=11) (v:=?_) rfl (by kernel_rfl) (by kernel_rfl) (by kernel_rfl) (fun _ _ _ h=>h) (Or.inl ⟨by kernel_rfl,?_⟩) ?_
    rotate_left
    ·intro w; go_simp; with_reducible rfl
    refine wpAny_ready (rs:=[12]) (by kernel_rfl) (by simp) ?_
    refine AllReady.cons rfl (fun K hK=>?_) AllReady.nil
    go_simp
    refine hK _ _ ?_
    clear hK K
    refine wpAny_done (by kernel_rfl) ?_ _
    clear hA hN hOne h63 hby hbs hHH c0 f0 hne
    go_wp2
    go_roundw
    case rel =>
     refine ⟨k+1,by omega,by go_num,⟨acc ++ [s[k]],?_,P.out.1,?_⟩,P.out.2⟩
     ·have:=HDL.out; simp; omega
     ·rw [<- HLE.out,List.append_assoc,ylS s k hlt]
    case measure=>simp [intOf]; omega
   ·go_simp
    refine hK _ _ ?_
    clear hK K
    refine wpAny_ready (rs:=[4]) (by kernel_rfl) (by simp) ?_
    refine AllReady.cons rfl (fun K hK=>?_) AllReady.nil
    go_simp
    refine hK _ _ ?_
    clear hK K
    refine wpAny_ready (rs:=[9]) (by kernel_rfl) (by simp) ?_
    refine AllReady.cons rfl (fun K hK=>?_) AllReady.nil
    rw [if_pos (by kernel_rfl)]
    refine wp_append_own _ (.tmp 15) (.tmp 19) 42 rfl (b+1) 5 i0 (.int .u8 0) 1 1 Tryz.underlying42 hi hz0 hz1 hz2 rfl (by decide) (.slice ao acc.length cap) acc.length (byV acc) (by kernel_rfl) hA.out ⟨wr.heap.size,0,none⟩ 1 1 [.int .u8 s[k].toNat] (by kernel_rfl) rfl hN.out hOne.out h63.out hby.out hbs.out ?_
    intro v' w3 hown' hgrow _
    obtain ⟨ao',cap',rfl⟩:=yh hown'
    have gd:(wr.alloc (.cells #[.int .u8 s[k].toNat] 5)).grownBy w3 (Value.ownBlock (.slice ao acc.length cap)):=⟨hgrow.os,hgrow.tape,hgrow.output,hgrow.size,hgrow.block⟩
    have m0:=(ydQ HBK.out gd hrow.out).cell 0
    have n0:=(ydQ HBK.out gd hrow.out).free 0
    have P:=hid (ykz HBK.out HB.out HOW.out gd hrow.out hown')
    clear hown' hgrow gd
    refine hK _ _ ?_
    clear hK K
    refine wpAny_take (i:=10) (v:=?_) rfl (by kernel_rfl) (by kernel_rfl) (by kernel_rfl) (fun _ _ _ h=>h) (Or.inl ⟨by kernel_rfl,?_⟩) ?_
    rotate_left
    ·intro w; go_simp; with_reducible rfl
    refine wpAny_take (i:=11) (v:=?_) rfl (by kernel_rfl) (by kernel_rfl) (by kernel_rfl) (fun _ _ _ h=>h) (Or.inl ⟨by kernel_rfl,?_⟩) ?_
    rotate_left
    ·intro w; go_simp; with_reducible rfl
    refine wpAny_ready (rs:=[12]) (by kernel_rfl) (by simp) ?_
    refine AllReady.cons rfl (fun K hK=>?_) AllReady.nil
    go_simp
    refine hK _ _ ?_
    clear hK K
    refine wpAny_done (by kernel_rfl) ?_ _
    clear hA hN hOne h63 hby hbs hHH c0 f0 hne
    go_wp2
    go_roundw
    case rel =>
     refine ⟨k+1,by omega,by go_num,⟨acc ++ [s[k]],?_,P.out.1,?_⟩,P.out.2⟩
     ·have:=HDL.out; simp; omega
     ·rw [<- HLE.out,List.append_assoc,ylS s k hlt]
    case measure=>simp [intOf]; omega
  ·go_wp2
   go_end0
   obtain ⟨acc,hdl,hw,hle⟩:=HD.out
   rw [List.take_of_length_le (by rw [yq]; omega)] at hle
   rw [hle]
   exact ⟨rfl,hw,HB.out⟩
theorem ypB (l:List UInt8):strOfNums (l.map fun c=>(c.toNat:Int))=bs l:=by
 unfold strOfNums bs
 rw [List.map_map,List.map_congr_left (g:=id) (fun c _=>by simp),List.map_id]
theorem ylb {w:World} {base:Nat} {ao:Option Addr} {cap:Nat} {l:List UInt8} (h:w.ownsRow base 5 1 (.slice ao l.length cap) l.length (byV l)) :
  (convert 42 9 (.slice ao l.length cap)).run Tryz.prog w = .ok (.string (bs l)) w:=by
 rcases h.2 with ⟨h1,h2⟩ | ⟨g,cap',cur,hv,_⟩
 ·simp only [Value.slice.injEq] at h1
  obtain ⟨rfl,h3,rfl⟩:=h1
  have:l=[]:=List.length_eq_zero_iff.1 h3
  subst this
  exact run_convert_bytes_nil w 42 5 Tryz.underlying42 Tryz.underlying5 _ _ 9 Tryz.underlying9
 ·simp only [Value.slice.injEq] at hv
  obtain ⟨rfl,_,rfl⟩:=hv
  have:=run_convert_bytes_arg (P:=Tryz.prog) w 42 5 Tryz.underlying42 Tryz.underlying5 g 0 l.length cap (l.map fun c=>(c.toNat:Int)) (by simp) (fun i hi=>by
   have q:=h.cellAt i (by omega)
   rw [Nat.zero_add,q]
   simp [byV,hi]) 9 Tryz.underlying9
  rw [ypB] at this
  exact this
set_option maxHeartbeats 1000000 in
theorem yhr (b:Nat) (l:List UInt8) (w:World) (h:WrAt w b l) :
  Calls Tryz.prog 62 #[.pointer (some ⟨b,0,none⟩)] w fun e w'=>e = .returned (.string (bs l))/\w'=w:=by
 obtain ⟨ao,cap,hblk,hown⟩:=h
 have c0:=hblk.cell 0
 have hr:=ylb hown
 clear hblk hown
 go_enter Tryz.func62,Tryz.ntmps62
 go_wp2
 go_ret
 exact ⟨rfl,rfl⟩
def ybc (w:World) (b:Nat) (ao:Option Addr) (xs:List Int):Prop :=
 0 < xs.length->∃ g cs,ao=some ⟨g,0,none⟩/\g≠b/\yc w g cs 3/\∀ i (h:i < xs.length),cs[i]?=some (.int .i64 xs[i])
theorem ybc.kept {w w':World} {b:Nat} {ao:Option Addr} {xs:List Int} (h:ybc w b ao xs) (hk:Wk b w w'):ybc w' b ao xs:=by
 intro h0
 obtain ⟨g,cs,h1,h2,h3,h4⟩:=h h0
 exact ⟨g,cs,h1,h2,hk.2 g cs _ h2 (by decide) h3,h4⟩
theorem ybc.of_own {w:World} {base b:Nat} {ao:Option Addr} {n cap:Nat} {xs:List Int} (h:w.ownsRow base 3 1 (.slice ao n cap) n (xs.map (Value.int .i64))) (hb:∀ g,Value.ownBlock (.slice ao n cap)=some g->g≠b):ybc w b ao xs:=by
 intro h0
 have hn:xs.length=n:=by have:=h.1; simpa using this
 rcases h.2 with ⟨h1,h2⟩ | ⟨g,cap',cur,hv,_,hh,_,_,hcs,htk⟩
 ·simp at h1; omega
 ·simp only [Value.slice.injEq] at hv
  obtain ⟨rfl,_,rfl⟩:=hv
  refine ⟨g,cur,rfl,hb g rfl,hh,fun i hi=>?_⟩
  have e:(cur.toList.take (n * 1))[i]?=(xs.map (Value.int .i64))[i]?:=by rw [htk]
  rw [List.getElem?_take,if_pos (by omega)] at e
  rw [<- Array.getElem?_toList,e]
  simp [hi]
theorem yG (b:Nat) (n:Int) (size:Nat) (ms:Int) (hms:ms=(size:Int)) (l:List UInt8) (w:World) (h:WrAt w b l) (hl:l.length<=16777216) (hs:size<=4) (hn0:-1099511627776<=n) (hn1:n<=1099511627776) :
  Calls Tryz.prog 58 #[.pointer (some ⟨b,0,none⟩),.int .i64 n,.int .i64 ms] w fun e w'=>e = .returned (.tuple #[])/\WrAt w' b (l ++ Lk.le n size)/\Wk b w w':=by
 subst hms; exact ygn b n size l w h hl hs hn0 hn1
theorem yoe (xs:List Int) (k size:Nat) (h:k < xs.length):Lk.nums (xs.take (k+1)) size=Lk.nums (xs.take k) size ++ Lk.le xs[k] size:=by
 unfold Lk.nums
 rw [List.take_succ_eq_append_getElem h,List.flatMap_append]
 simp
theorem ybn (xs:List Int) (size:Nat):(Lk.nums xs size).length=xs.length * size:=by
 unfold Lk.nums
 induction xs with
 | nil=>simp
 | cons x t ih=>simp only [List.flatMap_cons,ysq,ih,Lk.le_length,yss,Nat.succ_mul]; omega
set_option maxHeartbeats 2000000 in
theorem yaK (b:Nat) (ao:Option Addr) (cap size:Nat) (ms:Int) (hms:ms=(size:Int)) (xs:List Int) (l:List UInt8) (w:World) (h:WrAt w b l) (hI:ybc w b ao xs)
  (hl:l.length<=1048576) (hs:size<=4) (hn:xs.length<=65535) (hx:∀ i (h:i < xs.length),-1099511627776<=xs[i]/\xs[i]<=1099511627776) :
  Calls Tryz.prog 59 #[.pointer (some ⟨b,0,none⟩),.slice ao xs.length cap,.int .i64 ms] w fun e w'=>e = .returned (.tuple #[])/\WrAt w' b (l ++ Lk.nums xs size)/\Wk b w w':=by
 subst hms
 have H:=hid h
 have HI:=hid hI
 have HX:=hid hx
 clear h hI hx
 go_enter Tryz.func59,Tryz.ntmps59
 go_wp2
 go_loopw [10] (fun i wr=>∃ k:Nat,k<=xs.length/\i = .int .i64 k/\WrAt wr b (l ++ Lk.nums (xs.take k) size)/\Wk b w wr) (fun i _=>xs.length - (intOf i).toNat)
 case atStart=>exact ⟨0,Nat.zero_le _,rfl,by simpa [Lk.nums] using H.out,Wk.refl _ _⟩
 case round =>
  obtain ⟨k,hk,rfl,hw,hbel⟩:=hrel
  have HW:=hid hw
  have HB:=hid hbel
  clear hw hbel
  by_cases hlt2:k < xs.length
  ·obtain ⟨g,cs,hao,-,hbk,hc⟩:=HI.out.kept HB.out (by omega)
   subst hao
   have hck:=(hbk.cell k).trans (hc k hlt2)
   clear hbk
   have hxk:=HX.out k hlt2
   have hlen:(l ++ Lk.nums (xs.take k) size).length<=16777216:=by
    rw [ysq,ybn,List.length_take_of_le (by omega)]
    have:k * size<=k * 4:=Nat.mul_le_mul_left k hs
    omega
   have cN:=hid (fun W h=>ygn b xs[k] size (l ++ Lk.nums (xs.take k) size) W h hlen hs hxk.1 hxk.2)
   clear hc hlen
   go_wp2_with fail
   refine (cN.out _ HW.out).mono ?_
   rintro e w2 ⟨rfl,hw2,hb2⟩
   have HW2:=hid hw2
   have HB2:=hid (HB.out.trans hb2)
   clear hw2 hb2
   go_wp2
   go_roundw
   case rel=>exact ⟨k+1,by omega,by go_num,by rw [yoe xs k size hlt2,<- List.append_assoc]; exact HW2.out,HB2.out⟩
   case measure=>simp [intOf]; omega
  ·go_wp2
   go_end0
   have e:xs.take k=xs:=List.take_of_length_le (by omega)
   have hw:=HW.out
   rw [e] at hw
   exact ⟨rfl,hw,HB.out⟩
structure St3 (w:World) (b v:Nat) (t:TypeId) (cs:Array Value) (l:List UInt8) (W:World):Prop where
 wr:WrAt W b l
 own:yc W v cs t
 wk:Wk b w W
theorem St3.begin {w:World} {b:Nat} {l:List UInt8} (h:WrAt w b l) (cs:Array Value) (t:TypeId):St3 w b w.heap.size t cs l (w.alloc (.cells cs t)):=by
 obtain ⟨ao,cap,h1,h2⟩:=h
 exact ⟨⟨ao,cap,h1.grown (ysp _ _ none) (by simp),h2.alloc _⟩,yc.new _ _ _,(Wk.refl b w).alloc (Nat.le_of_lt h1.lt) _⟩
theorem St3.step {w W W':World} {b v:Nat} {t:TypeId} {cs:Array Value} {l l':List UInt8} (h:St3 w b v t cs l W) (hv:v≠b) (ht:t≠5) (hw:WrAt W' b l') (hk:Wk b W W'):St3 w b v t cs l' W' :=
 ⟨hw,hk.2 v cs t hv ht h.own,h.wk.trans hk⟩
set_option maxHeartbeats 2000000 in
theorem yhw (b:Nat) (y:Lk.Sym) (l:List UInt8) (w:World) (h:WrAt w b l) (hl:l.length<=1048576) (hg:Lk.goodSym y) :
  Calls Tryz.prog 60 #[.pointer (some ⟨b,0,none⟩),.agg #[.string (bs y.name),.int .i64 y.bind,.int .i64 y.sect,.int .i64 y.off]] w fun e w'=>e = .returned (.tuple #[])/\WrAt w' b (l ++ Lk.symB y)/\Wk b w w':=by
 obtain ⟨hn,⟨hb0,hb1⟩,⟨hs0,hs1⟩,ho0,ho1⟩:=hg
 have hvb:w.heap.size≠b:=by obtain ⟨_,_,h1,_⟩:=h; have:=h1.lt; omega
 have S0:=hid (St3.begin h #[.string (bs y.name),.int .i64 y.bind,.int .i64 y.sect,.int .i64 y.off] 100)
 have hsz:((bs y.name).size:Int)=(y.name.length:Int):=by rw [ybp]
 have hsz2:(bs y.name).size=y.name.length:=ybp _
 have c1:=hid (fun W (h:WrAt W b l)=>yG b ((bs y.name).size:Int) 1 1 rfl l W h (by omega) (by omega) (by omega) (by omega))
 have c2:=hid (fun W (h:WrAt W b (l ++ Lk.le y.name.length 1))=>yfK b (bs y.name) (l ++ Lk.le y.name.length 1) W h (by rw [ysq,Lk.le_length]; omega) (by omega))
 have c3:=hid (fun W (h:WrAt W b (l ++ Lk.le y.name.length 1 ++ y.name))=>yG b y.bind 1 1 rfl (l ++ Lk.le y.name.length 1 ++ y.name) W h (by rw [ysq,ysq,Lk.le_length]; omega) (by omega) (by omega) (by omega))
 have c4:=hid (fun W (h:WrAt W b (l ++ Lk.le y.name.length 1 ++ y.name ++ Lk.le y.bind 1))=>yG b y.sect 1 1 rfl (l ++ Lk.le y.name.length 1 ++ y.name ++ Lk.le y.bind 1) W h (by rw [ysq,ysq,ysq,Lk.le_length,Lk.le_length]; omega) (by omega) (by omega) (by omega))
 have c5:=hid (fun W (h:WrAt W b (l ++ Lk.le y.name.length 1 ++ y.name ++ Lk.le y.bind 1 ++ Lk.le y.sect 1))=>yG b y.off 2 2 rfl (l ++ Lk.le y.name.length 1 ++ y.name ++ Lk.le y.bind 1 ++ Lk.le y.sect 1) W h (by rw [ysq,ysq,ysq,ysq,Lk.le_length,Lk.le_length,Lk.le_length]; omega) (by omega) (by omega) (by omega))
 have HS:=hid hsz
 have HSL:=hid (ydM y.name)
 clear h hsz hsz2
 go_enter Tryz.func60,Tryz.ntmps60
 go_wp2_with fail
 refine Calls.at_world (St3 w b w.heap.size 100 #[.string (bs y.name),.int .i64 y.bind,.int .i64 y.sect,.int .i64 y.off] l) S0.out ?_
 intro W1 s1
 refine (c1.out W1 s1.wr).mono ?_
 rintro e W2 ⟨rfl,hw,hk⟩
 rw [HS.out] at hw
 have S2:=hid (s1.step hvb (by decide) hw hk)
 have k0:=S2.out.own.cell 0
 clear hw hk s1
 go_wp2_with fail
 refine (c2.out W2 S2.out.wr).mono ?_
 rintro e W3 ⟨rfl,hw,hk⟩
 rw [HSL.out] at hw
 have S3:=hid (S2.out.step hvb (by decide) hw hk)
 have k1:=S3.out.own.cell 1
 clear hw hk k0
 go_wp2_with fail
 refine (c3.out W3 S3.out.wr).mono ?_
 rintro e W4 ⟨rfl,hw,hk⟩
 have S4:=hid (S3.out.step hvb (by decide) hw hk)
 have k2:=S4.out.own.cell 2
 clear hw hk k1
 go_wp2_with fail
 refine (c4.out W4 S4.out.wr).mono ?_
 rintro e W5 ⟨rfl,hw,hk⟩
 have S5:=hid (S4.out.step hvb (by decide) hw hk)
 have k3:=S5.out.own.cell 3
 clear hw hk k2
 go_wp2_with fail
 refine (c5.out W5 S5.out.wr).mono ?_
 rintro e W6 ⟨rfl,hw,hk⟩
 have S6:=hid (S5.out.step hvb (by decide) hw hk)
 clear hw hk k3
 go_wp2
 go_end0
 refine ⟨rfl,?_,S6.out.wk⟩
 have:=S6.out.wr
 simpa [Lk.symB] using this
def cutL (l:List UInt8) (p n:Nat):List UInt8:=(l.drop p).take n
def yew (l:List UInt8) (p:Nat):Nat->List Int
 | 0=>[]
 | n+1=>yew l p n ++ [atL l (p+4 * n) 4]
theorem ygj (y:Lk.Sym):(Lk.symB y).length=5+y.name.length:=by
 simp only [Lk.symB,ysq,Lk.le_length]
 omega
theorem yer (r:Lk.Rel):(Lk.relB r).length=7:=by
 simp only [Lk.relB,ysq,Lk.le_length]
theorem ybI (ys:List Int) (n:Nat):(Lk.nums ys n).length=n * ys.length:=by
 induction ys with
 | nil=>rfl
 | cons y t ih=>simp only [Lk.nums,List.flatMap_cons,ysq,Lk.le_length,yss,Nat.mul_add] at *; omega
theorem yhv {o:Lk.Obj} (h:yeJ o) (sect:Int):(yw o sect).length<=1200:=by
 obtain ⟨⟨n1,n2,n3⟩,-⟩:=h
 unfold yw
 split
 ·exact n1
 split
 ·exact n2
 split
 ·omega
 ·simp
theorem yfa {xs:List Int} (h:ybk xs):Lk.goodWords 4 xs:=fun x hx=>by
 obtain ⟨i,hi,rfl⟩:=List.getElem_of_mem hx
 have:=h i hi
 simp only [Int.reducePow]
 omega
theorem yct {o:Lk.Obj} (h:yv o):Lk.goodObj o:=by
 obtain ⟨hz,hb,hw,hs,hr⟩:=h
 have hz':=hz
 obtain ⟨⟨n1,n2,n3⟩,n4,n5,n6⟩:=hz
 refine ⟨by omega,by omega,by omega,by omega,hb.1,?_,by omega,by omega,?_,?_,yfa hw.1,yfa hw.2.1,yfa hw.2.2⟩
 ·intro x hx
  obtain ⟨i,hi,rfl⟩:=List.getElem_of_mem hx
  have:=hb.2 i hi
  simp only [Int.reducePow]
  omega
 ·intro y hy
  obtain ⟨i,hi,rfl⟩:=List.getElem_of_mem hy
  obtain ⟨⟨k1,k2,k3,-,k4,-,k5⟩,-⟩:=hs i hi
  have hl:(bs (o.syms[i]).name).size=(o.syms[i]).name.length:=rfl
  have k6:=k1.2.1
  have hw:=yhv hz' (o.syms[i]).sect
  refine ⟨by omega,by omega,by omega,by omega,?_⟩
  unfold ybr at k5
  split at k5 <;> omega
 ·intro r hr'
  obtain ⟨i,hi,rfl⟩:=List.getElem_of_mem hr'
  obtain ⟨⟨k1,k2,k3,-,k5,-,-⟩,-⟩:=hr i hi
  have hsp:=yaT k2
  have hw:=yhv hz' (o.rels[i]).sect
  unfold yca at k5
  unfold ycv at k1
  unfold yeK at k3
  unfold yae at k2
  refine ⟨by omega,by omega,by omega,?_,?_⟩
  ·split at k3 <;> omega
  ·split at k2
   ·omega
   ·split at k2 <;> omega
theorem yjv {α:Type} (f:α->List UInt8) (m:Nat) (xs:List α) (h:∀ x∈xs,(f x).length<=m):(xs.flatMap f).length<=m * xs.length:=by
 induction xs with
 | nil=>simp
 | cons x t ih =>
  have h1:=h x (by simp)
  have h2:=ih (fun y hy=>h y (by simp [hy]))
  simp only [List.flatMap_cons,ysq,yss,Nat.mul_add]
  omega
theorem ygm {o:Lk.Obj} (h:yv o):(Lk.objB o).length<=65535:=by
 obtain ⟨hz,hb,hw,hs,hr⟩:=h
 obtain ⟨⟨n1,n2,n3⟩,n4,n5,n6⟩:=hz
 have e1:(o.syms.flatMap Lk.symB).length<=11 * o.syms.length:=yjv _ _ _ fun y hy=>by
  obtain ⟨i,hi,rfl⟩:=List.getElem_of_mem hy
  have k6:=(hs i hi).1.1.2.1
  have hl:(bs (o.syms[i]).name).size=(o.syms[i]).name.length:=rfl
  rw [ygj]
  omega
 have e2:(o.rels.flatMap Lk.relB).length<=7 * o.rels.length:=yjv _ _ _ fun y _=>by rw [yer]; omega
 have e3:=ybI o.align 1
 have e4:=ybI o.text 4
 have e5:=ybI o.far 4
 have e6:=ybI o.data 4
 have:=hb.1
 simp only [Lk.objB,ysq,Lk.le_length,yss,List.length_nil]
 omega
theorem yM {l a rest:List UInt8} {p:Nat} (h:l.drop p=a ++ rest):l.drop (p+a.length)=rest:=by
 rw [<- List.drop_drop,h,List.drop_left]
theorem yaz {l rest:List UInt8} {v:Int} {p n:Nat} (h:l.drop p=Lk.le v n ++ rest) (h0:0<=v) (h1:v < (256:Int) ^ n):atL l p n=v:=by
 induction n generalizing p v with
 | zero=>simp [atL]; simp at h1; omega
 | succ n ih =>
  simp only [Lk.le,List.cons_append] at h
  have hlt:p < l.length:=by
   have:=congrArg List.length h
   simp at this
   omega
  have hg:l.getD p 0=UInt8.ofNat (v % 256).toNat:=by
   have h2:(l.drop p)[0]?=some (UInt8.ofNat (v % 256).toNat):=by rw [h]; rfl
   rw [List.getElem?_drop] at h2
   rw [ysB]
   simp only [Nat.add_zero] at h2
   rw [h2]
   rfl
  have hd:l.drop (p+1)=Lk.le (v / 256) n ++ rest:=by
   rw [<- List.drop_drop,h]
   rfl
  rw [Int.pow_succ] at h1
  have hi:=ih hd (by omega) (by omega)
  simp only [atL,hi,hg]
  have hm:(UInt8.ofNat (v % 256).toNat).toNat=(v % 256).toNat:=by
   rw [UInt8.toNat_ofNat']
   omega
  rw [hm]
  omega
theorem ylC {l x rest:List UInt8} {p:Nat} (h:l.drop p=x ++ rest):cutL l p x.length=x:=by
 unfold cutL
 rw [h,List.take_left]
theorem yfy {l rest:List UInt8} {xs:List Int} {p:Nat} (h:l.drop p=Lk.nums xs 4 ++ rest) (hg:Lk.goodWords 4 xs) (k:Nat) (hk:k<=xs.length):yew l p k=xs.take k:=by
 induction k with
 | zero=>rfl
 | succ k ih =>
  have hk':k < xs.length:=by omega
  rw [yew,ih (by omega),List.take_succ_eq_append_getElem hk']
  congr 2
  have hlen:∀ ys:List Int,(Lk.nums ys 4).length=4 * ys.length:=by
   intro ys
   induction ys with
   | nil=>rfl
   | cons y t ih=>simp only [Lk.nums,List.flatMap_cons,ysq,Lk.le_length,yss] at *; omega
  have e:l.drop p=Lk.nums (xs.take k) 4 ++ (Lk.le xs[k] 4 ++ (Lk.nums (xs.drop (k+1)) 4 ++ rest)):=by
   have e0:xs=xs.take k ++ xs[k] :: xs.drop (k+1):=by rw [<- ysu hk',List.take_append_drop]
   rw [h]
   refine (congrArg (fun z=>Lk.nums z 4 ++ rest) e0).trans ?_
   simp only [Lk.nums,List.flatMap_append,List.flatMap_cons,List.append_assoc]
  have e2:=yM e
  rw [hlen,List.length_take,Nat.min_eq_left (by omega)] at e2
  exact yaz e2 (hg _ (ysr hk')).1 (hg _ (ysr hk')).2
def ymT (l:List UInt8) (p:Nat):Lk.Sym :=
 ⟨cutL l (p+1) (atL l p 1).toNat,atL l (p+1+(atL l p 1).toNat) 1,atL l (p+2+(atL l p 1).toNat) 1,atL l (p+3+(atL l p 1).toNat) 2⟩
def ybO (l:List UInt8):Nat->List Lk.Sym×Nat
 | 0=>([],16)
 | k+1=>((ybO l k).1 ++ [ymT l (ybO l k).2],(ybO l k).2+5+(atL l (ybO l k).2 1).toNat)
def yjZ (l:List UInt8) (p:Nat):Lk.Rel:=⟨atL l p 1,atL l (p+2) 2,atL l (p+1) 1,atL l (p+4) 1,Lk.sgn (atL l (p+5) 2)⟩
def yfW (l:List UInt8) (p:Nat):Nat->List Lk.Rel
 | 0=>[]
 | k+1=>yfW l p k ++ [yjZ l (p+7 * k)]
def ybZ (l:List UInt8):Lk.Obj :=
 ⟨yew l ((ybO l (atL l 14 1).toNat).2+7 * (atL l 15 1).toNat) (min (atL l 2 2).toNat 1201),
 yew l ((ybO l (atL l 14 1).toNat).2+7 * (atL l 15 1).toNat+4 * (atL l 2 2).toNat) (min (atL l 4 2).toNat 1201),
 yew l ((ybO l (atL l 14 1).toNat).2+7 * (atL l 15 1).toNat+4 * (atL l 2 2).toNat+4 * (atL l 4 2).toNat) (min (atL l 6 2).toNat 1201),
 atL l 8 2,[atL l 10 1,atL l 11 1,atL l 12 1,atL l 13 1],(ybO l (atL l 14 1).toNat).1,yfW l (ybO l (atL l 14 1).toNat).2 (atL l 15 1).toNat⟩
theorem ypD {l rest:List UInt8} {y:Lk.Sym} {p:Nat} (h:l.drop p=Lk.symB y ++ rest) (hy:Lk.goodSym y):ymT l p=y/\(atL l p 1).toNat=y.name.length:=by
 obtain ⟨nm,b,s,f⟩:=y
 obtain ⟨h1,h2,h3,h4⟩:=hy
 simp only at h1 h2 h3 h4
 simp only [Lk.symB,List.append_assoc] at h
 have a0:atL l p 1=(nm.length:Int):=yaz h (by omega) (by simp; omega)
 have d1:=yM h
 rw [Lk.le_length] at d1
 have d2:=yM d1
 have d3:=yM d2
 rw [Lk.le_length] at d3
 have d4:=yM d3
 rw [Lk.le_length] at d4
 have e0:(atL l p 1).toNat=nm.length:=by rw [a0]; omega
 refine ⟨?_,e0⟩
 unfold ymT
 rw [e0]
 have a1:=ylC d1
 have a2:atL l (p+1+nm.length) 1=b:=yaz d2 h2.1 (by simpa using h2.2)
 have a3:atL l (p+2+nm.length) 1=s:=by
  rw [show p+2+nm.length=p+1+nm.length+1 from by omega]
  exact yaz d3 h3.1 (by simpa using h3.2)
 have a4:atL l (p+3+nm.length) 2=f:=by
  rw [show p+3+nm.length=p+1+nm.length+1+1 from by omega]
  exact yaz d4 h4.1 (by simpa using h4.2)
 rw [a1,a2,a3,a4]
theorem ymU {l rest:List UInt8} {ys:List Lk.Sym} (h:l.drop 16=ys.flatMap Lk.symB ++ rest) (hg:∀ y∈ys,Lk.goodSym y) (k:Nat) (hk:k<=ys.length) :
  ybO l k=(ys.take k,16+((ys.take k).flatMap Lk.symB).length):=by
 induction k with
 | zero=>rfl
 | succ k ih =>
  have hk':k < ys.length:=by omega
  have e:l.drop 16=(ys.take k).flatMap Lk.symB ++ (Lk.symB ys[k] ++ ((ys.drop (k+1)).flatMap Lk.symB ++ rest)):=by
   have e0:ys=ys.take k ++ ys[k] :: ys.drop (k+1):=by rw [<- ysu hk',List.take_append_drop]
   rw [h]
   refine (congrArg (fun z=>List.flatMap Lk.symB z ++ rest) e0).trans ?_
   simp only [List.flatMap_append,List.flatMap_cons,List.append_assoc]
  have e2:=yM e
  obtain ⟨s1,s2⟩:=ypD e2 (hg _ (ysr hk'))
  simp only [ybO,ih (by omega)]
  rw [s1,s2,List.take_succ_eq_append_getElem hk',List.flatMap_append,ysq]
  simp only [List.flatMap_cons,List.flatMap_nil,List.append_nil,ygj]
  rw [Nat.add_assoc,Nat.add_assoc]
theorem yoj {l rest:List UInt8} {r:Lk.Rel} {p:Nat} (h:l.drop p=Lk.relB r ++ rest) (hr:Lk.goodRel r):yjZ l p=r:=by
 obtain ⟨s,f,d,y,a⟩:=r
 obtain ⟨h1,h2,h3,h4,h5,h6⟩:=hr
 simp only at h1 h2 h3 h4 h5 h6
 simp only [Lk.relB,List.append_assoc] at h
 rw [<- Lk.le_uns a] at h
 have d1:=yM h
 rw [Lk.le_length] at d1
 have d2:=yM d1
 rw [Lk.le_length] at d2
 have d3:=yM d2
 rw [Lk.le_length] at d3
 have d4:=yM d3
 rw [Lk.le_length] at d4
 have a0:atL l p 1=s:=yaz h h1.1 (by simpa using h1.2)
 have a1:atL l (p+1) 1=d:=yaz d1 h2.1 (by simpa using h2.2)
 have a2:atL l (p+2) 2=f:=yaz d2 h3.1 (by simpa using h3.2)
 have a3:atL l (p+4) 1=y:=yaz d3 h4.1 (by simpa using h4.2)
 have a4:atL l (p+5) 2=Lk.uns a:=yaz d4 (by unfold Lk.uns; split <;> omega) (by unfold Lk.uns; simp only [Int.reducePow]; split <;> omega)
 unfold yjZ
 rw [a0,a1,a2,a3,a4]
 congr 1
 unfold Lk.sgn Lk.uns
 split <;> split <;> omega
theorem ymO {l rest:List UInt8} {rs:List Lk.Rel} {p:Nat} (h:l.drop p=rs.flatMap Lk.relB ++ rest) (hg:∀ r∈rs,Lk.goodRel r) (k:Nat) (hk:k<=rs.length) :
  yfW l p k=rs.take k:=by
 induction k with
 | zero=>rfl
 | succ k ih =>
  have hk':k < rs.length:=by omega
  have hlen:∀ ys:List Lk.Rel,(ys.flatMap Lk.relB).length=7 * ys.length:=by
   intro ys
   induction ys with
   | nil=>rfl
   | cons y t ih=>simp only [List.flatMap_cons,ysq,yer,yss] at *; omega
  have e:l.drop p=(rs.take k).flatMap Lk.relB ++ (Lk.relB rs[k] ++ ((rs.drop (k+1)).flatMap Lk.relB ++ rest)):=by
   have e0:rs=rs.take k ++ rs[k] :: rs.drop (k+1):=by rw [<- ysu hk',List.take_append_drop]
   rw [h]
   refine (congrArg (fun z=>List.flatMap Lk.relB z ++ rest) e0).trans ?_
   simp only [List.flatMap_append,List.flatMap_cons,List.append_assoc]
  have e2:=yM e
  rw [hlen,List.length_take,Nat.min_eq_left (by omega)] at e2
  simp only [yfW,ih (by omega),List.take_succ_eq_append_getElem hk']
  rw [yoj e2 (hg _ (ysr hk'))]
theorem ylh (rs:List Lk.Rel):(rs.flatMap Lk.relB).length=7 * rs.length:=by
 induction rs with
 | nil=>rfl
 | cons y t ih=>simp only [List.flatMap_cons,ysq,yer,yss] at *; omega
theorem ypv {o:Lk.Obj} (hg:Lk.goodObj o) (hz:o.text.length<=1200/\o.far.length<=1200/\o.data.length<=1200):ybZ (Lk.objB o)=o:=by
 obtain ⟨g1,g2,g3,g4,g5,g6,g7,g8,g9,g10,g11,g12,g13⟩:=hg
 obtain ⟨tx,fx,dx,bss,al,ys,rs⟩:=o
 simp only at *
 obtain ⟨a,b,c,d,rfl⟩:∃ a b c d,al=[a,b,c,d]:=by
  match al,g5 with
  | [a,b,c,d],_=>exact ⟨a,b,c,d,rfl⟩
 generalize hl:Lk.objB ⟨tx,fx,dx,bss,[a,b,c,d],ys,rs⟩=l
 have h0:l.drop 0=[76,75] ++ Lk.restB ⟨tx,fx,dx,bss,[a,b,c,d],ys,rs⟩:=by rw [<- hl]; rfl
 simp only [Lk.restB] at h0
 have h2:=yM h0
 have h4:=yM h2
 rw [Lk.le_length] at h4
 have h6:=yM h4
 rw [Lk.le_length] at h6
 have h8:=yM h6
 rw [Lk.le_length] at h8
 have h10:=yM h8
 rw [Lk.le_length] at h10
 have hal:Lk.nums [a,b,c,d] 1=Lk.le a 1 ++ (Lk.le b 1 ++ (Lk.le c 1 ++ Lk.le d 1)):=by simp only [Lk.nums,List.flatMap_cons,List.flatMap_nil,List.append_nil]
 rw [hal] at h10
 simp only [List.append_assoc] at h10
 have h11:=yM h10
 rw [Lk.le_length] at h11
 have h12:=yM h11
 rw [Lk.le_length] at h12
 have h13:=yM h12
 rw [Lk.le_length] at h13
 have h14:=yM h13
 rw [Lk.le_length] at h14
 have h15:=yM h14
 rw [Lk.le_length] at h15
 have h16:=yM h15
 rw [Lk.le_length] at h16
 have hs:=yM h16
 have hr:=yM hs
 have ht:=yM hr
 have hf:=yM ht
 simp only [yss,List.length_nil,Nat.zero_add,Nat.reduceAdd] at h2 h4 h6 h8 h10 h11 h12 h13 h14 h15 h16 hs hr ht hf
 have v2:atL l 2 2=(tx.length:Int):=yaz h2 (by omega) (by simp; omega)
 have v4:atL l 4 2=(fx.length:Int):=yaz h4 (by omega) (by simp; omega)
 have v6:atL l 6 2=(dx.length:Int):=yaz h6 (by omega) (by simp; omega)
 have v8:atL l 8 2=bss:=yaz h8 g4.1 (by simpa using g4.2)
 have w1:=g6 a (by simp)
 have w2:=g6 b (by simp)
 have w3:=g6 c (by simp)
 have w4:=g6 d (by simp)
 have v10:atL l 10 1=a:=yaz h10 w1.1 w1.2
 have v11:atL l 11 1=b:=yaz h11 w2.1 w2.2
 have v12:atL l 12 1=c:=yaz h12 w3.1 w3.2
 have v13:atL l 13 1=d:=yaz h13 w4.1 w4.2
 have v14:atL l 14 1=(ys.length:Int):=yaz h14 (by omega) (by simp; omega)
 have v15:atL l 15 1=(rs.length:Int):=yaz h15 (by omega) (by simp; omega)
 have hlenR:=ylh rs
 have eS:=ymU h16 g9 ys.length (Nat.le_refl _)
 rw [List.take_length] at eS
 unfold ybZ
 rw [v2,v4,v6,v8,v10,v11,v12,v13,v14,v15]
 simp only [Int.toNat_natCast,eS]
 rw [ymO hs g10 rs.length (Nat.le_refl _),List.take_length]
 rw [hlenR] at hr ht hf
 rw [ybI] at ht hf
 rw [ybI] at hf
 rw [Nat.min_eq_left (by omega),Nat.min_eq_left (by omega),Nat.min_eq_left (by omega)]
 rw [yfy hr g11 tx.length (Nat.le_refl _),List.take_length,yfy ht g12 fx.length (Nat.le_refl _),List.take_length]
 rw [yfy (rest:=[]) (by rw [List.append_nil]; exact hf) g13 dx.length (Nat.le_refl _),List.take_length]
def ybT (l:List UInt8):Prop:=yv (ybZ l)/\Lk.objB (ybZ l)=l
theorem ycB {l:List UInt8} {o:Lk.Obj} (h:Lk.readObj l=some o) (hv:yv o):ybT l/\ybZ l=o:=by
 obtain ⟨hg,rfl⟩:=(Lk.readObj_iff l o).1 h
 have hz:=hv.1.1
 have e:=ypv hg ⟨hz.1,hz.2.1,by omega⟩
 unfold ybT
 rw [e]
 exact ⟨⟨hv,rfl⟩,rfl⟩
theorem yiK {l:List UInt8} (h:ybT l):Lk.readObj l=some (ybZ l):=(Lk.readObj_iff l _).2 ⟨yct h.1,h.2.symm⟩
theorem ydp {l:List UInt8} (h:ybT l):l.length<=65535:=by
 have:=ygm h.1
 rw [h.2] at this
 exact this
theorem ycu {l:List UInt8} (h:∀ o,Lk.readObj l=some o->¬ yv o):¬ ybT l:=fun k=>h _ (yiK k) k.1
def memB (m:List UInt8):List UInt8:=Lk.le m.length 2 ++ m
def arB (ms:List (List UInt8)):List UInt8:=[65,82] ++ (Lk.le ms.length 1 ++ ms.flatMap memB)
def ybF (l:List UInt8) (ms:List (List UInt8)):Prop:=(1<=ms.length/\ms.length<=6)/\(∀ m∈ms,ybT m)/\arB ms=l
theorem yfj:¬ ybT []:=fun h=>by
 have:=congrArg List.length h.2
 simp [Lk.objB] at this
def ycL (l:List UInt8):Nat->List (List UInt8)×Nat
 | 0=>([],3)
 | k+1=>((ycL l k).1 ++ [cutL l ((ycL l k).2+2) (atL l (ycL l k).2 2).toNat],(ycL l k).2+2+(atL l (ycL l k).2 2).toNat)
def ylO (l:List UInt8):List (List UInt8):=(ycL l (min (atL l 2 1).toNat 6)).1
theorem ymH {l rest:List UInt8} {ms:List (List UInt8)} (h:l.drop 3=ms.flatMap memB ++ rest) (hg:∀ m∈ms,m.length<=65535) (k:Nat) (hk:k<=ms.length) :
  ycL l k=(ms.take k,3+((ms.take k).flatMap memB).length):=by
 induction k with
 | zero=>rfl
 | succ k ih =>
  have hk':k < ms.length:=by omega
  have e:l.drop 3=(ms.take k).flatMap memB ++ (memB ms[k] ++ ((ms.drop (k+1)).flatMap memB ++ rest)):=by
   have e0:ms=ms.take k ++ ms[k] :: ms.drop (k+1):=by rw [<- ysu hk',List.take_append_drop]
   rw [h]
   refine (congrArg (fun z=>List.flatMap memB z ++ rest) e0).trans ?_
   simp only [List.flatMap_append,List.flatMap_cons,List.append_assoc]
  have e2:=yM e
  have hm:=hg _ (ysr hk')
  unfold memB at e2
  rw [List.append_assoc] at e2
  have a0:atL l (3+((ms.take k).flatMap memB).length) 2=(ms[k].length:Int):=yaz e2 (by omega) (by simp only [Int.reducePow]; omega)
  have e3:=yM e2
  rw [Lk.le_length] at e3
  have a1:=ylC e3
  simp only [ycL,ih (by omega)]
  rw [a0,Int.toNat_natCast]
  refine Prod.ext ?_ ?_
  ·simp only
   rw [List.take_succ_eq_append_getElem hk']
   congr 2
  ·simp only
   rw [List.take_succ_eq_append_getElem hk',List.flatMap_append,ysq]
   simp only [List.flatMap_cons,List.flatMap_nil,List.append_nil,memB,ysq,Lk.le_length]
   omega
theorem yje {l:List UInt8} {ms:List (List UInt8)} (h:ybF l ms):ylO l=ms:=by
 obtain ⟨⟨h1,h2⟩,h3,h4⟩:=h
 have d0:l.drop 0=[65,82] ++ (Lk.le ms.length 1 ++ ms.flatMap memB):=by rw [<- h4]; rfl
 have d2:=yM d0
 have d3:=yM d2
 rw [Lk.le_length] at d3
 simp only [yss,List.length_nil,Nat.zero_add,Nat.reduceAdd] at d2 d3
 have a:atL l 2 1=(ms.length:Int):=yaz d2 (by omega) (by simp only [Int.reducePow]; omega)
 unfold ylO
 rw [a,Int.toNat_natCast,Nat.min_eq_left h2,ymH (rest:=[]) (by rw [List.append_nil]; exact d3) (fun m hm=>ydp (h3 m hm)) ms.length (Nat.le_refl _),List.take_length]
theorem Tryz.infoStr:(Tryz.prog.info? 9).map (fun i=>(i.zero,i.size,i.bytes))=some (some (.string ⟨#[]⟩),1,16):=by kernel_rfl
theorem ypf {l:List UInt8} {p:Nat} (hp:p<=l.length) (h:ybT (Lk.rdText l (Lk.rdNum l 2 (p,false)).1.toNat (Lk.rdNum l 2 (p,false)).2).1) :
  ∃ m,Lk.rdText l (Lk.rdNum l 2 (p,false)).1.toNat (Lk.rdNum l 2 (p,false)).2=(m,(p+2+m.length,false))/\l.drop p=memB m ++ l.drop (p+2+m.length)/\p+2+m.length<=l.length:=by
 by_cases h1:2<=l.length - p
 ·have e1:Lk.rdNum l 2 (p,false)=(Lk.num ((l.drop p).take 2),(p+2,false)):=by simp [Lk.rdNum,Lk.rdText,h1]
  rw [e1] at h ⊢
  simp only at h ⊢
  have hn:=Lk.num_nonneg ((l.drop p).take 2)
  have hlen:((l.drop p).take 2).length=2:=by simp; omega
  have hle:=Lk.le_num ((l.drop p).take 2)
  rw [hlen] at hle
  obtain ⟨n,hn'⟩:=Int.eq_ofNat_of_zero_le hn
  rw [hn'] at h hle ⊢
  simp only [Int.toNat_natCast] at h ⊢
  by_cases h2:n<=l.length - (p+2)
  ·have hml:((l.drop (p+2)).take n).length=n:=by simp; omega
   have e2:Lk.rdText l n (p+2,false)=((l.drop (p+2)).take n,(p+2+n,false)):=by simp [Lk.rdText,h2]
   refine ⟨(l.drop (p+2)).take n,by rw [e2,hml],?_,by rw [hml]; omega⟩
   rw [hml]
   unfold memB
   rw [hml,hle,List.append_assoc,<- List.drop_drop (i:=n),List.take_append_drop,<- List.drop_drop (i:=2),List.take_append_drop]
  ·have e2:(Lk.rdText l n (p+2,false)).1=[]:=by simp [Lk.rdText,h2]
   rw [e2] at h
   exact absurd h yfj
 ·have e1:Lk.rdNum l 2 (p,false)=(0,(p,true)):=by simp [Lk.rdNum,Lk.rdText,h1,Lk.num]
  rw [e1] at h
  have e2:(Lk.rdText l (0:Int).toNat (p,true)).1=[]:=by simp [Lk.rdText]
  rw [e2] at h
  exact absurd h yfj
theorem yry {l m rest:List UInt8} {p:Nat} (hp:p<=l.length) (h:l.drop p=memB m ++ rest) (hm:m.length<=65535):(Lk.rdText l (Lk.rdNum l 2 (p,false)).1.toNat (Lk.rdNum l 2 (p,false)).2).1=m:=by
 unfold memB at h
 rw [List.append_assoc] at h
 obtain ⟨a1,b1,c1,p1,d1⟩:=(Lk.reads_num l 2).on (st:=(p,false)) hp rfl (x:=(m.length:Int)) ⟨by omega,by simp only [Int.reducePow]; omega⟩ h
 rw [a1,Int.toNat_natCast]
 exact ((Lk.reads_text l m.length).on p1 b1 (x:=m) rfl d1).1
set_option maxHeartbeats 1000000 in
theorem yhZ (n:Int) (w:World) :
  Calls Tryz.prog 164 #[.int .i64 n] w fun e w'=>yg e (1<=n/\n<=6)/\w'=w:=by
 go_enter Tryz.func164,Tryz.ntmps164
 by_cases h1:1<=n
 ·by_cases h2:n<=6
  ·have d1:decide (1<=n)=true:=by simpa using h1
   have d2:decide (n<=6)=true:=by simpa using h2
   go_wp2
   go_ret
   exact ⟨yg.yes ⟨h1,h2⟩,rfl⟩
  ·have d1:decide (1<=n)=true:=by simpa using h1
   have d2:decide (n<=6)=false:=by simp; omega
   go_wp2
   go_ret
   exact ⟨yg.no (fun h=>by omega),rfl⟩
 ·have d1:decide (1<=n)=false:=by simp; omega
  go_wp2
  go_ret
  exact ⟨yg.no (fun h=>by omega),rfl⟩
set_option maxHeartbeats 1000000 in
theorem yhB (s:ByteArray) (w:World) (ht:Tabs w) (hs:s.size<=1048576) :
  Calls Tryz.prog 165 #[.string s] w fun e w'=>yg e (ybT (sl s))/\w.grownBy w' none:=by
 have cR:=hid (ygz s w ht hs)
 go_enter Tryz.func165,Tryz.ntmps165
 go_wp2_with fail
 refine cR.out.mono ?_
 rintro e w1 ⟨⟨o,g,hr,hv,rfl,-,-⟩ | ⟨hno,rfl⟩,hq⟩
 ·have H:=hid (ycB hr hv).1
  have HQ:=hid hq
  go_wp2
  go_ret
  exact ⟨yg.yes H.out,HQ.out⟩
 ·have H:=hid (ycu hno)
  have HQ:=hid hq
  go_wp2
  go_ret
  exact ⟨yg.no H.out,HQ.out⟩
def strV (ms:List (List UInt8)):List Value:=ms.map (fun m=>Value.string (bs m))
def ymb (l:List UInt8) (base:Nat) (e:Ending) (w':World):Prop :=
 (∃ ms v,ybF l ms/\e = .returned (.tuple #[v,.int .i64 0])/\w'.ownsRow base 9 1 v ms.length (strV ms)) \/
 ((∀ ms,¬ ybF l ms)/\e = .returned (.tuple #[.slice none 0 0,.int .i64 21]))
set_option maxHeartbeats 8000000 in
theorem ykZ (s:ByteArray) (w:World) (ht:Tabs w) (hs:s.size<=1048576) :
  Calls Tryz.prog 99 #[.string s] w fun e w'=>ymb (sl s) w.heap.size e w'/\w.grownBy w' none:=by
 obtain ⟨i0,hi,hz0,hz1,hz2⟩:=info_parts Tryz.infoStr
 have HT:=hid ht
 clear ht
 have hlen:=yq s
 have l0:=ycn (sl s) 2 (0,false) (by rw [hlen]; omega)
 have c0:=fun W b h=>ycH b s 0 2 2 rfl false W h hs (Nat.zero_le _) (by omega)
 have HX0:=hid (Lk.reads_text (sl s) 2)
 have T0:=hid (show (Lk.rdText (sl s) 2 (0,false)).1=[65,82]->Lk.rdText (sl s) 2 (0,false)=([65,82],(2,false))/\(sl s).drop 0=[65,82] ++ (sl s).drop 2/\2<=(sl s).length from fun h=>by
  unfold Lk.rdText at h ⊢
  simp only at h ⊢
  by_cases c:2<=(sl s).length - 0
  ·rw [if_pos c] at h ⊢
   simp only at h ⊢
   refine ⟨by rw [h],?_,by omega⟩
   rw [<- h,List.drop_zero,List.take_append_drop]
  ·rw [if_neg c] at h
   simp at h)
 have N0:=hid (show ∀ ms,ybF (sl s) ms->(Lk.rdText (sl s) 2 (0,false)).1=[65,82] from fun ms h=>(HX0.out.on (st:=(0,false)) (Nat.zero_le _) rfl (x:=[65,82]) (rest:=Lk.le ms.length 1 ++ ms.flatMap memB) rfl (by rw [<- h.2.2]; rfl)).1)
 clear HX0
 rw [hlen] at l0
 generalize Lk.rdText (sl s) 2 (0,false)=x0 at *
 obtain ⟨mk,p0,s0⟩:=x0
 simp only at c0 T0 N0 l0
 have c1:=fun W b h=>yJ b s p0 1 1 rfl s0 W h hs l0 (by omega)
 have l1:=yA (sl s) 1 (p0,s0) (by rw [hlen]; exact l0)
 rw [hlen] at l1
 have b1:=yO (sl s) 1 (p0,s0)
 simp only [Int.reducePow] at b1
 have T1:=hid (show mk=[65,82]->1<=(Lk.rdNum (sl s) 1 (p0,s0)).1->(Lk.rdNum (sl s) 1 (p0,s0)).2=(3,false)/\(sl s).drop 0=[65,82] ++ (Lk.le (Lk.rdNum (sl s) 1 (p0,s0)).1 1 ++ (sl s).drop 3)/\3<=(sl s).length from fun hm h=>by
  obtain ⟨e,d,hl2⟩:=T0.out hm
  simp only [Prod.mk.injEq] at e
  obtain ⟨-,rfl,rfl⟩:=e
  by_cases c:1<=(sl s).length - 2
  ·have e1:Lk.rdNum (sl s) 1 (2,false)=(Lk.num (((sl s).drop 2).take 1),(3,false)):=by simp [Lk.rdNum,Lk.rdText,c]
   rw [e1]
   have hle:=Lk.le_num (((sl s).drop 2).take 1)
   rw [show (((sl s).drop 2).take 1).length=1 from by simp; omega] at hle
   refine ⟨rfl,?_,by omega⟩
   simp only
   rw [d,hle,show (sl s).drop 3=((sl s).drop 2).drop 1 from by rw [List.drop_drop],List.take_append_drop]
  ·have e1:Lk.rdNum (sl s) 1 (2,false)=(0,(2,true)):=by simp [Lk.rdNum,Lk.rdText,c,Lk.num]
   rw [e1] at h
   simp at h)
 have N1:=hid (show ∀ ms,ybF (sl s) ms->(Lk.rdNum (sl s) 1 (p0,s0)).1=(ms.length:Int) from fun ms h=>by
  obtain ⟨e,d,hl2⟩:=T0.out (N0.out ms h)
  simp only [Prod.mk.injEq] at e
  obtain ⟨-,rfl,rfl⟩:=e
  have d0:(sl s).drop 0=[65,82] ++ (Lk.le ms.length 1 ++ ms.flatMap memB):=by rw [<- h.2.2]; rfl
  exact ((Lk.reads_num (sl s) 1).on (st:=(2,false)) hl2 rfl (x:=(ms.length:Int)) (rest:=ms.flatMap memB) ⟨by omega,by have:=h.1.2; simp only [Int.reducePow]; omega⟩ (yM d0)).1)
 generalize Lk.rdNum (sl s) 1 (p0,s0)=x1 at *
 obtain ⟨cnt,p1,s1⟩:=x1
 simp only at c1 T1 N1 l1 b1
 have C0:=hid c0
 have C1:=hid c1
 clear c0 c1
 have HLN:=hid hlen
 clear hlen
 have cV:=hid (fun W=>yhZ cnt W)
 go_enter Tryz.func99,Tryz.ntmps99
 go_wp2_with fail
 refine (ydA s w).mono ?_
 rintro e W1 ⟨rfl,g1⟩
 have R:RdAt (W1.alloc (.cells #[.string s,.int .i64 0,.bool false] 83)) W1.heap.size s 0 false:=heap_alloc_new W1 _
 have HR:=hid R
 have G1:=hid (ya g1 (ysp W1 (.cells #[.string s,.int .i64 0,.bool false] 83) none))
 have hbw:w.heap.size<=W1.heap.size:=g1.size
 clear R g1
 generalize hb:W1.heap.size=b at *
 go_wp2_with fail
 refine (C0.out _ b HR.out).mono ?_
 rintro e W2 ⟨rfl,r2,g2⟩
 have R2:=hid r2
 have G2:=hid (ybC G1.out g2 hbw)
 clear r2 g2 HR G1 hb
 go_wp2_with fail
 refine (C1.out _ b R2.out).mono ?_
 rintro e W3 ⟨rfl,r3,g3⟩
 have R3:=hid r3
 have G3:=hid (ybC G2.out g3 hbw)
 clear r3 g3 R2 G2
 have HTB:=hid (yH mk)
 by_cases c:mk=[65,82]
 rotate_left
 ·have d:((bs mk).toList == [65,82])=false:=by rw [HTB.out,beq_eq_false_iff_ne]; exact c
  have CC:=hid c
  clear c
  go_wp2
  go_ret2
  exact ⟨.inr ⟨fun ms h=>CC.out (N0.out ms h),rfl⟩,G3.out⟩
 have d:((bs mk).toList == [65,82])=true:=by rw [HTB.out,beq_iff_eq]; exact c
 have CC:=hid c
 clear c
 go_wp2_with fail
 refine (cV.out _).mono ?_
 rintro e W4 ⟨t,rfl⟩
 rcases t.split with ⟨rfl,pv⟩ | ⟨rfl,pv⟩ <;> clear t
 ·go_wp2
  go_ret2
  exact ⟨.inr ⟨fun ms h=>pv.out (by rw [N1.out ms h]; have:=h.1; omega),rfl⟩,G3.out⟩
 obtain ⟨hst,hd,hl3⟩:=T1.out CC.out pv.out.1
 simp only [Prod.mk.injEq] at hst
 obtain ⟨rfl,rfl⟩:=hst
 obtain ⟨n,rfl⟩:=Int.eq_ofNat_of_zero_le b1.1
 have HPV:=hid pv.out
 have hn6:n<=6:=by have:=pv.out.2; omega
 have HN1:=hid N1.out
 have A3:=hid (show ∀ ms,ybF (sl s) ms->ms.length=n/\∃ ms',ms=[] ++ ms'/\(sl s).drop 3=ms'.flatMap memB from fun ms h=>by
  refine ⟨by have:=HN1.out ms h; omega,ms,rfl,?_⟩
  have d0:(sl s).drop 0=[65,82] ++ (Lk.le ms.length 1 ++ ms.flatMap memB):=by rw [<- h.2.2]; rfl
  have:=yM (yM d0)
  rw [Lk.le_length] at this
  exact this)
 have HD:=hid hd
 clear hd hl3 pv N1 HN1 T0 T1 N0 C0 C1
 have hbs:W4.heap.size<=W4.heap.size:=Nat.le_refl _
 have hblt:b < W4.heap.size:=R3.out.lt
 have hw4:w.heap.size<=W4.heap.size:=G3.out.size
 go_wp2
 go_loopw [7,8] (fun v i wr=>∃ (k:Nat) (acc:List (List UInt8)) (p:Nat),k<=n/\i = .int .i64 k/\acc.length=k/\p<=s.size /\
   wr.ownsRow W4.heap.size 9 1 v k (strV acc)/\RdAt wr b s p false/\w.grownBy wr none/\W4.heap.size<=wr.heap.size/\(∀ m∈acc,ybT m)/\(sl s).drop 3=acc.flatMap memB ++ (sl s).drop p /\
   ∀ ms,ybF (sl s) ms->ms.length=n/\∃ ms',ms=acc ++ ms'/\(sl s).drop p=ms'.flatMap memB) (fun _ i _=>n - (intOf i).toNat)
 case atStart=>exact ⟨0,[],3,Nat.zero_le _,rfl,rfl,l1,World.ownsRow_nil _ _ _ _,R3.out,G3.out,Nat.le_refl _,by simp,by simp,A3.out⟩
 case round =>
  obtain ⟨k,acc,p,hk,rfl,hacc,hp,hown,hrd,hgr,hsz,hall,hdr,har⟩:=hrel
  have HACC:=hid hacc
  have HRD:=hid hrd
  have HG:=hid hgr
  have HALL:=hid hall
  have HDR:=hid hdr
  have HAR:=hid har
  clear hacc hrd hgr hall hdr har
  by_cases hlt:k < n
  ·have hlt':(k:Int) < (n:Int):=by omega
   have hstep:=hid (fun h=>ypf (l:=sl s) (p:=p) (by rw [HLN.out]; exact hp) h)
   have hon:=hid (fun (m rest:List UInt8) h hm=>yry (l:=sl s) (m:=m) (rest:=rest) (p:=p) (by rw [HLN.out]; exact hp) h hm)
   have k0:=hid (fun W h=>yJ b s p 2 2 rfl false W h hs hp (by omega))
   have r0:=yO (sl s) 2 (p,false)
   have q0:=yA (sl s) 2 (p,false) (by rw [HLN.out]; exact hp)
   rw [HLN.out] at q0
   simp only [Int.reducePow] at r0
   generalize Lk.rdNum (sl s) 2 (p,false)=y0 at *
   obtain ⟨len,p2,s2⟩:=y0
   simp only at k0 r0 q0 hstep hon
   obtain ⟨len,rfl⟩:=Int.eq_ofNat_of_zero_le r0.1
   simp only [Int.toNat_natCast] at hstep hon
   have k1:=hid (fun W h=>ycH b s p2 len (len:Int) rfl s2 W h hs q0 (by omega))
   have q1:=ycn (sl s) len (p2,s2) (by rw [HLN.out]; exact q0)
   rw [HLN.out] at q1
   have q2:(Lk.rdText (sl s) len (p2,s2)).1.length<=65535:=by
    unfold Lk.rdText
    split
    ·simp only [List.length_take]; omega
    ·simp
   generalize Lk.rdText (sl s) len (p2,s2)=y1 at *
   obtain ⟨m,p3,s3⟩:=y1
   simp only at k1 q1 q2 hstep hon
   go_wp2_with fail
   refine (k0.out _ HRD.out).mono ?_
   rintro e U1 ⟨rfl,r1,g1⟩
   have RA:=hid r1
   have GA:=hid (ybC HG.out g1 hbw)
   have hown1:=ycF hown hblt g1
   have hsz1:=Nat.le_trans hsz g1.size
   clear r1 g1 hown hsz HRD HG k0
   go_wp2_with fail
   refine (k1.out _ RA.out).mono ?_
   rintro e U2 ⟨rfl,r1,g1⟩
   have RB:=hid r1
   have GB:=hid (ybC GA.out g1 hbw)
   have hown2:=ycF hown1 hblt g1
   have hsz2:=Nat.le_trans hsz1 g1.size
   clear r1 g1 hown1 hsz1 RA GA k1
   have cO:=hid (yhB (bs m) U2 (HT.out.grown GB.out) (by show m.length<=1048576; omega))
   rw [ydM] at cO
   go_wp2_with fail
   refine cO.out.mono ?_
   rintro e U3 ⟨t,g1⟩
   have RC:=hid (RB.out.grown g1 (by simp))
   have GC:=hid (ya GB.out g1)
   have hown3:=hown2.kept g1 (by cases (Value.ownBlock _) <;> simp)
   have hsz3:=Nat.le_trans hsz2 g1.size
   rcases t.split with ⟨rfl,pv⟩ | ⟨rfl,pv⟩ <;> clear t g1 hown2 hsz2 RB GB cO
   ·have NA:=hid (show ∀ ms,¬ ybF (sl s) ms from fun ms h=>by
     obtain ⟨h1,ms',h2,h3⟩:=HAR.out ms h
     have h4:=HACC.out
     match ms',h2,h3 with
     | [],h2,_=>rw [h2] at h1; simp at h1; omega
     | m' :: ms'',h2,h3 =>
      have hm':ybT m':=h.2.1 m' (by rw [h2]; simp)
      have e:=hon.out m' (ms''.flatMap memB) (by rw [h3]; rfl) (ydp hm')
      subst e
      exact pv.out hm')
    clear pv
    go_wp2
    go_ret2
    exact ⟨.inr ⟨NA.out,rfl⟩,GC.out⟩
   ·obtain ⟨m',he,hdp,hle⟩:=hstep.out pv.out
    simp only [Prod.mk.injEq] at he
    obtain ⟨rfl,rfl,rfl⟩:=he
    rw [HLN.out] at hle
    have HDP:=hid hdp
    have HPV2:=hid pv.out
    have HAR2:=hid (show ∀ ms,ybF (sl s) ms->ms.length=n/\∃ ms',ms=(acc ++ [m]) ++ ms'/\(sl s).drop (p+2+m.length)=ms'.flatMap memB from fun ms h=>by
     obtain ⟨h1,ms',h2,h3⟩:=HAR.out ms h
     refine ⟨h1,?_⟩
     have h4:=HACC.out
     match ms',h2,h3 with
     | [],h2,_=>rw [h2] at h1; simp at h1; omega
     | m' :: ms'',h2,h3 =>
      have hm':ybT m':=h.2.1 m' (by rw [h2]; simp)
      have e:=hon.out m' (ms''.flatMap memB) (by rw [h3]; rfl) (ydp hm')
      subst e
      refine ⟨ms'',by rw [h2]; simp,?_⟩
      rw [HDP.out] at h3
      exact List.append_cancel_left h3)
    clear pv hdp hstep hon
    have hacc2:acc.length<=6:=by have:=HACC.out; omega
    go_wp2_with (at_builtin; refine wpList_append_own _ rfl _ _ 29 rfl W4.heap.size 9 i0 (.string ⟨#[]⟩) 1 16 Tryz.underlying29 hi hz0 hz1 hz2 rfl (by decide) _ _ _ rfl (hown3.alloc _) ⟨U3.heap.size,0,none⟩ 1 1 [.string (bs m)] rfl rfl (cell_one_new _ _ _) (by intro u hu; simp at hu; subst hu; rfl) (by unfold maxLen; omega) (by omega) (by simp; omega) ?_; intro v' w3 hown' hgrow _)
    have K1:=hid (show w3.ownsRow W4.heap.size 9 1 v' (k+1) (strV (acc ++ [m])) from by unfold strV; rw [List.map_append]; exact hown')
    have K2:=hid ((RC.out.grown (ysp _ _ none) (by simp)).grown hgrow (fun e=>by have:=(hown3.lt b e.symm).1; omega))
    have K3:=hid (show w.grownBy w3 none from by
     cases hob:Value.ownBlock _ with
     | none=>rw [hob] at hgrow; exact ya (ya GC.out (ysp _ _ none)) hgrow
     | some bb=>rw [hob] at hgrow; exact ybC (ya GC.out (ysp _ _ none)) hgrow (by have:=(hown3.lt bb hob).1; omega))
    have K4:=hid (show W4.heap.size<=w3.heap.size from by have:=hgrow.size; simp at this; omega)
    clear hgrow hown' hown3
    go_wp2
    go_roundw
    case rel=>exact ⟨k+1,acc ++ [m],p+2+m.length,by omega,by go_num,by simp [HACC.out],hle,K1.out,K2.out,K3.out,K4.out,fun x hx=>(List.mem_append.1 hx).elim (HALL.out x) (fun h=>by rw [List.mem_singleton.1 h]; exact HPV2.out),by rw [HDR.out,HDP.out]; simp,HAR2.out⟩
    case measure=>simp [intOf]; omega
  ·obtain rfl:k=n:=by omega
   have cD:=hid (ygt b s p false wr HRD.out)
   go_wp2_with fail
   refine cD.out.mono ?_
   rintro e U1 ⟨he,kd,rfl⟩
   by_cases c:p=s.size
   ·rw [show (!false && decide (p=s.size))=true from by simp [c]] at he
    subst he
    have AR:=hid (show ybF (sl s) acc from ⟨by have:=HPV.out; have:=HACC.out; omega,HALL.out,by
     have e1:=HDR.out
     have e0:(sl s).drop p=[]:=List.drop_of_length_le (by rw [HLN.out]; omega)
     rw [e0,List.append_nil] at e1
     unfold arB
     rw [<- e1,HACC.out]
     exact HD.out.symm⟩)
    have HO:=hid (yW hown hw4)
    obtain ⟨av,cv,rfl⟩:=yh hown
    clear c hown
    go_wp2
    go_ret2
    refine ⟨.inl ⟨acc,_,AR.out,rfl,?_⟩,ye HG.out _⟩
    rw [HACC.out]
    exact HO.out.kept (ye (World.grownBy.refl _ none) kd) (by cases (Value.ownBlock _) <;> simp)
   ·rw [show (!false && decide (p=s.size))=false from by simp [c]] at he
    subst he
    have NA:=hid (show ∀ ms,¬ ybF (sl s) ms from fun ms h=>by
     obtain ⟨h1,ms',h2,h3⟩:=HAR.out ms h
     have h4:=HACC.out
     rw [h2] at h1
     simp only [ysq] at h1
     have h5:ms'=[]:=List.eq_nil_of_length_eq_zero (by omega)
     rw [h5] at h3
     have h6:=congrArg List.length h3
     simp only [List.flatMap_nil,List.length_nil,List.length_drop,HLN.out] at h6
     omega)
    clear c
    go_wp2
    go_ret2
    exact ⟨.inr ⟨NA.out,rfl⟩,ye HG.out _⟩
set_option maxHeartbeats 1000000 in
theorem ynH (a:Int) (w:World):Calls Tryz.prog 80 #[.int .i64 a] w fun e w'=>yg e (Im.Base a)/\w'=w:=by
 by_cases h1:4096<=a
 ·by_cases h2:a < 1073741824
  ·exact ydI a w (by omega) (by omega)
  ·have N:=hid (show ¬ Im.Base a from fun h=>h2 h.1.2)
   have d1:decide (4096<=a)=true:=by simpa using h1
   have d2:decide (a < 1073741824)=false:=by simpa using h2
   go_enter Tryz.func80,Tryz.ntmps80
   go_wp2
   go_ret
   exact ⟨yg.no N.out,rfl⟩
 ·have N:=hid (show ¬ Im.Base a from fun h=>h1 h.1.1)
  have d1:decide (4096<=a)=false:=by simpa using h1
  go_enter Tryz.func80,Tryz.ntmps80
  go_wp2
  go_ret
  exact ⟨yg.no N.out,rfl⟩
open Classical in
noncomputable def yab (bt bf bd:Int):Ln.Flt:=if ¬ Im.Base bt then ⟨30,0,[]⟩ else if ¬ Im.Base bf then ⟨30,1,[]⟩ else if ¬ Im.Base bd then ⟨30,2,[]⟩ else Ln.ok
set_option maxRecDepth 100000 in
set_option maxHeartbeats 4000000 in
theorem yhD (bt bf bd:Int) (w:World) :
  Calls Tryz.prog 63 #[.agg #[.int .i64 bt,.int .i64 bf,.int .i64 bd]] w fun e w'=>e = .returned (lfA (yab bt bf bd))/\w.grownBy w' none:=by
 have cB:=hid (fun a W=>ynH a W)
 have hs1:(w.alloc (.cells #[.int .i64 bt,.int .i64 bf,.int .i64 bd] 33)).heap.size=w.heap.size+1:=Array.size_push _
 have G1:=hid (ya (ysp w (.cells #[.int .i64 bt,.int .i64 bf,.int .i64 bd] 33) none) (ysp (w.alloc (.cells #[.int .i64 bt,.int .i64 bf,.int .i64 bd] 33)) (.cells #[.int .i64 0,.int .i64 0,.string ⟨#[]⟩] 45) none))
 have B1:=hid (yc.new (w.alloc (.cells #[.int .i64 bt,.int .i64 bf,.int .i64 bd] 33)) #[.int .i64 0,.int .i64 0,.string ⟨#[]⟩] 45)
 rw [hs1] at B1
 clear hs1
 go_enter Tryz.func63,Tryz.ntmps63
 go_wp2
 generalize (w.alloc (.cells #[.int .i64 bt,.int .i64 bf,.int .i64 bd] 33)).alloc (.cells #[.int .i64 0,.int .i64 0,.string ⟨#[]⟩] 45)=W1 at *
 go_loopw [12] (fun i wr=>∃ k:Nat,k<=3/\i = .int .i64 k/\wr=W1/\(0 < k->Im.Base bt)/\(1 < k->Im.Base bf)/\(2 < k->Im.Base bd)) (fun i _=>3 - (intOf i).toNat)
 case atStart=>exact ⟨0,by omega,rfl,rfl,fun c=>by omega,fun c=>by omega,fun c=>by omega⟩
 case round =>
  obtain ⟨k,hk,rfl,rfl,p0,p1,p2⟩:=hrel
  have z0:wr.cell? ⟨w.heap.size+1,0,none⟩=some (.int .i64 0):=B1.out.cell 0
  have z1:wr.cell? ⟨w.heap.size+1,1,none⟩=some (.int .i64 0):=B1.out.cell 1
  have z2:wr.cell? ⟨w.heap.size+1,2,none⟩=some (.string ⟨#[]⟩):=B1.out.cell 2
  have f0:=B1.out.free 0
  have f1:=B1.out.free 1
  have f2:=B1.out.free 2
  rcases (show k=0\/k=1\/k=2\/k=3 by omega) with rfl | rfl | rfl | rfl
  ·have cK:=hid (cB.out bt)
   rw [show ((0:Nat):Int)=0 from rfl]
   have ix:∀ W:World,Sem.run Tryz.prog (Instr.index 155 (.agg #[.int .i64 bt,.int .i64 bf,.int .i64 bd]) (.int .i64 0)) W = .ok (.int .i64 bt) W:=fun _=>by kernel_rfl
   go_wp2_with fail
   refine (cK.out _).mono ?_
   rintro e V ⟨ht,hV⟩
   subst hV
   rcases ht.split with ⟨rfl,hn⟩ | ⟨rfl,hy⟩
   ·have E:=hid (show yab bt bf bd=⟨30,0,[]⟩ by unfold yab; rw [if_pos hn.out])
    go_wp2
    have F:=((B1.out.set 0 (.int .i64 30)).set 1 (.int .i64 0)).set 2 (.string ⟨#[]⟩)
    have h0:=F.cell 0
    have h1:=F.cell 1
    have h2:=F.cell 2
    simp only [yso,ysm,ysn,ysk,ysl,ysj] at h0 h1 h2
    refine bodyPost_ret (v:=lfA ⟨30,0,[]⟩) ?_ rfl ⟨by rw [E.out],yx G1.out _ (by omega) _ _ _⟩
    clear F z0 z1 z2 f0 f1 f2
    generalize World.setCell _ _ _=WF at *
    simp [results,Tryz.results63,go_sem,lfA,bs,h0,h1,h2]
   ·go_wp2
    go_roundw
    case rel=>exact ⟨1,by omega,by go_num,trivial,fun _=>hy.out,fun c=>by omega,fun c=>by omega⟩
    case measure=>simp [intOf]
  ·have cK:=hid (cB.out bf)
   rw [show ((1:Nat):Int)=1 from rfl]
   have ix:∀ W:World,Sem.run Tryz.prog (Instr.index 155 (.agg #[.int .i64 bt,.int .i64 bf,.int .i64 bd]) (.int .i64 1)) W = .ok (.int .i64 bf) W:=fun _=>by kernel_rfl
   go_wp2_with fail
   refine (cK.out _).mono ?_
   rintro e V ⟨ht,hV⟩
   subst hV
   rcases ht.split with ⟨rfl,hn⟩ | ⟨rfl,hy⟩
   ·have E:=hid (show yab bt bf bd=⟨30,1,[]⟩ by unfold yab; rw [if_neg (fun c=>c (p0 (by omega)))]; rw [if_pos hn.out])
    go_wp2
    have F:=((B1.out.set 0 (.int .i64 30)).set 1 (.int .i64 1)).set 2 (.string ⟨#[]⟩)
    have h0:=F.cell 0
    have h1:=F.cell 1
    have h2:=F.cell 2
    simp only [yso,ysm,ysn,ysk,ysl,ysj] at h0 h1 h2
    refine bodyPost_ret (v:=lfA ⟨30,1,[]⟩) ?_ rfl ⟨by rw [E.out],yx G1.out _ (by omega) _ _ _⟩
    clear F z0 z1 z2 f0 f1 f2
    generalize World.setCell _ _ _=WF at *
    simp [results,Tryz.results63,go_sem,lfA,bs,h0,h1,h2]
   ·go_wp2
    go_roundw
    case rel=>exact ⟨2,by omega,by go_num,trivial,fun _=>p0 (by omega),fun _=>hy.out,fun c=>by omega⟩
    case measure=>simp [intOf]
  ·have cK:=hid (cB.out bd)
   rw [show ((2:Nat):Int)=2 from rfl]
   have ix:∀ W:World,Sem.run Tryz.prog (Instr.index 155 (.agg #[.int .i64 bt,.int .i64 bf,.int .i64 bd]) (.int .i64 2)) W = .ok (.int .i64 bd) W:=fun _=>by kernel_rfl
   go_wp2_with fail
   refine (cK.out _).mono ?_
   rintro e V ⟨ht,hV⟩
   subst hV
   rcases ht.split with ⟨rfl,hn⟩ | ⟨rfl,hy⟩
   ·have E:=hid (show yab bt bf bd=⟨30,2,[]⟩ by unfold yab; rw [if_neg (fun c=>c (p0 (by omega))),if_neg (fun c=>c (p1 (by omega)))]; rw [if_pos hn.out])
    go_wp2
    have F:=((B1.out.set 0 (.int .i64 30)).set 1 (.int .i64 2)).set 2 (.string ⟨#[]⟩)
    have h0:=F.cell 0
    have h1:=F.cell 1
    have h2:=F.cell 2
    simp only [yso,ysm,ysn,ysk,ysl,ysj] at h0 h1 h2
    refine bodyPost_ret (v:=lfA ⟨30,2,[]⟩) ?_ rfl ⟨by rw [E.out],yx G1.out _ (by omega) _ _ _⟩
    clear F z0 z1 z2 f0 f1 f2
    generalize World.setCell _ _ _=WF at *
    simp [results,Tryz.results63,go_sem,lfA,bs,h0,h1,h2]
   ·go_wp2
    go_roundw
    case rel=>exact ⟨3,by omega,by go_num,trivial,fun _=>p0 (by omega),fun _=>p1 (by omega),fun _=>hy.out⟩
    case measure=>simp [intOf]
  ·have E:=hid (show yab bt bf bd=Ln.ok by unfold yab; rw [if_neg (fun c=>c (p0 (by omega))),if_neg (fun c=>c (p1 (by omega))),if_neg (fun c=>c (p2 (by omega)))])
   go_wp2
   have F:=((B1.out.set 0 (.int .i64 0)).set 1 (.int .i64 0)).set 2 (.string ⟨#[]⟩)
   have h0:=F.cell 0
   have h1:=F.cell 1
   have h2:=F.cell 2
   simp only [yso,ysm,ysn,ysk,ysl,ysj] at h0 h1 h2
   refine bodyPost_ret (v:=lfA Ln.ok) ?_ rfl ⟨by rw [E.out],yx G1.out _ (by omega) _ _ _⟩
   clear F z0 z1 z2 f0 f1 f2
   generalize World.setCell _ _ _=WF at *
   simp [results,Tryz.results63,go_sem,lfA,Ln.ok,bs,h0,h1,h2]
end Go.Proofs.YtpgklkhgfcjceaaGreatDoor
