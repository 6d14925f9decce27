
import Derived.Test.YtelehpmjhjljgaaGreatDoorV24
set_option maxHeartbeats 16000000
set_option maxRecDepth 100000
namespace Go.Proofs.YtelehpmjhjljgaaGreatDoor
open Go.RowKit
namespace Dl
def fl (G:Nat->Nat->Bool) (a n:Nat):List Bool:=(List.range n).map (G a)
def upd (G:Nat->Nat->Bool) (i k:Nat) (x:Bool):Nat->Nat->Bool:=fun a b=>if a=i/\b=k then x else G a b
theorem kN (G:Nat->Nat->Bool) (a n:Nat):(fl G a n).length=n:=by unfold fl; rw [jc,List.length_range]
theorem qG (G:Nat->Nat->Bool) (a n k:Nat) (h:k < (fl G a n).length):(fl G a n)[k]=G a k:=by simp [fl]
theorem Ea (G:Nat->Nat->Bool) (i n k:Nat) (x:Bool):(fl G i n).set k x=fl (upd G i k x) i n:=by
 apply List.ext_getElem
 ·rw [List.length_set,kN,kN]
 ·intro j h1 h2;rw [qG];unfold upd;by_cases e:k=j
  ·subst e; rw [List.getElem_set_self,if_pos ⟨rfl,rfl⟩]
  ·rw [List.getElem_set_ne e,qG,if_neg (fun c=>e c.2.symm)]
theorem zA (G:Nat->Nat->Bool) (i k a n:Nat) (x:Bool) (h:a≠i):fl (upd G i k x) a n=fl G a n:=by
 unfold fl;apply List.map_congr_left;intro b _;unfold upd;rw [if_neg (fun c=>h c.1)]
end Dl
theorem Tryz.wP:(Tryz.prog.info? 85).map (fun i=>(i.zero,i.size,i.bytes))=some (some (.slice none 0 0),1,24):=by kernel_rfl
def Cj (b n:Nat):Value:=.slice (some ⟨b,0,none⟩) n n
structure yK (w:World) (v:Value) (bl ns:List Nat) (G:Nat->Nat->Bool) (W:World):Prop where
 row:W.ownsRow w.heap.size 85 1 v bl.length (List.zipWith Cj bl ns)
 len:bl.length=ns.length
 blk:∀ i (h:i < bl.length) (h':i < ns.length),kL W bl[i] (Dl.fl G i ns[i])
 nd:bl.Nodup
 lo:∀ b∈bl,w.heap.size<=b/\b < W.heap.size
 gr:w.grownBy W none
section
variable {w W W' w3:World} {v v':Value} {bl ns:List Nat} {G G':Nat->Nat->Bool}
theorem yK.kept (h:yK w v bl ns G W) (hg:W.grownBy W' none):yK w v bl ns G W' :=
 ⟨sU h.row hg,h.len,fun i h1 h2=>ye.grown (h.blk i h1 h2) hg (by simp),h.nd,fun b hb=>⟨(h.lo b hb).1,Nat.lt_of_lt_of_le (h.lo b hb).2 hg.size⟩,ya h.gr hg⟩
theorem yK.put (h:yK w v bl ns G W) (i k:Nat) (hi:i < bl.length) (x:Bool):yK w v bl ns (Dl.upd G i k x) (W.setCell ⟨bl[i],k,none⟩ (.bool x)):=by
 have hi2:i < ns.length:=by rw [<- h.len]; exact hi
 have GS:=yi W bl[i] k (.bool x);have RT:=aW.blk (h.blk i hi hi2);refine ⟨yw h.row GS RT (by decide),h.len,fun j h1 h2=>?_,h.nd,fun b hb=>⟨(h.lo b hb).1,Nat.lt_of_lt_of_le (h.lo b hb).2 GS.size⟩,yD h.gr GS (by intro b hb; simp at hb; subst hb; exact (h.lo _ (dM hi)).1)⟩;by_cases e:j=i
 ·subst e;rw [<- Dl.Ea];exact (h.blk j h1 h2).set k x
 ·rw [Dl.zA G i k j ns[j] x e];refine ye.grown (h.blk j h1 h2) GS ?_;intro c;simp only [Option.some.injEq] at c;exact R4 h.nd h1 hi e c
theorem yK.more {X n:Nat} (h:yK w v bl ns (fun _ _=>false) W) (hX:kL W X (List.replicate n false)) (Jv:w.heap.size<=X) (Ei:∀ b∈bl,b≠X) (hg:W.grownBy w3 v.ownBlock) (hn:w3.ownsRow w.heap.size 85 1 v' (bl.length+1) (List.zipWith Cj bl ns ++ [Cj X n])) :
  yK w v' (bl ++ [X]) (ns ++ [n]) (fun _ _=>false) w3:=by
 have RT:=aW.own h.row;have hsz:=hg.size;have x3:=yy hX hg RT (by decide);refine ⟨?_,by simp [h.len],?_,?_,?_,yD h.gr hg (fun b hb=>(h.row.lt b hb).1)⟩
 ·rw [fE,List.zipWith_append h.len];exact hn
 ·intro i h1 h2;by_cases c:i < bl.length
  ·have c2:i < ns.length:=by rw [<- h.len]; exact c
   rw [List.getElem_append_left c,List.getElem_append_left c2];exact yy (h.blk i c c2) hg RT (by decide)
  ·rw [fE,o7] at h1;obtain rfl:i=bl.length:=by omega
   rw [List.getElem_append_right (Nat.le_refl _),List.getElem_append_right (by rw [h.len]; exact Nat.le_refl _)];simp only [Nat.sub_self,List.getElem_singleton];have e:Dl.fl (fun _ _=>false) bl.length n=List.replicate n false:=by
    unfold Dl.fl;rw [List.map_const',List.length_range]
   simp only [h.len];rw [<- h.len,e];exact x3
 ·rw [List.nodup_append];refine ⟨h.nd,by simp,fun a ha b hb=>?_⟩;simp only [List.mem_singleton] at hb;subst hb;exact Ei a ha
 ·intro b hb;rcases List.mem_append.1 hb with hb | hb
  ·have:=h.lo b hb
   exact ⟨this.1,Nat.lt_of_lt_of_le this.2 hsz⟩
  ·simp only [List.mem_singleton] at hb;subst hb;exact ⟨Jv,ye.lt x3⟩
theorem yK.cells {ao:Option Addr} {n cap:Nat} (h:yK w (.slice ao n cap) bl ns G W) (h0:0 < bl.length):∃ g,ao=some ⟨g,0,none⟩/\n=bl.length/\∀ i (hi:i < bl.length) (hi2:i < ns.length),W.cell? ⟨g,i,none⟩=some (Cj bl[i] ns[i]):=by
 rcases h.row.2 with ⟨h1,h2⟩ | ⟨g,cap',cur,hv,_⟩
 ·omega
 ·simp only [Value.slice.injEq] at hv;obtain ⟨rfl,rfl,rfl⟩:=hv;refine ⟨g,rfl,rfl,fun i hi hi2=>?_⟩;have q:=h.row.cellAt i (by omega);rw [q,gy (by rw [List.length_zipWith]; omega),List.getElem_zipWith]
end
theorem ynu (ao:Option Addr) (cap:Nat) (gl:List Nat) (os:List Lk.Obj) (w:World) (h:qx w ao gl os) :
  Calls Tryz.prog 32 #[.slice ao gl.length cap] w fun e w'=>∃ v bl,e = .returned v/\yK w v bl (os.map fun o=>o.aj.length) (fun _ _=>false) w':=by
 obtain ⟨i1,hi1,hy0,hy1,hy2⟩:=info_parts Tryz.oq;obtain ⟨i2,hi2,hx0,hx1,hx2⟩:=info_parts Tryz.wP;have H:=hid h;have HL:=hid h.len;have hgl:gl.length<=48:=by rw [h.len]; exact h.few
 clear h;have F0:=hid (show yK w (.slice none 0 0) [] ((os.take 0).map fun o=>o.aj.length) (fun _ _=>false) w from ⟨World.ownsRow_nil _ _ _ _,rfl,fun i h1 _=>by simp at h1,by simp,fun b hb=>by simp at hb,World.grownBy.refl _ _⟩);go_enter Tryz.func32,Tryz.ntmps32;go_wp2
 go_loopw [3,4] (fun v i wr=>∃ (k:Nat) (bl:List Nat),k<=gl.length/\i = .int .i64 k/\yK w v bl ((os.take k).map fun o=>o.aj.length) (fun _ _=>false) wr) (fun _ i _=>gl.length - (intOf i).toNat)
 case atStart=>exact ⟨0,[],Nat.zero_le _,rfl,F0.o⟩
 case round =>
  clear F0;obtain ⟨k,bl,hk,rfl,hf⟩:=hrel;have F:=hid hf;obtain ⟨av,cv,rfl⟩:=yj hf.row;have hbl:bl.length<=48:=by
   have:=hf.len
   rw [jc,List.length_take] at this;omega
  clear hf;by_cases hlt:k < gl.length
  ·have hko:k < os.length:=by rw [<- HL.o]; exact hlt
   obtain ⟨g0,off,hao,hc⟩:=H.o.ptrs (by omega);subst hao;have ck:=yc (hc k hlt) F.o.gr;obtain ⟨at_,ct,af,cf,ad,cd,wm,wD,gF,cs,ar,cr,hb,-,-,-,-,-,q6⟩:=(H.o.obj k hlt hko).open;have k6:=(hb.grown F.o.gr (by simp)).cell 6;simp only [dH,dL,dK] at k6;have wM:=(H.o.val os[k] (dM hko)).jU;have NS:=hid (show (os.take (k+1)).map (fun o=>o.aj.length)=(os.take k).map (fun o=>o.aj.length) ++ [os[k].aj.length] by rw [List.take_succ_eq_append_getElem hko,List.map_append]; rfl);have hsw:=F.o.gr.size;clear hc hb q6;generalize os[k].aj.length=nr at *;generalize gl[k]=bk at *;have g1:(k:Int) < (gl.length:Int):=by omega
   go_wp2_with (first
    | (at_make; refine wpList_make_full _ rfl _ _ 85 rfl w.heap.size 4 i1 (.bool false) 1 Tryz.underlying85 hi1 hy0 hy1 .i64 .i64 _ _ nr rfl rfl rfl rfl (by rw [hy2]; omega) (by unfold maxLen; omega) hsw ?_; intro w2 hown2 hg2; have F2:=hid (F.o.kept hg2); have IX:=hid (XF hown2); have hs2:=hg2.size; have Ei:=hid (fun b (hb:b∈bl)=>show b≠wr.heap.size from fun c=>by have:=(F.o.lo b hb).2; omega); clear hown2 hg2)
    | (at_builtin; refine wpList_append_own_at _ rfl _ _ 41 rfl w.heap.size 85 i2 (.slice none 0 0) 1 24 Tryz.underlying41 hi2 hx0 hx1 hx2 rfl (by decide) _ _ _ rfl (F2.o.row.alloc _) ⟨w2.heap.size,0,none⟩ 1 1 [Cj wr.heap.size nr] rfl rfl (C9 _ _ _) (by intro u hu; simp at hu; rcases hu with rfl; rfl) (by unfold maxLen; omega) (by omega) (by simp; omega) ?_; intro v' w3 hown' hgrow _ hat; have F3:=hid ((F2.o.kept (aH w2 (.cells #[Cj wr.heap.size nr] 85) none)).more (ye.grown IX.o (aH w2 (.cells #[Cj wr.heap.size nr] 85) none) (by simp)) hsw Ei.o hgrow hown'); obtain ⟨jN,cv',rfl⟩:=yj hown'; clear hgrow hown' hat))
   go_roundw
   case rel=>exact ⟨k+1,bl ++ [wr.heap.size],by omega,by go_num,by rw [NS.o]; exact F3.o⟩
   case measure=>simp [intOf]; omega
  ·obtain rfl:k=gl.length:=by omega
   have g3:decide ((gl.length:Int) < (gl.length:Int))=false:=by simp
   have F9:=hid F.o;rw [HL.o,List.take_length] at F9;clear F;go_wp2;go_ret;exact ⟨_,bl,rfl,F9.o⟩
namespace Dl
def qM (os:List Lk.Obj) (i k:Nat):Lk.Rel:=((os[i]?.map (·.aj)).getD []).getD k ⟨0,0,0,0,0⟩
def Ey (os:List Lk.Obj) (T:Nat->Nat->List Int) (i k:Nat):Int:=addr os T (means os i (qM os i k).sym.toNat)
def place (os:List Lk.Obj) (T:Nat->Nat->List Int) (i k:Nat):Int:=(T i (qM os i k).ah.toNat).getD ((qM os i k).off / 4).toNat 0
def dist (os:List Lk.Obj) (T:Nat->Nat->List Int) (i k:Nat):Int:=Ey os T i k - place os T i k
def iM (os:List Lk.Obj) (T:Nat->Nat->List Int) (i k:Nat):Bool:=decide ((qM os i k).kind=4) && (decide (-1015808 < dist os T i k) && decide (dist os T i k < 1015808))
end Dl
theorem Nn {os:List Lk.Obj} {i k:Nat} (hi:i < os.length) (hk:k < os[i].aj.length):Dl.qM os i k=os[i].aj[k]:=by
 unfold Dl.qM;rw [gy hi,Option.map_some,Option.getD_some,iJ,gy hk,Option.getD_some]
theorem Ze {ms:List Ln.Mod} (bt bf bd:Int) (i s:Nat) (h:i < (ms.map Ln.Mod.obj).length):(Dl.tab bt bf bd ms i s).length=(eZ ((ms.map Ln.Mod.obj)[i]) s).length+1:=by
 have key:∀ (ms:List Ln.Mod) (a:Int) (i:Nat) (h:i < ms.length),((Dl.dA s ms a).getD i []).length=(eZ ms[i].obj s).length+1:=by
  intro ms
  induction ms with
  | nil=>intro a i h; exact absurd h (Nat.not_lt_zero _)
  | cons m r ih =>
   intro a i h;rw [Dl.dA]
   cases i with
   | zero=>exact QO m s _ 0 _
   | succ i=>exact ih _ i (by simpa using h)
 have h':i < ms.length:=by simpa using h
 rw [List.getElem_map];exact key ms _ i h'
theorem Zf {ms:List Ln.Mod} {bt bf bd:Int} (hv:∀ m∈ms,yp m.obj) (hl:ms.length<=48) (ht:0<=bt/\bt<=1073741824) (hf:0<=bf/\bf<=1073741824) (hd:0<=bd/\bd<=1073741824) (i s k:Nat) (h1:1<=s) (h4:s<=4):0<=(Dl.tab bt bf bd ms i s).getD k 0/\(Dl.tab bt bf bd ms i s).getD k 0<=2147483648:=by
 have e3:=Dl.iC 3 (by omega) (by omega) ms bd hv hd.1 (by omega);have fr:0<=Dl.bN bt bf bd ms s/\Dl.bN bt bf bd ms s<=1074741824:=by
  unfold Dl.bN;split
  ·omega
  ·split
   ·omega
   ·split <;> omega
 have key:=Dl.uL s h1 h4 ms (Dl.bN bt bf bd ms s) hv fr.1 (by omega);unfold Dl.tab;generalize Dl.dA s ms (Dl.bN bt bf bd ms s)=A at *;rw [iJ,iJ]
 cases hA:A[i]? with
 | none=>simp
 | some l =>
  rw [Option.getD_some]
  cases hx:l[k]? with
  | none=>simp
  | some x =>
   rw [Option.getD_some]
   have:=key l (List.mem_of_getElem? hA) x (List.mem_of_getElem? hx)
   omega
theorem yiw {w W:World} {ao:Option Addr} {n cap:Nat} {bl:List Nat} {ms:List Ln.Mod} (h:yK w (.slice ao n cap) bl ((ms.map Ln.Mod.obj).map fun o=>o.aj.length) (fun _ _=>false) W) (hs:∀ m∈ms,m.short=[]):vO W ao ms.length ms:=by
 have hl:bl.length=ms.length:=by rw [h.len]; simp
 refine ⟨fun hp=>?_,rfl⟩;obtain ⟨g,e,-,hc⟩:=h.cells (by omega);refine ⟨g,0,e,fun i hi=>?_⟩;have q:=hc i (by omega) (by simp; exact hi);refine ⟨some ⟨bl[i],0,none⟩,ms[i].obj.aj.length,List.replicate ms[i].obj.aj.length false,?_,?_,?_⟩
 ·rw [Nat.zero_add,q];simp [Cj]
 ·intro h0;refine ⟨bl[i],0,rfl,fun k hk=>?_⟩;have b:=h.blk i (by omega) (by simp; exact hi);have c:=b.cell k (by rw [Dl.kN]; simpa using hk);rw [Nat.zero_add,c,Dl.qG];simp
 ·refine ⟨by simp,fun k hk=>?_⟩;unfold Ln.dY;rw [hs ms[i] (dM hi)];simp
def Dl.part (F:Nat->Nat->Bool) (i k:Nat):Nat->Nat->Bool:=fun a b=>if a < i\/(a=i/\b < k) then F a b else false
theorem Dl.zV (F:Nat->Nat->Bool) (i k:Nat):Dl.upd (Dl.part F i k) i k (F i k)=Dl.part F i (k+1):=by
 funext a b
 unfold Dl.upd Dl.part;by_cases c:a=i/\b=k
 ·obtain ⟨rfl,rfl⟩:=c;rw [if_pos ⟨rfl,rfl⟩,if_pos (.inr ⟨rfl,by omega⟩)]
 ·rw [if_neg c];by_cases d:a < i\/(a=i/\b < k)
  ·rw [if_pos d,if_pos (by omega)]
  ·rw [if_neg d,if_neg (by omega)]
theorem Dl.wV (F:Nat->Nat->Bool) (i k:Nat) (h:F i k=false):Dl.part F i k=Dl.part F i (k+1):=by
 funext a b
 unfold Dl.part;by_cases d:a < i\/(a=i/\b < k)
 ·rw [if_pos d,if_pos (by omega)]
 ·rw [if_neg d];by_cases c:a=i/\b=k
  ·obtain ⟨rfl,rfl⟩:=c;rw [if_pos (.inr ⟨rfl,by omega⟩),h]
  ·rw [if_neg (by omega)]
theorem yK.next {w W:World} {v:Value} {bl ns:List Nat} {F:Nat->Nat->Bool} {i:Nat} (h:yK w v bl ns (Dl.part F i (ns.getD i 0)) W):yK w v bl ns (Dl.part F (i+1) 0) W:=by
 refine ⟨h.row,h.len,fun a h1 h2=>?_,h.nd,h.lo,h.gr⟩;have e:Dl.fl (Dl.part F (i+1) 0) a ns[a]=Dl.fl (Dl.part F i (ns.getD i 0)) a ns[a]:=by
  unfold Dl.fl;apply List.map_congr_left;intro b hb;rw [List.mem_range] at hb;unfold Dl.part;by_cases c:a=i
  ·subst c;rw [iJ,gy h2,Option.getD_some,if_pos (by omega),if_pos (by omega)]
  ·by_cases d:a < i
   ·rw [if_pos (by omega),if_pos (by omega)]
   ·rw [if_neg (by omega),if_neg (by omega)]
 rw [e];exact h.blk a h1 h2
theorem yK.all {w W:World} {v:Value} {bl ns:List Nat} {F:Nat->Nat->Bool} {n:Nat} (h:yK w v bl ns (Dl.part F n 0) W) (hn:ns.length<=n):yK w v bl ns F W:=by
 refine ⟨h.row,h.len,fun a h1 h2=>?_,h.nd,h.lo,h.gr⟩;have e:Dl.fl F a ns[a]=Dl.fl (Dl.part F n 0) a ns[a]:=by
  unfold Dl.fl;apply List.map_congr_left;intro b _;unfold Dl.part;rw [if_pos (by omega)]
 rw [e];exact h.blk a h1 h2
theorem Sb {w:World} {P:Nat} {ao:Option Addr} {gl:List Nat} {os:List Lk.Obj} {T:Nat->Nat->List Int} {es:List Int} (h:Laid w P ao gl os T es) {i k:Nat} (hi:Dl.iP os (i,k)):0<=Dl.addr os T (Dl.means os i k)/\Dl.addr os T (Dl.means os i k)<=2147483648:=by
 cases hm:Dl.means os i k with
 | none=>exact ⟨Int.le_refl _,show (0:Int)<=2147483648 by decide⟩
 | some p =>
  obtain ⟨q1,q2⟩:=Rv h.parts.val hi hm;have l:=Si h q1 q2;exact h.rng p.1 _ _ (by have:=l.2.1; omega) (by have:=l.2.1; omega)
theorem Dl.wW (F:Nat->Nat->Bool):Dl.part F 0 0=fun _ _=>false:=by
 funext a b
 unfold Dl.part;rw [if_neg (by omega)]
theorem yjQ (ao:Option Addr) (cap:Nat) (gl:List Nat) (ms:List Ln.Mod) (bt bf bd:Int) (w:World) (h:qx w ao gl (ms.map Ln.Mod.obj)) (hms:∀ m∈ms,m.short=[]) (ht:0<=bt/\bt<=1073741824) (hf:0<=bf/\bf<=1073741824) (hd:0<=bd/\bd<=1073741824) :
  Calls Tryz.prog 13 #[.slice ao gl.length cap,.agg #[.int .i64 bt,.int .i64 bf,.int .i64 bd]] w fun e w'=>∃ v bl,e = .returned v/\yK w v bl ((ms.map Ln.Mod.obj).map fun o=>o.aj.length) (Dl.iM (ms.map Ln.Mod.obj) (Dl.tab bt bf bd ms)) w':=by
 have H:=hid h;have hgl:gl.length<=48:=by rw [h.len]; exact h.few
 have A8:=hid (show gl.length=ms.length by rw [h.len,jc]);have hml:ms.length<=48:=by have:=A8.o; omega
 have HV:=hid (fun m (hm:m∈ms)=>show yp m.obj from h.val _ (List.mem_map.2 ⟨m,hm,rfl⟩));have Le:=hid (fun i s (h:i < (ms.map Ln.Mod.obj).length) (_:1<=s) (_:s<=4)=>Ze bt bf bd i s h);have Jb:=hid (fun i s k (h1:1<=s) (h4:s<=4)=>Zf HV.o hml ht hf hd i s k h1 h4);have cN:=hid (fun W (hg:w.grownBy W none)=>ynu ao cap gl (ms.map Ln.Mod.obj) W (h.kept hg));have cL:=hid (fun lF pF W (hg:w.grownBy W none) (hs:vO W lF gl.length ms)=>Yo ao cap gl ms bt bf bd lF pF W (h.kept hg) hs ht hf hd);have MS:=hid hms;clear h hms;generalize hT:Dl.tab bt bf bd ms=T at *;clear hT;generalize hO:ms.map Ln.Mod.obj=os at *
 have HO:=hid hO;clear hO;generalize ([0,Dl.ends bt bf bd ms 1,Dl.ends bt bf bd ms 2,Dl.ends bt bf bd ms 3,Dl.ends bt bf bd ms 4]:List Int)=es at *;have GB:=hid (aH w (.cells #[.int .i64 bt,.int .i64 bf,.int .i64 bd] 27) none);have BB:=hid (ye.new w #[.int .i64 bt,.int .i64 bf,.int .i64 bd] 27);go_enter Tryz.func13,Tryz.ntmps13
 go_upto_region 1 with fail
 generalize w.alloc (.cells #[.int .i64 bt,.int .i64 bf,.int .i64 bd] 27)=W1 at *
 go_upto_region 2 with (go_at_call 32; refine (cN.o _ GB.o).mono ?_; rintro e W2 ⟨v2,jO,rfl,hf2⟩)
 have F2:=hid hf2;obtain ⟨a2,c2,rfl⟩:=yj hf2.row;clear hf2;have G2:=hid (ya GB.o F2.o.gr)
 go_upto_region 3 with (go_at_call 32; refine (cN.o _ G2.o).mono ?_; rintro e W3 ⟨v3,bl3,rfl,hf3⟩)
 have F3:=hid hf3;obtain ⟨a3,c3,rfl⟩:=yj hf3.row;have hb3:bl3.length=gl.length:=by rw [hf3.len,jc,<- HO.o,jc,<- A8.o]
 have HB3:=hid hb3;clear hf3 cN;have Te:=hid (F2.o.kept F3.o.gr);have G3:=hid (ya G2.o F3.o.gr);have SH:=hid (show vO W3 a3 gl.length ms by rw [A8.o]; exact yiw (by rw [HO.o]; exact F3.o) MS.o);have vT:=hid (BB.o.grown (ya F2.o.gr F3.o.gr) (by simp));have bb0:W3.cell? ⟨w.heap.size,0,none⟩=some (.int .i64 bt):=vT.o.cell 0;have bb1:W3.cell? ⟨w.heap.size,1,none⟩=some (.int .i64 bf):=vT.o.cell 1;have bb2:W3.cell? ⟨w.heap.size,2,none⟩=some (.int .i64 bd):=vT.o.cell 2;have Vr:=hid (cL.o a3 c3 W3 G3.o SH.o);rw [hb3];clear cL F2 F3 BB hb3;go_wp2_with fail;refine Vr.o.mono ?_;rintro e W4 ⟨va,L,E,bl,rfl,Jy,hla⟩
 have Uq:=hid (hla.low G3.o);have F4:=hid (Te.o.kept hla.gr);have Ag:=hid Jy;obtain ⟨av,cv,rfl⟩:=yj hla.row;clear hla Vr bb0 bb1 bb2 SH Jy Te;have GP:=hid (aH W4 (.cells #[.slice av bl.length cv,.slice (some ⟨E,0,none⟩) 5 5] 45) none);have BP:=hid (ye.new W4 #[.slice av bl.length cv,.slice (some ⟨E,0,none⟩) 5 5] 45)
 go_upto_region 4 with fail
 have Ur:=hid (Uq.o.kept GP.o);have F5:=hid ((show yK w (.slice a2 jO.length c2) jO (os.map fun o=>o.aj.length) (Dl.part (Dl.iM os T) 0 0) W4 by
  rw [Dl.wW];have f:=F4.o;exact ⟨Kr f.row GB.o.size,f.len,f.blk,f.nd,fun b hb=>⟨Nat.le_trans GB.o.size (f.lo b hb).1,(f.lo b hb).2⟩,ya GB.o f.gr⟩).kept GP.o)
 clear F4 Uq GP;generalize W4.alloc (.cells #[.slice av bl.length cv,.slice (some ⟨E,0,none⟩) 5 5] 45)=W5 at *;generalize W4.heap.size=P at *;have Og:Hd (jO.length=gl.length/\os.length=gl.length):=by
  have h1:=F5.o.len;rw [jc] at h1;have h2:=H.o.len;exact ⟨by omega,by omega⟩
 have LD:=hid (fun (W:World) (hL:jL w L E (.slice av bl.length cv) bl es (fun _ s=>1<=s/\s<=4) T W) (hP:ye W P #[.slice av bl.length cv,.slice (some ⟨E,0,none⟩) 5 5] 45)=>show Laid W P ao gl os T es from ⟨H.o.kept hL.gr,o8.of hL hP (by rw [Ag.o,<- A8.o]),Le.o,Jb.o⟩);obtain ⟨F,hF⟩:∃ F,F=Dl.iM os T:=⟨_,rfl⟩
 rw [<- hF] at F5;have HF:=hid hF;clear hF;go_wp2
 go_loopw [8] (fun i wr=>∃ k:Nat,k<=gl.length/\i = .int .i64 k/\yK w (.slice a2 jO.length c2) jO (os.map fun o=>o.aj.length) (Dl.part F k 0) wr/\jL w L E (.slice av bl.length cv) bl es (fun _ s=>1<=s/\s<=4) T wr/\ye wr P #[.slice av bl.length cv,.slice (some ⟨E,0,none⟩) 5 5] 45) (fun i _=>gl.length - (intOf i).toNat)
 case atStart=>exact ⟨0,Nat.zero_le _,rfl,F5.o,Ur.o,BP.o⟩
 case round =>
  clear F5 Ur BP;obtain ⟨k,hk,rfl,hfl,hla,hbp⟩:=hrel;have FL:=hid hfl;have LA:=hid hla;have BP:=hid hbp;clear hfl hla hbp;by_cases hlt:k < gl.length
  ·have hko:k < os.length:=by have:=Og.o.2; omega
   have hkb:k < jO.length:=by have:=Og.o.1; omega
   obtain ⟨g0,off,hao,hc⟩:=H.o.ptrs (by omega);subst hao;have CK:=hid (hc k hlt);obtain ⟨at_,ct,af,cf,ad,cd,wm,wD,gF,cs,ar,cr,hb,-,-,-,-,-,q6⟩:=(H.o.obj k hlt hko).open;have RI:=hid (lX.aB q6);have HB:=hid hb;have VK:=hid (H.o.val os[k] (dM hko));have wM:=VK.o.jU;have NSK:=hid (show (os.map fun o=>o.aj.length).getD k 0=os[k].aj.length by rw [iJ,List.getElem?_map,gy hko]; rfl);have g1:(k:Int) < (gl.length:Int):=by omega
   clear hc hb q6;go_wp2
   go_loopw [9] (fun i wr=>∃ j:Nat,j<=os[k].aj.length/\i = .int .i64 j/\yK w (.slice a2 jO.length c2) jO (os.map fun o=>o.aj.length) (Dl.part F k j) wr/\jL w L E (.slice av bl.length cv) bl es (fun _ s=>1<=s/\s<=4) T wr/\ye wr P #[.slice av bl.length cv,.slice (some ⟨E,0,none⟩) 5 5] 45) (fun i _=>os[k].aj.length - (intOf i).toNat)
   case atStart=>exact ⟨0,Nat.zero_le _,rfl,FL.o,LA.o,BP.o⟩
   case round =>
    clear FL LA BP;obtain ⟨j,hj,rfl,hfl,hla,hbp⟩:=hrel;have FL:=hid hfl;have LA:=hid hla;have BP:=hid hbp;clear hfl hla hbp;have ck:=yc CK.o FL.o.gr;have k6:=(HB.o.grown FL.o.gr (by simp)).cell 6;simp only [dH,dL,dK] at k6;by_cases hlt2:j < os[k].aj.length
    ·obtain ⟨rg,hrg,-,hrc⟩:=RI.o.grown FL.o.gr (by omega);subst hrg;obtain ⟨-,-,r2,-,-⟩:=hrc j hlt2;have g2:(j:Int) < (os[k].aj.length:Int):=by omega
     have RE:=Nn hko hlt2;have FD:=hid (show F k j=(decide (os[k].aj[j].kind=4) && (decide (-1015808 < Dl.dist os T k j) && decide (Dl.dist os T k j < 1015808))) by rw [HF.o]; unfold Dl.iM; rw [RE]);have ro:=VK.o.rel j hlt2;clear hrc;by_cases e4:os[k].aj[j].kind=4
     ·have hsx:0<=os[k].aj[j].sym/\os[k].aj[j].sym < os[k].syms.length:=by
       have:=ro.2.2.1
       unfold jw at this;rw [if_neg (by omega)] at this;exact this
      obtain ⟨sy,hsy⟩:=Int.eq_ofNat_of_zero_le hsx.1;have hss:sy < os[k].syms.length:=by omega
      have sw:=ro.1;unfold yH at sw;have cT:=hid (fun W hL hP=>QL P (some ⟨g0,off,none⟩) cap gl os T es k j sy W (LD.o W hL hP) hko hlt2 hsy hss);have cP:=hid (fun W hL hP=>Rh P (some ⟨g0,off,none⟩) cap gl os T es k j W (LD.o W hL hP) hko hlt2);have tr:=Sb (LD.o wr LA.o BP.o) (i:=k) (k:=sy) ⟨hko,hss⟩;have pr:=Jb.o k os[k].aj[j].ah.toNat (os[k].aj[j].off / 4).toNat (by omega) (by omega)
      have DI:=hid (show Dl.dist os T k j=Dl.addr os T (Dl.means os k sy) - (T k os[k].aj[j].ah.toNat).getD (os[k].aj[j].off / 4).toNat 0 by unfold Dl.dist Dl.Ey Dl.place; rw [RE,hsy,Int.toNat_natCast]);have d1:(os[k].aj[j].kind == 4)=true:=by simpa using e4
      have d2:(os[k].aj[j].kind != 4)=false:=by simpa using e4
      have KJ:=hid (show F k j=(decide (-1015808 < Dl.dist os T k j) && decide (Dl.dist os T k j < 1015808)) by rw [FD.o,decide_eq_true e4,Bool.true_and]);clear ro RE hsx hsy hss sw FD;generalize Dl.dist os T k j=dd at *;generalize Dl.addr os T (Dl.means os k sy)=tg at *;generalize (T k os[k].aj[j].ah.toNat).getD (os[k].aj[j].off / 4).toNat 0=pg at *;generalize os[k].aj[j].kind=kd at *;generalize hbk':gl[k]=bk at *
      go_upto_region 12 with (go_at_call 33; refine (cT.o _ LA.o BP.o).mono ?_; rintro e V1 ⟨rfl,hv1⟩)
      have Tg:=hid (FL.o.kept hv1);have FE:=hid (LA.o.kept hv1);have Nu:=hid (BP.o.grown hv1 (by simp));clear hv1 cT r2 k6 ck FL LA BP
      go_upto_region 13 with (go_at_call 34; refine (cP.o _ FE.o Nu.o).mono ?_; rintro e V2 ⟨rfl,hv2⟩)
      have Ae:=hid (Tg.o.kept hv2);have A9:=hid (FE.o.kept hv2);have SV:=hid (Nu.o.grown hv2 (by simp));clear hv2 cP Tg FE Nu;have w1:IntKind.i64.wrap (tg - pg)=tg - pg:=IntWalk.i64_in _ ⟨by omega,by omega⟩;obtain ⟨gc,hgc,-,hcc⟩:=Ae.o.cells (by omega);subst hgc;have hkn:k < (os.map fun o=>o.aj.length).length:=by rw [jc]; exact hko
      have c0:=hcc k hkb hkn;rw [List.getElem_map] at c0;unfold Cj at c0;have cj:=(Ae.o.blk k hkb hkn).cell j (by rw [Dl.kN,List.getElem_map]; exact hlt2);have fj:=ye.free (Ae.o.blk k hkb hkn) j;have hkb':(k:Int) < (jO.length:Int):=by omega
      have DT:=aW.blk (Ae.o.blk k hkb hkn);have hlb:=(Ae.o.lo jO[k] (dM hkb)).1;have FIN:=hid (fun (x:Bool) (hx:x=F k j)=>show yK w (.slice (some ⟨gc,0,none⟩) jO.length c2) jO (os.map fun o=>o.aj.length) (Dl.part F k (j+1)) (V2.setCell ⟨jO[k],j,none⟩ (.bool x))/\jL w L E (.slice av bl.length cv) bl es (fun _ s=>1<=s/\s<=4) T (V2.setCell ⟨jO[k],j,none⟩ (.bool x))/\ye (V2.setCell ⟨jO[k],j,none⟩ (.bool x)) P #[.slice av bl.length cv,.slice (some ⟨E,0,none⟩) 5 5] 45 by
       have q:=Ae.o.put k j hkb x;rw [hx,Dl.zV] at q;rw [hx];have GS:=yi V2 jO[k] j (.bool (F k j));exact ⟨q,A9.o.ty GS DT (by intro b e; simp at e; omega) (by decide) (by decide) (by decide) (by decide),yy SV.o GS DT (by decide)⟩)
      clear hcc DT hlb Ae A9 SV;generalize hbq:jO[k]=bq at *;by_cases hd0:tg - pg < 0
      ·have d5:decide (tg - pg < 0)=true:=by simpa using hd0
       have w2:IntKind.i64.wrap (-(tg - pg)) = -(tg - pg):=IntWalk.i64_in _ ⟨by omega,by omega⟩;have FX:=hid (FIN.o (decide (-(tg - pg) < 1015808)) (by
        rw [KJ.o,DI.o];by_cases c:-(tg - pg) < 1015808
        ·rw [decide_eq_true c,decide_eq_true (show -1015808 < tg - pg by omega),decide_eq_true (show tg - pg < 1015808 by omega)]; rfl
        ·rw [decide_eq_false c,decide_eq_false (show ¬ -1015808 < tg - pg by omega)]; rfl))
       clear FIN KJ DI hd0;go_wp2
       go_roundw
       case rel=>exact ⟨j+1,by omega,by go_num,FX.o.1,FX.o.2.1,FX.o.2.2⟩
       case measure=>simp [intOf]; omega
      ·have d5:decide (tg - pg < 0)=false:=by simpa using hd0
       have FX:=hid (FIN.o (decide (tg - pg < 1015808)) (by
        rw [KJ.o,DI.o,decide_eq_true (show -1015808 < tg - pg by omega),Bool.true_and]))
       clear FIN KJ DI hd0;go_wp2
       go_roundw
       case rel=>exact ⟨j+1,by omega,by go_num,FX.o.1,FX.o.2.1,FX.o.2.2⟩
       case measure=>simp [intOf]; omega
     ·have d1:(os[k].aj[j].kind == 4)=false:=by simpa using e4
      have d2:(os[k].aj[j].kind != 4)=true:=by simpa using e4
      have FS:=hid (Dl.wV F k j (by rw [FD.o,decide_eq_false e4]; rfl));have Ae:=hid FL.o;rw [FS.o] at Ae;clear e4 ro RE;generalize os[k].aj[j].kind=kd at *;generalize gl[k]=bk at *;go_wp2
      go_roundw
      case rel=>exact ⟨j+1,by omega,by go_num,Ae.o,LA.o,BP.o⟩
      case measure=>simp [intOf]; omega
    ·obtain rfl:j=os[k].aj.length:=by omega
     have g3:decide ((os[k].aj.length:Int) < (os[k].aj.length:Int))=false:=by simp
     have FN:=hid (show yK w (.slice a2 jO.length c2) jO (os.map fun o=>o.aj.length) (Dl.part F (k+1) 0) wr from yK.next (by rw [NSK.o]; exact FL.o));generalize gl[k]=bk at *;go_wp2
     go_roundw
     case rel=>exact ⟨k+1,by omega,by go_num,FN.o,LA.o,BP.o⟩
     case measure=>simp [intOf]; omega
  ·obtain rfl:k=gl.length:=by omega
   have g3:decide ((gl.length:Int) < (gl.length:Int))=false:=by simp
   have FN:=hid (FL.o.all (by rw [jc]; have:=Og.o.2; omega));rw [HF.o] at FN;go_wp2;go_ret;exact ⟨_,jO,rfl,FN.o⟩
namespace Dl
theorem uQ {m:Ln.Mod} (h:yp m.obj) (s:Int) (hs:s=3\/s=4) (off c:Int):Ln.stays m s off c=true:=by
 have key:(Ln.aG s off 0 m.obj.aj).2.kind=0\/(Ln.aG s off 0 m.obj.aj).2.kind=1:=by
  have K:∀ (rs:List Lk.Rel) (k:Nat),(∀ r∈rs,yH r)->(Ln.aG s off k rs).2.kind=0\/(Ln.aG s off k rs).2.kind=1:=by
   intro rs
   induction rs with
   | nil=>intro k _; exact .inl rfl
   | cons r rs ih =>
    intro k hr;rw [Ln.aG];split
    ·rename_i c
     have:=hr r List.mem_cons_self
     unfold yH at this;dsimp only;omega
    ·exact ih (k+1) fun x hx=>hr x (List.mem_cons_of_mem _ hx)
  refine K m.obj.aj 0 fun r hr=>?_
  obtain ⟨i,hi,rfl⟩:=List.getElem_of_mem hr;exact (h.rel i hi).1
 unfold Ln.stays;rw [if_neg (by omega),if_neg (by omega)]
theorem jd {m:Ln.Mod} (h:yp m.obj) (s:Int) (hs:s=3\/s=4):∀ (ws:List Int) (i:Nat) (a:Int),(∀ k,k<=ws.length->(Ln.aA m s i ws a).getD k 0=a+4 * k)/\Ln.aL m s i ws a=a+4 * ws.length:=by
 intro ws
 induction ws with
 | nil =>
  intro i a;refine ⟨fun k hk=>?_,by rw [Ln.aL]; simp⟩;obtain rfl:k=0:=by simpa using hk
  rw [Ln.aA];simp
 | cons x ws ih =>
  intro i a;have st:=uQ h s hs (4 * i) a
  have:=ih (i+1) (a+4)
  refine ⟨fun k hk=>?_,?_⟩
  ·rw [Ln.aA,st]
   cases k with
   | zero=>simp
   | succ k =>
    have q:=this.1 k (by simpa using hk);rw [List.getD_cons_succ];simp only [if_true];rw [q];omega
  ·rw [Ln.aL,st];simp only [if_true];rw [this.2,gL];omega
theorem jQ (m:Ln.Mod) (s:Nat):fG m s=Ln.aJ m.obj s:=rfl
theorem gV (o:Lk.Obj) (s:Nat) (h:s=1\/s=2\/s=3):eZ o s=yh o s:=by
 unfold eZ jE;rcases h with rfl | rfl | rfl <;> rfl
theorem rQ (s:Nat) (hs:s=1\/s=2):∀ (ms:List Ln.Mod) (t f d:Int),dA s ms (if s=1 then t else f)=(Ln.bB ms t f d).map (fun m=>if s=1 then m.text else m.far):=by
 intro ms
 induction ms with
 | nil=>intro t f d; rfl
 | cons m r ih =>
  intro t f d;rw [Ln.bB,List.map_cons,<- ih,dA,gV m.obj s (by omega),jQ];rcases hs with rfl | rfl
  ·rfl
  ·rfl
theorem rR (s:Nat) (hs:s=1\/s=2):∀ (ms:List Ln.Mod) (a:Int),aR s ms a=uZ s ms a:=by
 intro ms
 induction ms with
 | nil=>intro a; rfl
 | cons m r ih =>
  intro a;rw [aR,gV m.obj s (by omega),jQ,ih];rfl
theorem lH:∀ (ms:List Ln.Mod) (a:Int),(∀ m∈ms,yp m.obj)->aR 3 ms a=Ln.bH ms a:=by
 intro ms
 induction ms with
 | nil=>intro a _; rfl
 | cons m r ih =>
  intro a hv;rw [aR,Ln.bH,gV m.obj 3 (by omega),((jd (hv m List.mem_cons_self) ((3:Nat):Int) (by omega)) _ _ _).2,ih _ fun x hx=>hv x (List.mem_cons_of_mem _ hx)];rfl
theorem vk {m:Ln.Mod} (h:yp m.obj):((eZ m.obj 4).length:Int)=m.obj.bss:=by
 have:=XU h 4 (by omega) (by omega)
 rw [this];rfl
theorem Bl:∀ (ms:List Ln.Mod) (a:Int),(∀ m∈ms,yp m.obj)->aR 4 ms a=Ln.fM ms a:=by
 intro ms
 induction ms with
 | nil=>intro a _; rfl
 | cons m r ih =>
  intro a hv;rw [aR,Ln.fM,((jd (hv m List.mem_cons_self) ((4:Nat):Int) (by omega)) _ _ _).2,vk (hv m List.mem_cons_self),ih _ fun x hx=>hv x (List.mem_cons_of_mem _ hx)];rfl
theorem zx:∀ (ms:List Ln.Mod) (t f d:Int) (i:Nat),(∀ m∈ms,yp m.obj)->(h:i < (Ln.bB ms t f d).length)->(h':i < ms.length)->∀ k,k<=ms[i].obj.data.length->((dA 3 ms d).getD i []).getD k 0=(Ln.bB ms t f d)[i].data+4 * k:=by
 intro ms
 induction ms with
 | nil=>intro t f d i _ _ h'; exact absurd h' (Nat.not_lt_zero _)
 | cons m r ih =>
  intro t f d i hv h h' k hk;have pd:=jd (hv m List.mem_cons_self) ((3:Nat):Int) (by omega) (eZ m.obj 3) 0 (Ln.rup d (fG m 3));rw [dA]
  cases i with
  | zero=>exact pd.1 k (by rw [gV m.obj 3 (by omega)]; exact hk)
  | succ i =>
   have q:=ih (Ln.bU m 1 t) (Ln.bU m 2 f) (Ln.rup d (Ln.aJ m.obj 3)+4 * m.obj.data.length) i (fun x hx=>hv x (List.mem_cons_of_mem _ hx)) (by simpa [Ln.bB] using h) (by simpa using h') k hk;rw [List.getD_cons_succ,pd.2,gV m.obj 3 (by omega)];exact q
theorem Bj:∀ (ms:List Ln.Mod) (ns:List Ln.Mod) (b:Int) (i:Nat),ns.map Ln.Mod.obj=ms.map Ln.Mod.obj->(∀ m∈ms,yp m.obj)->(h:i < (Ln.bI ns b).length)->(h':i < ms.length)->∀ k:Nat,(k:Int)<=ms[i].obj.bss->((dA 4 ms b).getD i []).getD k 0=(Ln.bI ns b)[i].bss+4 * k:=by
 intro ms
 induction ms with
 | nil=>intro ns b i _ _ _ h'; exact absurd h' (Nat.not_lt_zero _)
 | cons m r ih =>
  intro ns b i hns hv h h' k hk
  cases ns with
  | nil=>simp at hns
  | cons n ns =>
   rw [List.map_cons,List.map_cons] at hns;obtain ⟨e1,e2⟩:=List.cons.inj hns;have pd:=jd (hv m List.mem_cons_self) ((4:Nat):Int) (by omega) (eZ m.obj 4) 0 (Ln.rup b (fG m 4));have bl:=vk (hv m List.mem_cons_self);have eb:fG m 4=Ln.aJ n.obj 4:=by rw [jQ,e1]
   rw [dA]
   cases i with
   | zero =>
    have q:=pd.1 k (by have hk2:(k:Int)<=m.obj.bss:=hk; omega);rw [eb] at q ⊢;exact q
   | succ i =>
    have q:=ih ns (Ln.rup b (Ln.aJ n.obj 4)+4 * n.obj.bss) i e2 (fun x hx=>hv x (List.mem_cons_of_mem _ hx)) (by simpa [Ln.bI] using h) (by simpa using h') k hk;rw [List.getD_cons_succ,pd.2,bl,eb,<- e1];exact q
theorem mE {ms:List Ln.Mod} {bt bf bd:Int} (hv:∀ m∈ms,yp m.obj) (i s:Nat) (hi:i < ms.length) (hi':i < (Ln.lay bt bf bd ms).length) (h1:1<=s) (h4:s<=4) (off:Int) (h0:0<=off) (hm:off % 4=0) (hl:off<=4 * kY ms[i].obj s) :
  Ln.address (Ln.lay bt bf bd ms)[i] s off=(tab bt bf bd ms i s).getD (off / 4).toNat 0:=by
 have VI:=hv ms[i] (dM hi);have lm:i < (Ln.bB ms bt bf bd).length:=by rw [Km]; exact hi
 have bs':∀ (ns:List Ln.Mod) (b:Int) (i:Nat) (h:i < (Ln.bI ns b).length) (h':i < ns.length),(Ln.bI ns b)[i].text=ns[i].text/\(Ln.bI ns b)[i].far=ns[i].far/\(Ln.bI ns b)[i].data=ns[i].data:=by
  intro ns
  induction ns with
  | nil=>intro b i _ h'; exact absurd h' (Nat.not_lt_zero _)
  | cons n ns ih =>
   intro b i h h'
   cases i with
   | zero=>exact ⟨rfl,rfl,rfl⟩
   | succ i=>exact ih _ i (by simpa [Ln.bI] using h) (by simpa using h')
 obtain ⟨q1,q2,q3⟩:=bs' (Ln.bB ms bt bf bd) (Ln.bH ms bd) i hi' lm;have qn:0<=off / 4:=by omega
 have t4:Int.tdiv off 4=off / 4:=Int.tdiv_eq_ediv_of_nonneg h0;have code:∀ ps:List Int,Ln.placeOf ps off=ps.getD (off / 4).toNat 0:=by
  intro ps;unfold Ln.placeOf;rw [t4,if_neg (by omega)]
 have e4:off=4 * ((off / 4).toNat:Int):=by omega
 unfold Ln.address tab;rcases (show s=1\/s=2\/s=3\/s=4 by omega) with rfl | rfl | rfl | rfl
 ·rw [if_pos (by rfl),code];show (Ln.bI _ _)[i].text.getD _ _=_;rw [q1]
  have:=rQ 1 (.inl rfl) ms bt bf bd
  rw [if_pos rfl] at this;rw [show bN bt bf bd ms 1=bt from rfl,this,iJ (l:=List.map _ _),List.getElem?_map,gy lm];rfl
 ·rw [if_neg (by decide),if_pos (by rfl),code];show (Ln.bI _ _)[i].far.getD _ _=_;rw [q2]
  have:=rQ 2 (.inr rfl) ms bt bf bd
  rw [if_neg (by decide)] at this;rw [show bN bt bf bd ms 2=bf from rfl,this,iJ (l:=List.map _ _),List.getElem?_map,gy lm];rfl
 ·rw [if_neg (by decide),if_neg (by decide),if_pos (by rfl)];show (Ln.bI _ _)[i].data+off=_;have hl3:off<=4 * (ms[i].obj.data.length:Int):=hl;rw [q3,show bN bt bf bd ms 3=bd from rfl,zx ms bt bf bd i hv lm hi (off / 4).toNat (by omega),<- e4]
 ·rw [if_neg (by decide),if_neg (by decide),if_neg (by decide),if_pos (by rfl)];show (Ln.bI _ _)[i].bss+off=_;have hl4:off<=4 * ms[i].obj.bss:=hl;rw [show bN bt bf bd ms 4=aR 3 ms bd from rfl,lH ms bd hv,Bj ms (Ln.bB ms bt bf bd) (Ln.bH ms bd) i (Gi ms bt bf bd) hv hi' hi (off / 4).toNat (by omega),<- e4]
end Dl
namespace Dl
def lU (os:List Lk.Obj) (ms:List Ln.Mod):Prop:=ms.map Ln.Mod.obj=os/\∀ i (h:i < ms.length),ms[i].means=ms[i].obj.syms.map (Ln.meaning os i)
theorem lU.len {os:List Lk.Obj} {ms:List Ln.Mod} (h:lU os ms):ms.length=os.length:=by rw [<- h.1,jc]
theorem lU.obj {os:List Lk.Obj} {ms:List Ln.Mod} (h:lU os ms) (i:Nat) (hi:i < ms.length) (hi':i < os.length):ms[i].obj=os[i]:=by
 have:(ms.map Ln.Mod.obj)[i]?=os[i]?:=by rw [h.1]
 rw [List.getElem?_map,gy hi,gy hi'] at this;simpa using this
theorem lU.lay {os:List Lk.Obj} {ms:List Ln.Mod} (h:lU os ms) (bt bf bd:Int):lU os (Ln.lay bt bf bd ms):=by
 refine ⟨by rw [Au]; exact h.1,fun i hi=>?_⟩;have hi':i < ms.length:=by rw [xS] at hi; exact hi
 have e1:(Ln.lay bt bf bd ms)[i].means=ms[i].means:=by
  have:((Ln.lay bt bf bd ms).map Ln.Mod.means)[i]?=(ms.map Ln.Mod.means)[i]?:=by rw [Rt]
  rw [List.getElem?_map,List.getElem?_map,gy hi,gy hi'] at this;simpa using this
 have e2:(Ln.lay bt bf bd ms)[i].obj=ms[i].obj:=by
  have:((Ln.lay bt bf bd ms).map Ln.Mod.obj)[i]?=(ms.map Ln.Mod.obj)[i]?:=by rw [Au]
  rw [List.getElem?_map,List.getElem?_map,gy hi,gy hi'] at this;simpa using this
 rw [e1,e2];exact h.2 i hi'
theorem lU.shorten {os:List Lk.Obj} {ms:List Ln.Mod} (h:lU os ms):lU os (Ln.shorten ms):=by
 refine ⟨?_,fun i hi=>?_⟩
 ·unfold Ln.shorten;rw [List.map_map];exact h.1
 ·have hi':i < ms.length:=by unfold Ln.shorten at hi; rw [jc] at hi; exact hi
  have e:(Ln.shorten ms)[i]={ ms[i] with short:=ms[i].obj.aj.map (Ln.bP ms ms[i]) }:=by simp [Ln.shorten]
  rw [e];exact h.2 i hi'
theorem lU.start (os:List Lk.Obj):lU os (Ln.bA os (os.map Ln.bare)):=by
 unfold Ln.bA;refine ⟨?_,fun i hi=>?_⟩
 ·apply List.ext_getElem
  ·simp
  ·intro i h1 h2;simp [Ln.iL,Ln.bare]
 ·simp [Ln.iL,Ln.bare]
theorem lU.val {os:List Lk.Obj} {ms:List Ln.Mod} (h:lU os ms) (hv:∀ o∈os,yp o):∀ m∈ms,yp m.obj:=fun m hm=>hv _ (by rw [<- h.1]; exact List.mem_map.2 ⟨m,hm,rfl⟩)
theorem qo {os:List Lk.Obj} {ms:List Ln.Mod} {bt bf bd:Int} (h:lU os ms) (hv:∀ o∈os,yp o) (r:Option (Nat×Nat)) (hr:∀ p,r=some p->iP os p/\1<=(bD os p.1 p.2).ah):Ln.bK (Ln.lay bt bf bd ms) (lQ os r)=addr os (tab bt bf bd ms) r:=by
 cases r with
 | none=>rfl
 | some p =>
  obtain ⟨⟨h1,h2⟩,h3⟩:=hr p rfl;have hl:=h.len;have hi:p.1 < ms.length:=by omega
  have hi':p.1 < (Ln.lay bt bf bd ms).length:=by rw [xS]; exact hi
  have so:=((hv os[p.1] (dM h1)).2.2.2.1 p.2 h2).1;have es:=Aq h1 h2;have eo:=h.obj p.1 hi h1;unfold Ln.bK lQ addr;dsimp only;rw [gy hi'];dsimp only;rw [es] at h3 ⊢;generalize os[p.1].syms[p.2]=y at *;obtain ⟨-,-,⟨-,q2⟩,-,q3,q4,q5⟩:=so;obtain ⟨sn,hsn⟩:=Int.eq_ofNat_of_zero_le (show 0<=y.ah by omega)
  have:=mE (bt:=bt) (bf:=bf) (bd:=bd) (h.val hv) p.1 sn hi hi' (by omega) (by omega) y.off q3 q4 (by rw [eo,<- hsn]; exact q5)
  rw [hsn,Int.toNat_natCast];exact this
theorem qw {os:List Lk.Obj} {ms:List Ln.Mod} {bt bf bd:Int} (h:lU os ms) (hv:∀ o∈os,yp o) (i:Nat) (hi:i < os.length) (hi':i < (Ln.lay bt bf bd ms).length) (r:Lk.Rel) (sy:Nat) (hs:r.sym=(sy:Int)) (hl:sy < os[i].syms.length) :
  Ln.target (Ln.lay bt bf bd ms) (Ln.lay bt bf bd ms)[i] r=addr os (tab bt bf bd ms) (means os i sy):=by
 have hL:=h.lay bt bf bd;have em:=hL.2 i hi';rw [hL.obj i hi' hi] at em;have hp:Pos os:=fun o ho=>(hv o ho).pos
 unfold Ln.target;rw [em,if_neg (by rw [jc]; omega),hs,Int.toNat_natCast,iJ,List.getElem?_map,gy hl];show Ln.bK _ (Ln.meaning os i os[i].syms[sy])=_;rw [<- Aq hi hl,pK hp];exact qo h hv _ fun p hp=>Rv hv ⟨hi,hl⟩ hp
theorem oF {os:List Lk.Obj} {ms:List Ln.Mod} {bt bf bd:Int} (h:lU os ms) (hv:∀ o∈os,yp o) (i k:Nat) (hi:i < os.length) (hi':i < (Ln.lay bt bf bd ms).length) (hk:k < os[i].aj.length) :
  Ln.address (Ln.lay bt bf bd ms)[i] os[i].aj[k].ah os[i].aj[k].off=(tab bt bf bd ms i os[i].aj[k].ah.toNat).getD (os[i].aj[k].off / 4).toNat 0:=by
 have hm:i < ms.length:=by have:=h.len; omega
 have ro:=(hv os[i] (dM hi)).rel k hk;have sp:=yC ro.2.1;have hko:=ro.1;obtain ⟨b1,b2,b3⟩:=ro.2.2.2.2.1;have eo:=h.obj i hm hi;generalize os[i].aj[k]=r at *;unfold yH at hko;obtain ⟨sn,hsn⟩:=Int.eq_ofNat_of_zero_le (show 0<=r.ah by omega)
 have:=mE (bt:=bt) (bf:=bf) (bd:=bd) (h.val hv) i sn hm hi' (by omega) (by omega) r.off b1 b2 (by
  rw [eo,<- hsn];unfold kY;rw [if_neg (by omega)];omega)
 rw [hsn,Int.toNat_natCast];exact this
theorem qd {os:List Lk.Obj} {ms:List Ln.Mod} {bt bf bd:Int} (h:lU os ms) (hv:∀ o∈os,yp o) (i k:Nat) (hi:i < os.length) (hi':i < (Ln.lay bt bf bd ms).length) (hk:k < os[i].aj.length) (h6:os[i].aj[k].kind≠6) :
  Ln.distance (Ln.lay bt bf bd ms) (Ln.lay bt bf bd ms)[i] os[i].aj[k]=dist os (tab bt bf bd ms) i k:=by
 have ro:=(hv os[i] (dM hi)).rel k hk;have hsx:=ro.2.2.1;unfold jw at hsx;rw [if_neg h6] at hsx;obtain ⟨sy,hsy⟩:=Int.eq_ofNat_of_zero_le hsx.1;unfold Ln.distance dist Ey place;rw [Nn hi hk,oF h hv i k hi hi' hk,qw h hv i hi hi' _ sy hsy (by omega),hsy,Int.toNat_natCast]
theorem uO {os:List Lk.Obj} {ms:List Ln.Mod} {bt bf bd:Int} (h:lU os ms) (hv:∀ o∈os,yp o) (i:Nat) (hi:i < os.length) (hi':i < (Ln.lay bt bf bd ms).length) :
  os[i].aj.map (Ln.bP (Ln.lay bt bf bd ms) (Ln.lay bt bf bd ms)[i])=fl (iM os (tab bt bf bd ms)) i os[i].aj.length:=by
 apply List.ext_getElem
 ·rw [jc,kN]
 ·intro k h1 h2;rw [qG,List.getElem_map];have hk:k < os[i].aj.length:=by rw [jc] at h1; exact h1
  unfold Ln.bP iM;rw [Nn hi hk];by_cases c:os[i].aj[k].kind=4
  ·rw [qd h hv i k hi hi' hk (by omega)]
  ·rw [decide_eq_false c];rfl
end Dl
theorem yiL (P:Nat) (ao:Option Addr) (cap:Nat) (gl:List Nat) (os:List Lk.Obj) (ms:List Ln.Mod) (bt bf bd:Int) (es:List Int) (w:World) (h:Laid w P ao gl os (Dl.tab bt bf bd ms) es) (hr:Dl.lU os ms) :
  Calls Tryz.prog 16 #[.slice ao gl.length cap,.pointer (some ⟨P,0,none⟩)] w fun e w'=>e = .returned (bJ (Ln.aQ (Ln.lay bt bf bd ms)))/\w.grownBy w' none:=by
 have H:=hid h;have HR:=hid hr;have K7:=hid h.parts.len;have hgl:gl.length<=48:=by rw [h.parts.len]; exact h.parts.few
 obtain ⟨ML,Ef⟩:∃ ML,ML=Ln.lay bt bf bd ms:=⟨_,rfl⟩
 have Ux:=hid (show ML.length=gl.length by rw [Ef,xS,hr.len,h.parts.len]);have Uy:=hid (fun i (h1:i < ML.length) (h2:i < os.length)=>show ML[i].obj=os[i] by subst Ef; exact (hr.lay bt bf bd).obj i h1 h2);have DS:=hid (fun i k (hi:i < os.length) (hi':i < ML.length) (hk:k < os[i].aj.length) (h6:os[i].aj[k].kind≠6)=>show Ln.distance ML ML[i] os[i].aj[k]=Dl.dist os (Dl.tab bt bf bd ms) i k by subst Ef; exact Dl.qd hr h.parts.val i k hi hi' hk h6);rw [<- Ef];clear h hr Ef;generalize Dl.tab bt bf bd ms=T at *;have G0:=hid (aH w (.cells #[.int .i64 0,.int .i64 0,.string ⟨#[]⟩] 32) none);have B0:=hid (ye.new w #[.int .i64 0,.int .i64 0,.string ⟨#[]⟩] 32)
 go_enter Tryz.func16,Tryz.ntmps16;go_wp2;generalize w.alloc (.cells #[.int .i64 0,.int .i64 0,.string ⟨#[]⟩] 32)=W1 at *;have iX:Hd (∀ (V:World) (fe fa:Int) (fn:List UInt8),W1.grownBy V none->∀ W,W=(((V.setCell ⟨w.heap.size,0,none⟩ (.int .i64 fe)).setCell ⟨w.heap.size,1,none⟩ (.int .i64 fa)).setCell ⟨w.heap.size,2,none⟩ (.string (bs fn)))->(W.cell? ⟨w.heap.size,0,none⟩=some (.int .i64 fe)/\W.cell? ⟨w.heap.size,1,none⟩=some (.int .i64 fa)/\W.cell? ⟨w.heap.size,2,none⟩=some (.string (bs fn)))/\w.grownBy W none):=by
  rintro V fe fa fn hg W rfl;have F:=(((B0.o.grown hg (by simp)).set 0 (.int .i64 fe)).set 1 (.int .i64 fa)).set 2 (.string (bs fn));exact ⟨⟨F.cell 0,F.cell 1,F.cell 2⟩,yx (ya G0.o hg) _ (Nat.le_refl _) _ _ _⟩
 have FC:Hd (∀ (V:World),W1.grownBy V none->(V.cell? ⟨w.heap.size,0,none⟩=some (.int .i64 0)/\V.cell? ⟨w.heap.size,1,none⟩=some (.int .i64 0)/\V.cell? ⟨w.heap.size,2,none⟩=some (.string ⟨#[]⟩))/\V.frozen? ⟨w.heap.size,0,none⟩=false/\V.frozen? ⟨w.heap.size,1,none⟩=false/\V.frozen? ⟨w.heap.size,2,none⟩=false):=by
  intro V hg;have B:=B0.o.grown hg (by simp);exact ⟨⟨B.cell 0,B.cell 1,B.cell 2⟩,B.free 0,B.free 1,B.free 2⟩
 have hWW:=hid B0.o.lt;clear B0
 go_loopw [5] (fun i wr=>∃ k:Nat,k<=gl.length/\i = .int .i64 k/\Ln.aQ ML=Ln.jf ML k (ML.drop k)/\W1.grownBy wr none) (fun i _=>gl.length - (intOf i).toNat)
 case atStart=>exact ⟨0,Nat.zero_le _,rfl,rfl,World.grownBy.refl _ _⟩
 case round =>
  obtain ⟨k,hk,rfl,hf,hgr⟩:=hrel;have HF:=hid hf;have HG:=hid hgr;clear hf hgr;by_cases hlt:k < gl.length
  ·have hko:k < os.length:=by rw [<- K7.o]; exact hlt
   have hkm:k < ML.length:=by rw [Ux.o]; exact hlt
   obtain ⟨g0,off,hao,hc⟩:=H.o.parts.ptrs (by omega);subst hao;have CK:=hid (hc k hlt);obtain ⟨at_,ct,af,cf,ad,cd,wm,wD,gF,cs,ar,cr,hb,-,-,-,-,q5,q6⟩:=(H.o.parts.obj k hlt hko).open;have S:=hid (yI.aB q5);have RI:=hid (lX.aB q6);have HB:=hid hb;have VK:=hid (H.o.parts.val os[k] (dM hko));have wM:=VK.o.jU;have aao:=VK.o.gT;have FD:=hid (show Ln.jf ML k (ML.drop k)=match Ln.bM ML ML[k] k os[k].aj with
    | some f=>f
    | none=>Ln.jf ML (k+1) (ML.drop (k+1)) by have:=Xu ML ML k hkm; rw [Uy.o k hkm hko] at this; exact this)
   have DK:=hid (fun j (hj:j < os[k].aj.length) (h6:os[k].aj[j].kind≠6)=>DS.o k j hko hkm hj h6);have Jm:=hid (fun j (hj:j < os[k].aj.length) (sy:Nat) (hsy:os[k].aj[j].sym=(sy:Int)) (hss:sy < os[k].syms.length) W (hg:W1.grownBy W none)=>QL P (some ⟨g0,off,none⟩) cap gl os T es k j sy W (H.o.kept (ya G0.o hg)) hko hj hsy hss);have cPP:=hid (fun j (hj:j < os[k].aj.length) W (hg:W1.grownBy W none)=>Rh P (some ⟨g0,off,none⟩) cap gl os T es k j W (H.o.kept (ya G0.o hg)) hko hj);have MO:=hid (Uy.o k hkm hko);clear hc hb q5 q6;generalize ML[k]=mk at *;generalize hrs:os[k].aj=rs at *;have zk:=hid hrs;clear hrs
   generalize gl[k]=bk at *;have g1:(k:Int) < (gl.length:Int):=by omega
   go_wp2
   go_loopw [6] (fun i wr=>∃ j:Nat,j<=rs.length/\i = .int .i64 j/\Ln.bM ML mk k rs=Ln.bM ML mk k (rs.drop j)/\W1.grownBy wr none) (fun i _=>rs.length - (intOf i).toNat)
   case atStart=>exact ⟨0,Nat.zero_le _,rfl,rfl,HG.o⟩
   case round =>
    obtain ⟨j,hj,rfl,hf2,dN⟩:=hrel;have iq:=hid hf2;have HG2:=hid dN;clear hf2 dN;have GT:=hid (ya G0.o HG2.o);have ck:=yc CK.o GT.o;have k6:=(HB.o.grown GT.o (by simp)).cell 6;simp only [dH,dL,dK] at k6;by_cases hlt2:j < rs.length
    ·obtain ⟨rg,hrg,-,hrc⟩:=RI.o.grown GT.o (by omega);subst hrg;obtain ⟨r0,r1,r2,r3,r4⟩:=hrc j hlt2;clear hrc;have g2:(j:Int) < (rs.length:Int):=by omega
     have FI:=hid (show Ln.bM ML mk k rs=if Ln.dI rs[j].kind (Ln.distance ML mk rs[j]) then Ln.bM ML mk k (rs.drop (j+1)) else some ⟨37,k,Ln.eH os[k] rs[j].sym⟩ by rw [iq.o,Xv ML mk k rs j hlt2,MO.o]);have hjj:j < os[k].aj.length:=by rw [zk.o]; exact hlt2
     have RQ:=hid (show os[k].aj[j]=rs[j] by simp [zk.o]);have ro:=VK.o.rel j hjj;have KG:=hid (DK.o j hlt2);have Lu:=hid (Jm.o j hlt2);have Lr:=hid (cPP.o j hlt2);have Kz:=hid (fun (sy:Nat) (hss:sy < os[k].syms.length)=>Sb H.o (i:=k) (k:=sy) ⟨hko,hss⟩);have RD:=hid (Nn hko hjj);have Fg:=hid (show Dl.dist os T k j=Dl.addr os T (Dl.means os k (Dl.qM os k j).sym.toNat) - (T k (Dl.qM os k j).ah.toNat).getD ((Dl.qM os k j).off / 4).toNat 0 from rfl);rw [RD.o] at Fg;rw [RQ.o] at ro Fg;have FT:=hid (fun s q (h1:1<=s) (h4:s<=4)=>H.o.rng k s q h1 h4);have Um:=hid (show w.heap.size < wr.heap.size from Nat.lt_of_lt_of_le hWW.o HG2.o.size)
     clear RD RQ hjj;generalize rs[j]=r at *;by_cases e2:r.kind=2
     ·have hsx:0<=r.sym/\r.sym < os[k].syms.length:=by
       have:=ro.2.2.1
       unfold jw at this;rw [if_neg (by omega)] at this;exact this
      obtain ⟨sy,hsy⟩:=Int.eq_ofNat_of_zero_le hsx.1;have hss:sy < os[k].syms.length:=by omega
      have sw:=ro.1;unfold yH at sw;have cT:=hid (Lu.o sy hsy hss);have cP:=hid Lr.o;have tr:=Kz.o sy hss;have pr:=FT.o r.ah.toNat (r.off / 4).toNat (by omega) (by omega)
      have DI:=hid (show Ln.distance ML mk r=Dl.addr os T (Dl.means os k sy) - (T k r.ah.toNat).getD (r.off / 4).toNat 0 by rw [KG.o (by omega),Fg.o,hsy,Int.toNat_natCast]);have SN:=hid (show Ln.eH os[k] r.sym=os[k].syms[sy].name by unfold Ln.eH; rw [hsy,if_neg (by omega),Int.toNat_natCast,gy hss]);obtain ⟨nm,hnm⟩:∃ nm,os[k].syms[sy].name=nm:=⟨_,rfl⟩
      rw [hnm] at SN;have NM:=hid hnm;clear hnm;generalize hdd:Ln.distance ML mk r=dd at *;generalize Dl.addr os T (Dl.means os k sy)=tg at *;generalize (T k r.ah.toNat).getD (r.off / 4).toNat 0=pg at *;rw [hsy] at r3;have ny:=hid (show Ln.bM ML mk k rs=if decide (-4096<=dd) && decide (dd<=4095) then Ln.bM ML mk k (rs.drop (j+1)) else some ⟨37,k,Ln.eH os[k] r.sym⟩ by rw [FI.o,show Ln.dI r.kind dd=(decide (-4096<=dd) && decide (dd<=4095)) by unfold Ln.dI; rw [if_pos e2]]);clear FI;rw [e2] at r2;clear e2;have Qe:=hid hsy;clear ro hsx hsy sw Lu Lr Kz FT KG Fg hdd;have BX:=hid (ye.new wr #[.int .i64 r.ah,.int .i64 r.off,.int .i64 2,.int .i64 sy,.int .i64 r.addend] 83)
      have GV:=hid (ya HG2.o (aH wr (.cells #[.int .i64 r.ah,.int .i64 r.off,.int .i64 2,.int .i64 sy,.int .i64 r.addend] 83) none))
      go_upto_region 8 with fail
      generalize wr.alloc (.cells #[.int .i64 r.ah,.int .i64 r.off,.int .i64 2,.int .i64 sy,.int .i64 r.addend] 83)=V1 at *;generalize wr.heap.size=X at *;have x0:V1.cell? ⟨X,0,none⟩=some (.int .i64 r.ah):=BX.o.cell 0;have x1:V1.cell? ⟨X,1,none⟩=some (.int .i64 r.off):=BX.o.cell 1;have x2:V1.cell? ⟨X,2,none⟩=some (.int .i64 2):=BX.o.cell 2;have x3:V1.cell? ⟨X,3,none⟩=some (.int .i64 sy):=BX.o.cell 3;have x4:V1.cell? ⟨X,4,none⟩=some (.int .i64 r.addend):=BX.o.cell 4;clear r0 r1 r2 r3 r4 k6 ck
      go_upto_region 13 with (go_at_call 33; refine (cT.o _ GV.o).mono ?_; rintro e V2 ⟨rfl,hv2⟩)
      have G2:=hid (ya GV.o hv2);have qW:=hid (BX.o.grown hv2 (by simp));clear x0 x1 x2 x3 x4 hv2 cT BX
      go_upto_region 14 with (go_at_call 34; refine (cP.o _ G2.o).mono ?_; rintro e V3 ⟨rfl,hv3⟩)
      have G3:=hid (ya G2.o hv3);have lT:=hid (qW.o.grown hv3 (by simp));clear hv3 cP qW G2;have w1:IntKind.i64.wrap (tg - pg)=tg - pg:=IntWalk.i64_in _ ⟨by omega,by omega⟩;have x3:V3.cell? ⟨X,3,none⟩=some (.int .i64 sy):=lT.o.cell 3;by_cases c:-4096<=tg - pg/\tg - pg < 4096
      ·have d5:decide ((4096:Int)<=tg - pg)=false:=by simp; omega
       have d6:decide (tg - pg < -4096)=false:=by simp; omega
       have c1:¬ ((4096:Int)<=tg - pg):=by omega
       have c2:¬ (tg - pg < -4096):=by omega
       have E:=hid (show Ln.bM ML mk k rs=Ln.bM ML mk k (rs.drop (j+1)) by rw [ny.o,DI.o,decide_eq_true (show -4096<=tg - pg by omega),decide_eq_true (show tg - pg<=4095 by omega)]; rfl);clear c ny DI;go_wp2
       go_roundw
       case rel=>exact ⟨j+1,by omega,by go_num,E.o,G3.o⟩
       case measure=>simp [intOf]; omega
      ·have E:=hid (show Ln.aQ ML=⟨37,k,nm⟩ by
        have q:(decide (-4096<=tg - pg) && decide (tg - pg<=4095))=false:=by rw [Bool.and_eq_false_iff,decide_eq_false_iff_not,decide_eq_false_iff_not]; omega
        rw [HF.o,FD.o,ny.o,DI.o,q,if_neg (by decide),SN.o])
       have ck:=yc CK.o (ya G0.o G3.o);have k5:=(HB.o.grown (ya G0.o G3.o) (by simp)).cell 5;simp only [dH,dL,dK] at k5;obtain ⟨sg,hsg,hgs,-⟩:=S.o (by omega);subst hsg;obtain ⟨Qu,zM,-,hcs⟩:=S.o.grown (ya G0.o G3.o) (by omega);obtain rfl:sg=Qu:=by cases zM; rfl
       have n2:w.heap.size≠g0:=by have:=World.block_lt_of_cell? w _ CK.o; dsimp only at this; omega
       have n3:w.heap.size≠bk:=by have:=HB.o.lt; omega
       have n4:w.heap.size≠sg:=by omega
       obtain ⟨q0,-,-,-⟩:=hcs sy hss;have HNM:=hid (NM.o);rw [NM.o] at q0;obtain ⟨⟨z0,z1,z2⟩,f0,f1,f2⟩:=FC.o V3 G3.o;have j2:(sy:Int) < (os[k].syms.length:Int):=by omega
       have n1:w.heap.size≠X:=by have:=Um.o; omega
       have za:=hid (iX.o V3 37 k nm G3.o _ rfl);clear hcs ny DI zM;by_cases c3:(4096:Int)<=tg - pg
       ·have d5:decide ((4096:Int)<=tg - pg)=true:=by simpa using c3
        clear c;go_wp2
        go_region_held3 (fun w'=>w'.cell? ⟨X,3,none⟩=some (.int .i64 sy)/\w'.cell? ⟨g0,off+k,none⟩=some (.pointer (some ⟨bk,0,none⟩))/\w'.cell? ⟨bk,5,none⟩=some (.slice (some ⟨sg,0,none⟩) os[k].syms.length cs)/\w'.cell? ⟨sg,sy * 4,none⟩=some (.string (bs nm)))
         (simp [World.cell?_setCell_far,n1,n2,n3,n4,x3,ck,k5,q0])
         (fail)
        go_wp2;obtain ⟨⟨h0,h1,h2⟩,h3⟩:=za.o;have h0':=yc h0 (yf (World.grownBy.refl _ none));have h1':=yc h1 (yf (World.grownBy.refl _ none));have h2':=yc h2 (yf (World.grownBy.refl _ none));refine bodyPost_ret (v:=bJ ⟨37,k,nm⟩) ?_ rfl ⟨by rw [E.o],yf h3⟩;clear z0 z1 z2 f0 f1 f2 x3 ck k5 q0 h0 h1 h2;generalize World.drew _=WF at *;simp [results,Tryz.results16,go_sem,bJ,h0',h1',h2']
       ·have d5:decide ((4096:Int)<=tg - pg)=false:=by simpa using c3
        have c4:tg - pg < -4096:=by omega
        have d6:decide (tg - pg < -4096)=true:=by simpa using c4
        clear c;go_wp2
        go_region_held3 (fun w'=>w'.cell? ⟨X,3,none⟩=some (.int .i64 sy)/\w'.cell? ⟨g0,off+k,none⟩=some (.pointer (some ⟨bk,0,none⟩))/\w'.cell? ⟨bk,5,none⟩=some (.slice (some ⟨sg,0,none⟩) os[k].syms.length cs)/\w'.cell? ⟨sg,sy * 4,none⟩=some (.string (bs nm)))
         (simp [World.cell?_setCell_far,n1,n2,n3,n4,x3,ck,k5,q0])
         (fail)
        go_wp2;obtain ⟨⟨h0,h1,h2⟩,h3⟩:=za.o;have h0':=yc h0 (yf (World.grownBy.refl _ none));have h1':=yc h1 (yf (World.grownBy.refl _ none));have h2':=yc h2 (yf (World.grownBy.refl _ none));refine bodyPost_ret (v:=bJ ⟨37,k,nm⟩) ?_ rfl ⟨by rw [E.o],yf h3⟩;clear z0 z1 z2 f0 f1 f2 x3 ck k5 q0 h0 h1 h2;generalize World.drew _=WF at *;simp [results,Tryz.results16,go_sem,bJ,h0',h1',h2']
     by_cases e3:r.kind=3
     ·have hsx:0<=r.sym/\r.sym < os[k].syms.length:=by
       have:=ro.2.2.1
       unfold jw at this;rw [if_neg (by omega)] at this;exact this
      obtain ⟨sy,hsy⟩:=Int.eq_ofNat_of_zero_le hsx.1;have hss:sy < os[k].syms.length:=by omega
      have sw:=ro.1;unfold yH at sw;have cT:=hid (Lu.o sy hsy hss);have cP:=hid Lr.o;have tr:=Kz.o sy hss;have pr:=FT.o r.ah.toNat (r.off / 4).toNat (by omega) (by omega)
      have DI:=hid (show Ln.distance ML mk r=Dl.addr os T (Dl.means os k sy) - (T k r.ah.toNat).getD (r.off / 4).toNat 0 by rw [KG.o (by omega),Fg.o,hsy,Int.toNat_natCast]);have SN:=hid (show Ln.eH os[k] r.sym=os[k].syms[sy].name by unfold Ln.eH; rw [hsy,if_neg (by omega),Int.toNat_natCast,gy hss]);obtain ⟨nm,hnm⟩:∃ nm,os[k].syms[sy].name=nm:=⟨_,rfl⟩
      rw [hnm] at SN;have NM:=hid hnm;clear hnm;generalize hdd:Ln.distance ML mk r=dd at *;generalize Dl.addr os T (Dl.means os k sy)=tg at *;generalize (T k r.ah.toNat).getD (r.off / 4).toNat 0=pg at *;rw [hsy] at r3;have ny:=hid (show Ln.bM ML mk k rs=if decide (-1048576<=dd) && decide (dd<=1048575) then Ln.bM ML mk k (rs.drop (j+1)) else some ⟨37,k,Ln.eH os[k] r.sym⟩ by rw [FI.o,show Ln.dI r.kind dd=(decide (-1048576<=dd) && decide (dd<=1048575)) by unfold Ln.dI; rw [if_neg e2,if_pos e3]]);clear FI;rw [e3] at r2;clear e2 e3;have Qe:=hid hsy;clear ro hsx hsy sw Lu Lr Kz FT KG Fg hdd;have BX:=hid (ye.new wr #[.int .i64 r.ah,.int .i64 r.off,.int .i64 3,.int .i64 sy,.int .i64 r.addend] 83)
      have GV:=hid (ya HG2.o (aH wr (.cells #[.int .i64 r.ah,.int .i64 r.off,.int .i64 3,.int .i64 sy,.int .i64 r.addend] 83) none))
      go_upto_region 8 with fail
      generalize wr.alloc (.cells #[.int .i64 r.ah,.int .i64 r.off,.int .i64 3,.int .i64 sy,.int .i64 r.addend] 83)=V1 at *;generalize wr.heap.size=X at *;have x0:V1.cell? ⟨X,0,none⟩=some (.int .i64 r.ah):=BX.o.cell 0;have x1:V1.cell? ⟨X,1,none⟩=some (.int .i64 r.off):=BX.o.cell 1;have x2:V1.cell? ⟨X,2,none⟩=some (.int .i64 3):=BX.o.cell 2;have x3:V1.cell? ⟨X,3,none⟩=some (.int .i64 sy):=BX.o.cell 3;have x4:V1.cell? ⟨X,4,none⟩=some (.int .i64 r.addend):=BX.o.cell 4;clear r0 r1 r2 r3 r4 k6 ck
      go_upto_region 13 with (go_at_call 33; refine (cT.o _ GV.o).mono ?_; rintro e V2 ⟨rfl,hv2⟩)
      have G2:=hid (ya GV.o hv2);have qW:=hid (BX.o.grown hv2 (by simp));clear x0 x1 x2 x3 x4 hv2 cT BX
      go_upto_region 14 with (go_at_call 34; refine (cP.o _ G2.o).mono ?_; rintro e V3 ⟨rfl,hv3⟩)
      have G3:=hid (ya G2.o hv3);have lT:=hid (qW.o.grown hv3 (by simp));clear hv3 cP qW G2;have w1:IntKind.i64.wrap (tg - pg)=tg - pg:=IntWalk.i64_in _ ⟨by omega,by omega⟩;have x3:V3.cell? ⟨X,3,none⟩=some (.int .i64 sy):=lT.o.cell 3;by_cases c:-1048576<=tg - pg/\tg - pg < 1048576
      ·have d5:decide ((1048576:Int)<=tg - pg)=false:=by simp; omega
       have d6:decide (tg - pg < -1048576)=false:=by simp; omega
       have c1:¬ ((1048576:Int)<=tg - pg):=by omega
       have c2:¬ (tg - pg < -1048576):=by omega
       have E:=hid (show Ln.bM ML mk k rs=Ln.bM ML mk k (rs.drop (j+1)) by rw [ny.o,DI.o,decide_eq_true (show -1048576<=tg - pg by omega),decide_eq_true (show tg - pg<=1048575 by omega)]; rfl);clear c ny DI;go_wp2
       go_roundw
       case rel=>exact ⟨j+1,by omega,by go_num,E.o,G3.o⟩
       case measure=>simp [intOf]; omega
      ·have E:=hid (show Ln.aQ ML=⟨37,k,nm⟩ by
        have q:(decide (-1048576<=tg - pg) && decide (tg - pg<=1048575))=false:=by rw [Bool.and_eq_false_iff,decide_eq_false_iff_not,decide_eq_false_iff_not]; omega
        rw [HF.o,FD.o,ny.o,DI.o,q,if_neg (by decide),SN.o])
       have ck:=yc CK.o (ya G0.o G3.o);have k5:=(HB.o.grown (ya G0.o G3.o) (by simp)).cell 5;simp only [dH,dL,dK] at k5;obtain ⟨sg,hsg,hgs,-⟩:=S.o (by omega);subst hsg;obtain ⟨Qu,zM,-,hcs⟩:=S.o.grown (ya G0.o G3.o) (by omega);obtain rfl:sg=Qu:=by cases zM; rfl
       have n2:w.heap.size≠g0:=by have:=World.block_lt_of_cell? w _ CK.o; dsimp only at this; omega
       have n3:w.heap.size≠bk:=by have:=HB.o.lt; omega
       have n4:w.heap.size≠sg:=by omega
       obtain ⟨q0,-,-,-⟩:=hcs sy hss;have HNM:=hid (NM.o);rw [NM.o] at q0;obtain ⟨⟨z0,z1,z2⟩,f0,f1,f2⟩:=FC.o V3 G3.o;have j2:(sy:Int) < (os[k].syms.length:Int):=by omega
       have n1:w.heap.size≠X:=by have:=Um.o; omega
       have za:=hid (iX.o V3 37 k nm G3.o _ rfl);clear hcs ny DI zM;by_cases c3:(1048576:Int)<=tg - pg
       ·have d5:decide ((1048576:Int)<=tg - pg)=true:=by simpa using c3
        clear c;go_wp2
        go_region_held3 (fun w'=>w'.cell? ⟨X,3,none⟩=some (.int .i64 sy)/\w'.cell? ⟨g0,off+k,none⟩=some (.pointer (some ⟨bk,0,none⟩))/\w'.cell? ⟨bk,5,none⟩=some (.slice (some ⟨sg,0,none⟩) os[k].syms.length cs)/\w'.cell? ⟨sg,sy * 4,none⟩=some (.string (bs nm)))
         (simp [World.cell?_setCell_far,n1,n2,n3,n4,x3,ck,k5,q0])
         (fail)
        go_wp2;obtain ⟨⟨h0,h1,h2⟩,h3⟩:=za.o;have h0':=yc h0 (yf (World.grownBy.refl _ none));have h1':=yc h1 (yf (World.grownBy.refl _ none));have h2':=yc h2 (yf (World.grownBy.refl _ none));refine bodyPost_ret (v:=bJ ⟨37,k,nm⟩) ?_ rfl ⟨by rw [E.o],yf h3⟩;clear z0 z1 z2 f0 f1 f2 x3 ck k5 q0 h0 h1 h2;generalize World.drew _=WF at *;simp [results,Tryz.results16,go_sem,bJ,h0',h1',h2']
       ·have d5:decide ((1048576:Int)<=tg - pg)=false:=by simpa using c3
        have c4:tg - pg < -1048576:=by omega
        have d6:decide (tg - pg < -1048576)=true:=by simpa using c4
        clear c;go_wp2
        go_region_held3 (fun w'=>w'.cell? ⟨X,3,none⟩=some (.int .i64 sy)/\w'.cell? ⟨g0,off+k,none⟩=some (.pointer (some ⟨bk,0,none⟩))/\w'.cell? ⟨bk,5,none⟩=some (.slice (some ⟨sg,0,none⟩) os[k].syms.length cs)/\w'.cell? ⟨sg,sy * 4,none⟩=some (.string (bs nm)))
         (simp [World.cell?_setCell_far,n1,n2,n3,n4,x3,ck,k5,q0])
         (fail)
        go_wp2;obtain ⟨⟨h0,h1,h2⟩,h3⟩:=za.o;have h0':=yc h0 (yf (World.grownBy.refl _ none));have h1':=yc h1 (yf (World.grownBy.refl _ none));have h2':=yc h2 (yf (World.grownBy.refl _ none));refine bodyPost_ret (v:=bJ ⟨37,k,nm⟩) ?_ rfl ⟨by rw [E.o],yf h3⟩;clear z0 z1 z2 f0 f1 f2 x3 ck k5 q0 h0 h1 h2;generalize World.drew _=WF at *;simp [results,Tryz.results16,go_sem,bJ,h0',h1',h2']
     ·have E:=hid (show Ln.bM ML mk k rs=Ln.bM ML mk k (rs.drop (j+1)) by rw [FI.o,show Ln.dI r.kind (Ln.distance ML mk r)=true by unfold Ln.dI; rw [if_neg e2,if_neg e3]]; rfl);have d1:(r.kind == 2)=false:=by simpa using e2
      have d2:(r.kind != 2)=true:=by simpa using e2
      have d3:(r.kind == 3)=false:=by simpa using e3
      have d4:(r.kind != 3)=true:=by simpa using e3
      have GV:=hid (ya HG2.o (aH wr (.cells #[.int .i64 r.ah,.int .i64 r.off,.int .i64 r.kind,.int .i64 r.sym,.int .i64 r.addend] 83) none));clear e2 e3 FI;go_wp2
      go_roundw
      case rel=>exact ⟨j+1,by omega,by go_num,E.o,GV.o⟩
      case measure=>simp [intOf]; omega
    ·obtain rfl:j=rs.length:=by omega
     have E:=hid (show Ln.bM ML mk k rs=none by rw [iq.o,List.drop_length]; rfl);have g3:decide ((rs.length:Int) < (rs.length:Int))=false:=by simp
     go_wp2
     go_roundw
     case rel=>exact ⟨k+1,by omega,by go_num,by rw [HF.o,FD.o,E.o],HG2.o⟩
     case measure=>simp [intOf]; omega
  ·obtain rfl:k=gl.length:=by omega
   have E:=hid (show Ln.aQ ML=Ln.ok by rw [HF.o,<- Ux.o,List.drop_length]; rfl);have g3:decide ((gl.length:Int) < (gl.length:Int))=false:=by simp
   obtain ⟨⟨z0,z1,z2⟩,f0,f1,f2⟩:=FC.o wr HG.o;go_wp2;have FI:=iX.o wr 0 0 [] HG.o _ rfl;rw [show bs []=(⟨#[]⟩:ByteArray) from rfl] at FI;obtain ⟨⟨h0,h1,h2⟩,h3⟩:=FI;refine bodyPost_ret (v:=bJ Ln.ok) ?_ rfl ⟨by rw [E.o],h3⟩;clear z0 z1 z2 f0 f1 f2;generalize World.setCell _ _ _=WF at *;simp [results,Tryz.results16,go_sem,bJ,Ln.ok,bs,h0,h1,h2]
end Go.Proofs.YtelehpmjhjljgaaGreatDoor
