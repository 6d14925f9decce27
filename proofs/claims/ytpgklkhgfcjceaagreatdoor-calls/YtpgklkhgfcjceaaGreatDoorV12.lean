
import Derived.Test.YtpgklkhgfcjceaaGreatDoorV11
import Derived.Deep.RegionHeld3
set_option maxHeartbeats 16000000
namespace Go.Proofs.YtpgklkhgfcjceaaGreatDoor
open Go.RowKit
theorem yol (s:ByteArray) (q:Nat) (hs:s.size<=1000) (hq:q<=s.size):uU (As.iX (sl s) q).1/\(As.iX (sl s) q).2.1.1<=99/\(As.iX (sl s) q).2.1.2<=1000/\(As.iX (sl s) q).2.2<=s.size/\q<=(As.iX (sl s) q).2.2:=by
 have tok0:=G8
 by_cases hlt:q < s.size
 ·have e:(sl s)[q]?=some (s[q]'hlt):=by rw [jF (by rw [yr]; exact hlt)]; rfl
  have hlen:∀ f:UInt8->Bool,(((sl s).drop q).takeWhile f).length<=1000:=fun f=>by
   have h1:=(List.takeWhile_prefix f (l:=(sl s).drop q)).length_le
   rw [List.length_drop,yr] at h1
   omega
  have hsk:∀ f:UInt8->Bool,As.skip f (sl s) q<=s.size:=fun f=>by
   have:=Kh (f:=f) (s:=sl s) (k:=q) (by rw [yr]; omega)
   rw [yr] at this
   exact this
  unfold As.iX
  rw [e]
  simp only
  split
  ·exact ⟨⟨by simp,by simp; omega,by simp,by simp⟩,by simp,by simp,hq,Nat.le_refl _⟩
  split
  ·obtain ⟨w1,w2,w3,w4⟩:=UK As.bL s q hq _ rfl
   unfold As.iM
   split
   ·exact ⟨tok0,by simp,by simp; omega,by simp; omega,by simp⟩
   split
   ·exact ⟨tok0,by simp,by have:=hsk As.bL; simp; omega,hsk _,Ke _ _ _⟩
   ·refine ⟨⟨by simp,by simp; omega,hlen _,?_⟩,by simp,by simp,hsk _,Ke _ _ _⟩
    have:=WL _ w1 10 (by omega)
    rw [List.take_of_length_le (by omega)] at this
    exact this
  split
  ·exact ⟨⟨by simp,by simp; omega,hlen _,by simp⟩,by simp,by simp,hsk _,Ke _ _ _⟩
  split
  ·exact ⟨⟨by simp,by simp; omega,by simp,by simp⟩,by simp,by simp,by simp; omega,by simp⟩
  ·exact ⟨tok0,by simp,by simp; omega,hq,Nat.le_refl _⟩
 ·have e:(sl s)[q]?=none:=List.getElem?_eq_none (by rw [yr]; omega)
  unfold As.iX
  rw [e]
  exact ⟨⟨by simp,by simp; omega,by simp,by simp⟩,by simp,by simp,hq,Nat.le_refl _⟩
theorem yqP (s:ByteArray) (p:Nat) (hs:s.size<=1000) (hp:p<=s.size):uU (As.next (sl s) p).1/\(As.next (sl s) p).2.1.1<=99/\(As.next (sl s) p).2.1.2<=1000/\(As.next (sl s) p).2.2<=s.size/\p<=(As.next (sl s) p).2.2:=by
 have hq:=Kh (f:=As.blank) (s:=sl s) (k:=p) (by rw [yr]; exact hp)
 rw [yr] at hq
 obtain ⟨a,b,c,d,e⟩:=yol s (As.skip As.blank (sl s) p) hs hq
 have h2:=Ke As.blank (sl s) p
 exact ⟨a,b,c,d,Nat.le_trans h2 e⟩
theorem J6 (t:As.Tok) (c:List UInt8) (w:World) :
  Calls Tryz.prog 51 #[fM t,.string (bs c)] w fun e w'=>e = .returned (.bool (t.is c))/\w.grownBy w' none:=by
 obtain ⟨kind,pos,text,n⟩:=t
 have E:=hid (show As.Tok.is ⟨kind,pos,text,n⟩ c=(kind == 3 && text == c) from rfl)
 generalize As.Tok.is ⟨kind,pos,text,n⟩ c=x at *
 unfold fM
 simp only
 have G:=hid (fun o:Obj=>aH w o none)
 cases hk:(kind == 3)
 ·have d:((kind:Int) == 3)=false:=by simp at hk ⊢; omega
  rw [hk] at E
  clear hk
  go_enter Tryz.func51,Tryz.ntmps51
  go_wp2
  go_ret
  exact ⟨by rw [E.o]; rfl,G.o _⟩
 ·have d:((kind:Int) == 3)=true:=by simp at hk ⊢; omega
  rw [hk] at E
  clear hk
  cases ht:(text == c)
  ·have b1:((bs text).toList == (bs c).toList)=false:=by rw [yG,yG]; exact ht
   rw [ht] at E
   clear ht
   go_enter Tryz.func51,Tryz.ntmps51
   go_wp2
   go_ret
   exact ⟨by rw [E.o]; rfl,G.o _⟩
  ·have b1:((bs text).toList == (bs c).toList)=true:=by rw [yG,yG]; exact ht
   rw [ht] at E
   clear ht
   go_enter Tryz.func51,Tryz.ntmps51
   go_wp2
   go_ret
   exact ⟨by rw [E.o]; rfl,G.o _⟩
def Ms (g:Nat) (st:As.St):List Value :=
 [.int .i64 st.tok.kind,.int .i64 st.tok.pos,.string (bs st.tok.text),.int .i64 st.tok.n,.int .i64 st.fe,.int .i64 st.fa,.string ⟨#[]⟩,
  .int .i64 st.op.kind,.int .i64 st.op.pos,.string (bs st.op.text),.int .i64 st.op.n,.int .i64 st.ah,.pointer (some ⟨g,0,none⟩)]
theorem yc.new1 (W:World) (o:Obj) (cs:Array Value) (t:TypeId):yc ((W.alloc o).alloc (.cells cs t)) (W.heap.size+1) cs t:=by
 have:=yc.new (W.alloc o) cs t
 rw [show (W.alloc o).heap.size=W.heap.size+1 by simp] at this
 exact this
section
variable {B:Nat} {s:ByteArray} {b g:Nat} {st:As.St} {W W':World}
theorem yl.sc (h:yl B s b g st W):eY s b (Ms g st) st.p W:=h.blk
theorem jm.p' (h:jm s st) (q:Nat) (hq:q<=s.size):jm s { st with p:=q } :=
 ⟨h.size,hq,h.tok,h.fe,h.fa,h.op,h.ah,h.text,h.far,h.data,h.bss,h.align,h.syms,h.aj⟩
theorem yl.scanned (h:yl B s b g st W) {q:Nat} (hsc:eY s b (Ms g st) q W') (hg:W.grownBy W' (some b)) (hq:q<=s.size):yR B s b g W { st with p:=q } W' :=
 ⟨h.put _ hsc hg rfl (h.ok.p' q hq),hg⟩
end
set_option maxRecDepth 100000 in
theorem Aj (B:Nat) (s:ByteArray) (b g:Nat) (st:As.St) (W:World) (h:yl B s b g st W) :
  Calls Tryz.prog 49 #[.pointer (some ⟨b,0,none⟩)] W fun en W'=>en = .returned (.tuple #[])/\yR B s b g W (As.advance (sl s) st) W':=by
 have cF:=hid (AZ B s b g st W h)
 have H:=hid h
 clear h
 cases hf:As.failed st
 ·have cN:=hid (ypw s b (Ms g st) st.p W H.o.sc H.o.ok.size H.o.ok.p)
  obtain ⟨o1,o2,o3,o4,-⟩:=yqP s st.p H.o.ok.size H.o.ok.p
  have RA:=hid (show As.advance (sl s) st=if (As.next (sl s) st.p).2.1.1 == 0 then { st with p:=(As.next (sl s) st.p).2.2,tok:=(As.next (sl s) st.p).1 } else As.refuse (As.next (sl s) st.p).2.1.1 (As.next (sl s) st.p).2.1.2 { st with p:=(As.next (sl s) st.p).2.2 } from by unfold As.advance; rw [hf]; rfl)
  generalize As.next (sl s) st.p=R at *
  obtain ⟨⟨kk,pp,tt,nn⟩,⟨fe,fa⟩,rr⟩:=R
  simp only at o1 o2 o3 o4 RA
  rw [hf] at cF
  clear hf
  go_enter Tryz.func49,Tryz.ntmps49
  go_wp2_with fail
  refine cF.o.mono ?_
  rintro e w1 ⟨rfl,rfl⟩
  clear cF
  go_wp2_with fail
  refine cN.o.mono ?_
  rintro e V ⟨rfl,hsc,hg⟩
  simp only [oC,fM,mZ] at hsc ⊢
  have hd:yR B s b g w1 { st with p:=rr } V:=H.o.scanned hsc hg o4
  clear hsc hg cN H
  have HD:=hid hd
  have H1:=hid hd.1
  clear hd
  cases hz:(fe == 0)
  ·have d:((fe:Int) == 0)=false:=by simp at hz ⊢; omega
   have d':((fe:Int) != 0)=true:=by simp at hz ⊢; omega
   rw [hz] at RA
   clear hz
   go_wp2_with fail
   refine (yJ B s b g _ fe fa _ ((HD.o.alloc _).alloc _).1 o2 o3).mono ?_
   rintro e V2 ⟨rfl,h2⟩
   have HF:=hid (((HD.o.alloc _).alloc _).after h2)
   clear h2
   go_wp2
   (try simp only [Exit.inBlock,Exit.then]); refine bodyPost_ret (results_none rfl _ _ _) rfl ?_
   rw [RA.o]
   exact ⟨rfl,HF.o⟩
  ·have d:((fe:Int) == 0)=true:=by simp at hz ⊢; omega
   have d':((fe:Int) != 0)=false:=by simp at hz ⊢; omega
   rw [hz] at RA
   clear hz
   have k2:=H1.o.blk.free 2
   have k3:=H1.o.blk.free 3
   have k4:=H1.o.blk.free 4
   have k5:=H1.o.blk.free 5
   have c2:=yL H1.o 2
   have c3:=yL H1.o 3
   have c4:=yL H1.o 4
   have c5:=yL H1.o 5
   simp only [yE,bC,bG,bE] at c2 c3 c4 c5
   have hbl:=H1.o.blk.lt
   have hn1:b≠V.heap.size:=by omega
   have hn2:b≠V.heap.size+1:=by omega
   go_wp2
   go_end0
   rw [RA.o]
   have F:=HD.o.sets [(2,.int .i64 kk),(3,.int .i64 pp),(4,.string (bs tt)),(5,.int .i64 nn)] { st with p:=rr,tok:=⟨kk,pp,tt,nn⟩ }
    (by simp only [rT,yE,kH,kQ,fQ,fT,fP]) rfl (H1.o.ok.tok' _ o1 _ _ H1.o.ok.fe H1.o.ok.fa)
   exact ⟨rfl,(F.alloc _).alloc _⟩
 ·have R:=hid (show As.advance (sl s) st=st by unfold As.advance; rw [hf]; rfl)
  rw [hf] at cF
  clear hf
  go_enter Tryz.func49,Tryz.ntmps49
  go_wp2_with fail
  refine cF.o.mono ?_
  rintro e w1 ⟨rfl,rfl⟩
  go_wp2
  (try simp only [Exit.inBlock,Exit.then]); refine bodyPost_ret (results_none rfl _ _ _) rfl ?_
  rw [R.o]
  exact ⟨rfl,H.o.jI⟩
set_option maxRecDepth 100000 in
theorem TU (B:Nat) (s:ByteArray) (b g:Nat) (st:As.St) (W:World) (h:yl B s b g st W) :
  Calls Tryz.prog 50 #[.pointer (some ⟨b,0,none⟩)] W fun en W'=>en = .returned (fM (As.dP (sl s) st).1)/\yR B s b g W (As.dP (sl s) st).2 W':=by
 have H:=hid h
 have hbl:=h.blk.lt
 have c2:=yL h 2
 have c3:=yL h 3
 have c4:=yL h 4
 have c5:=yL h 5
 simp only [yE,bC,bG,bE] at c2 c3 c4 c5
 clear h
 have hn1:b≠W.heap.size:=by omega
 have hn2:b≠W.heap.size+1:=by omega
 cases hk:(st.tok.kind == 1)
 ·have d:((st.tok.kind:Int) == 1)=false:=by simp at hk ⊢; omega
  have d':((st.tok.kind:Int) != 1)=true:=by simp at hk ⊢; omega
  have R:=hid (show As.dP (sl s) st=(As.Tok.nil,st) by unfold As.dP; rw [hk]; rfl)
  clear hk
  go_enter Tryz.func50,Tryz.ntmps50
  go_wp2
  have F:=yc.new W #[.int .i64 0,.int .i64 0,.string ⟨#[]⟩,.int .i64 0] 64
  have e0:=F.cell 0
  have e1:=F.cell 1
  have e2:=F.cell 2
  have e3:=F.cell 3
  simp only [bC,bG,bE] at e0 e1 e2 e3
  rw [R.o]
  refine bodyPost_ret (v:=fM As.Tok.nil) ?_ rfl ⟨rfl,H.o.jI.alloc _⟩
  clear F
  generalize World.alloc _ _=WF at *
  simp [results,Tryz.results50,go_sem,fM,As.Tok.nil,bs,e0,e1,e2,e3]
 ·have d:((st.tok.kind:Int) == 1)=true:=by simp at hk ⊢; omega
  have d':((st.tok.kind:Int) != 1)=false:=by simp at hk ⊢; omega
  have R:=hid (show As.dP (sl s) st=(st.tok,As.advance (sl s) st) by unfold As.dP; rw [hk]; rfl)
  clear hk
  go_enter Tryz.func50,Tryz.ntmps50
  go_wp2_with fail
  refine (Aj B s b g st _ ((H.o.jI.alloc _).alloc _).1).mono ?_
  rintro e V ⟨rfl,hd⟩
  have L1:=hid ((((yc.new W #[.int .i64 0,.int .i64 0,.string ⟨#[]⟩,.int .i64 0] 64).grown (aH _ (.cells #[.int .i64 st.tok.kind,.int .i64 st.tok.pos,.string (bs st.tok.text),.int .i64 st.tok.n] 64) none) (by simp)).grown hd.2 (by simp; omega)))
  have L2:=hid ((yc.new1 W (.cells #[.int .i64 0,.int .i64 0,.string ⟨#[]⟩,.int .i64 0] 64) #[.int .i64 st.tok.kind,.int .i64 st.tok.pos,.string (bs st.tok.text),.int .i64 st.tok.n] 64).grown hd.2 (by simp; omega))
  have HD:=hid (((H.o.jI.alloc _).alloc _).after hd)
  clear hd c2 c3 c4 c5
  have m0:=L2.o.cell 0
  have m1:=L2.o.cell 1
  have m2:=L2.o.cell 2
  have m3:=L2.o.cell 3
  have t0:=L1.o.cell 0
  have t1:=L1.o.cell 1
  have t2:=L1.o.cell 2
  have t3:=L1.o.cell 3
  have v0:=L1.o.free 0
  have v1:=L1.o.free 1
  have v2:=L1.o.free 2
  have v3:=L1.o.free 3
  simp only [bC,bG,bE] at m0 m1 m2 m3 t0 t1 t2 t3
  go_wp2
  rw [R.o]
  have D:=HD.o.local L1.o (by unfold sF; decide) H.o.size (Nat.le_refl _) [(0,.int .i64 st.tok.kind),(1,.int .i64 st.tok.pos),(2,.string (bs st.tok.text)),(3,.int .i64 st.tok.n)]
  have F:=Ba [(0,.int .i64 st.tok.kind),(1,.int .i64 st.tok.pos),(2,.string (bs st.tok.text)),(3,.int .i64 st.tok.n)] L1.o
  have e0:=F.cell 0
  have e1:=F.cell 1
  have e2:=F.cell 2
  have e3:=F.cell 3
  simp only [rT,kH,kQ,fQ,fT,fP,bC,bG,bE] at e0 e1 e2 e3
  refine bodyPost_ret (v:=fM st.tok) ?_ rfl ⟨rfl,D⟩
  clear D F t0 t1 t2 t3 v0 v1 v2 v3 m0 m1 m2 m3
  simp only [sets,kH,kQ] at e0 e1 e2 e3
  generalize World.setCell _ _ _=WF at *
  simp [results,Tryz.results50,go_sem,fM,e0,e1,e2,e3]
theorem yjJ (s:ByteArray) (w:World) (hs:s.size<=1000) :
  Calls Tryz.prog 135 #[.string s] w fun e w'=>e = .returned (.bool (As.jU (sl s)))/\w'=w:=by
 have HP:=hid (show As.jU (sl s)=(sl s).any (fun c=>c.toNat == 46) from rfl)
 generalize As.jU (sl s)=x at *
 go_enter Tryz.func135,Tryz.ntmps135
 go_wp2
 go_loop [3] (fun i=>∃ k:Nat,k<=s.size/\i = .int .i64 k/\∀ j (hj:j < s.size),j < k->(s[j]'hj).toNat≠46) (fun i=>s.size - (intOf i).toNat)
 case atStart=>exact ⟨0,Nat.zero_le _,rfl,fun j _ hj=>absurd hj (Nat.not_lt_zero j)⟩
 case round =>
  obtain ⟨k,hk,rfl,hall⟩:=hrel
  have HA:=hid hall
  clear hall
  by_cases hlt:k < s.size
  ·by_cases e1:(s[k]'hlt).toNat=46
   ·have d1:(((s[k]'hlt).toNat:Int) == 46)=true:=by simp; omega
    have E:=hid (show x=true by rw [HP.o,List.any_eq_true]; exact ⟨s[k]'hlt,by rw [<- MG s k hlt]; exact gW _,by rw [e1]; rfl⟩)
    clear e1
    go_wp2
    go_ret
    exact ⟨by rw [E.o]; rfl,rfl⟩
   ·have d1:(((s[k]'hlt).toNat:Int) == 46)=false:=by simp; omega
    have E:=hid e1
    clear e1
    go_wp2
    go_round
    case rel=>exact ⟨k+1,by omega,by go_num,fun j hj hjk=>(Nat.lt_succ_iff_lt_or_eq.1 hjk).elim (fun h=>HA.o j hj h) (fun h=>by subst h; exact E.o)⟩
    case measure=>simp [intOf]; omega
  ·have E:=hid (show x=false from by
    rw [HP.o,List.any_eq_false]
    intro c hc
    obtain ⟨j,hj,rfl⟩:=List.getElem_of_mem hc
    have hj':j < s.size:=by rw [yr] at hj; exact hj
    have:=HA.o j hj' (by omega)
    simp only [beq_iff_eq]
    exact this)
   go_wp2
   go_ret
   exact ⟨by rw [E.o]; rfl,rfl⟩
theorem ymW (l:List UInt8):As.jk l=if 2<=l.length/\l.length<=3/\(l[0]?.map (·.toNat))=some 120/\¬ ((l[1]?.map (·.toNat))=some 48/\2 < l.length)/\(∀ c∈l.drop 1,As.bL c=true)/\As.dec (l.drop 1)<=31 then some (As.dec (l.drop 1)) else none:=by
 match l with
 | []=>simp [As.jk]
 | [a]=>simp [As.jk]
 | [x,a] =>
  simp only [As.jk,iE,List.length_nil,bE,Option.map_some,Option.some.injEq,List.drop_succ_cons,List.drop_zero,List.mem_singleton,forall_eq,As.dec,kH,kQ]
  by_cases h:x.toNat=120/\As.bL a=true
  ·have h2:=h.2
   unfold As.bL at h2
   simp at h2
   rw [if_pos h,if_pos ⟨by omega,by omega,h.1,by simp,h.2,by omega⟩]
   simp
  ·rw [if_neg h,if_neg (fun k=>h ⟨k.2.2.1,k.2.2.2.2.1⟩)]
 | [x,a,b] =>
  simp only [As.jk,iE,List.length_nil,bE,bG,Option.map_some,Option.some.injEq,List.drop_succ_cons,List.drop_zero,List.mem_cons,List.mem_nil_iff,or_false,forall_eq_or_imp,forall_eq,As.dec,kH,kQ]
  by_cases h:x.toNat=120/\As.bL a=true/\a.toNat≠48/\As.bL b=true/\10 * (a.toNat - 48)+(b.toNat - 48)<=31
  ·rw [if_pos h,if_pos ⟨by omega,by omega,h.1,fun k=>h.2.2.1 k.1,⟨h.2.1,h.2.2.2.1⟩,by omega⟩]
   simp
  ·rw [if_neg h,if_neg (fun k=>h ⟨k.2.2.1,k.2.2.2.2.1.1,fun e=>k.2.2.2.1 ⟨e,by omega⟩,k.2.2.2.2.1.2,by have:=k.2.2.2.2.2; omega⟩)]
 | a :: b :: c :: d :: l =>
  rw [if_neg (fun k=>by have:=k.2.1; simp at this)]
  rfl
def wY (r:Option Nat):Value:=.tuple #[.int .i64 (r.getD 0),.bool r.isSome]
set_option maxRecDepth 100000 in
theorem Tt (s:ByteArray) (w:World) (hs:s.size<=1000) :
  Calls Tryz.prog 136 #[.string s] w fun e w'=>e = .returned (wY (As.jk (sl s)))/\w'=w:=by
 have SP:=hid (ymW (sl s))
 generalize As.jk (sl s)=R at *
 have SL:=hid (yr s)
 have no:Hd (R=none->wY R = .tuple #[.int .i64 0,.bool false]):=fun h=>by rw [h]; rfl
 by_cases c1:s.size < 2
 ·have D:decide ((s.size:Int) < 2)=true:=by simp; omega
  have RN:=hid (show R=none by rw [SP.o,if_neg (fun k=>by have:=k.1; rw [SL.o] at this; omega)])
  clear c1
  go_enter Tryz.func136,Tryz.ntmps136
  go_wp2
  go_ret2
  exact ⟨by rw [no.o RN.o]; rfl,rfl⟩
 by_cases c2:3 < s.size
 ·have D1:decide ((s.size:Int) < 2)=false:=by simp; omega
  have D:decide ((3:Int) < (s.size:Int))=true:=by simp; omega
  have RN:=hid (show R=none by rw [SP.o,if_neg (fun k=>by have:=k.2.1; rw [SL.o] at this; omega)])
  clear c1 c2
  go_enter Tryz.func136,Tryz.ntmps136
  go_wp2
  go_ret2
  exact ⟨by rw [no.o RN.o]; rfl,rfl⟩
 have D1:decide ((s.size:Int) < 2)=false:=by simp; omega
 have D2:decide ((3:Int) < (s.size:Int))=false:=by simp; omega
 have h0:0 < s.size:=by omega
 have h1:1 < s.size:=by omega
 have g0:(0:Int) < (s.size:Int):=by omega
 have g1:(1:Int) < (s.size:Int):=by omega
 have E0:=hid (show ((sl s)[0]?.map (·.toNat))=some (s[0]'h0).toNat by rw [jF (by rw [SL.o]; exact h0)]; rfl)
 have E1:=hid (show ((sl s)[1]?.map (·.toNat))=some (s[1]'h1).toNat by rw [jF (by rw [SL.o]; exact h1)]; rfl)
 by_cases c3:¬ (s[0]'h0).toNat=120
 ·have D3:(((s[0]'h0).toNat:Int) == 120)=false:=by simp; omega
  have D4:(((s[0]'h0).toNat:Int) != 120)=true:=by simp; omega
  have RN:=hid (show R=none by rw [SP.o,if_neg (fun k=>by have:=k.2.2.1; rw [E0.o] at this; exact c3 (Option.some.inj this))])
  clear c1 c2 c3
  go_enter Tryz.func136,Tryz.ntmps136
  go_wp2
  go_ret2
  exact ⟨by rw [no.o RN.o]; rfl,rfl⟩
 have D3:(((s[0]'h0).toNat:Int) == 120)=true:=by simp; omega
 have D4:(((s[0]'h0).toNat:Int) != 120)=false:=by simp; omega
 have C3:=hid (show (s[0]'h0).toNat=120 by omega)
 clear c3
 by_cases c4:(s[1]'h1).toNat=48/\2 < s.size
 ·have D5:(((s[1]'h1).toNat:Int) == 48)=true:=by simp; omega
  have D6:decide ((2:Int) < (s.size:Int))=true:=by simp; omega
  have RN:=hid (show R=none by rw [SP.o,if_neg (fun k=>k.2.2.2.1 ⟨by rw [E1.o,c4.1],by rw [SL.o]; exact c4.2⟩)])
  clear c1 c2 c4
  go_enter Tryz.func136,Tryz.ntmps136
  go_wp2
  go_ret2
  exact ⟨by rw [no.o RN.o]; rfl,rfl⟩
 have C4:=hid c4
 have DS:=hid (show ((sl s).drop 1).length=s.size - 1 by rw [List.length_drop,SL.o])
 have DL:=hid (show ((sl s).drop 1).length<=2 by rw [DS.o]; omega)
 have DG:=hid (show ∀ j (h:j < ((sl s).drop 1).length) (hk:j+1 < s.size),s[j+1]'hk=((sl s).drop 1)[j] from fun j h hk=>by
  rw [List.getElem_drop]
  have:1+j=j+1:=by omega
  simp only [this]
  rfl)
 have RS:=hid (show (∀ c∈(sl s).drop 1,As.bL c=true)->As.dec ((sl s).drop 1)<=31->R=some (As.dec ((sl s).drop 1)) from fun a b=>by
  rw [SP.o,if_pos ⟨by rw [SL.o]; omega,by rw [SL.o]; omega,by rw [E0.o,C3.o],fun k=>C4.o ⟨by have:=k.1; rw [E1.o] at this; exact Option.some.inj this,by have:=k.2; rw [SL.o] at this; exact this⟩,a,b⟩])
 have Rs:=hid (show (¬ ∀ c∈(sl s).drop 1,As.bL c=true)->R=none from fun a=>by rw [SP.o,if_neg (fun k=>a k.2.2.2.2.1)])
 have Rt:=hid (show (¬ As.dec ((sl s).drop 1)<=31)->R=none from fun a=>by rw [SP.o,if_neg (fun k=>a k.2.2.2.2.2)])
 have yes:Hd (∀ r:Nat,R=some r->wY R = .tuple #[.int .i64 r,.bool true]):=fun r h=>by rw [h]; rfl
 clear SP E0 C3 C4
 generalize (sl s).drop 1=ds at *
 clear E1
 by_cases c5:(s[1]'h1).toNat=48
 ·have D5:(((s[1]'h1).toNat:Int) == 48)=true:=by simp; omega
  have D6:decide ((2:Int) < (s.size:Int))=false:=by simp; omega
  clear c1 c2 c4 c5
  go_enter Tryz.func136,Tryz.ntmps136
  go_wp2
  go_loop [4,5] (fun r i=>∃ j:Nat,j<=ds.length/\i = .int .i64 (j+1:Nat)/\r = .int .i64 (As.dec (ds.take j))/\∀ c∈ds.take j,As.bL c=true) (fun _ i=>s.size - (intOf i).toNat)
  case atStart=>exact ⟨0,Nat.zero_le _,rfl,rfl,by simp⟩
  case round =>
   obtain ⟨j,hj,rfl,rfl,hall⟩:=hrel
   have HA:=hid hall
   have hb:=Qs (ds.take j) hall
   have hl:(ds.take j).length<=2:=by rw [List.length_take]; have:=DL.o; omega
   have hb2:As.dec (ds.take j)<=100:=by
    have h3:10 ^ (ds.take j).length<=10 ^ 2:=Nat.pow_le_pow_right (by decide) hl
    omega
   clear hb hl hall
   have Iw:=hid (PX ds j)
   have Nb:=hid (fun h:ds.length<=j=>List.take_of_length_le h)
   generalize hn:As.dec (ds.take j)=n at *
   have HN:=hid hn
   clear hn
   generalize hm:j+1=m at *
   have HM:=hid hm
   clear hm
   by_cases hlt:m < s.size
   ·have hlt2:(m:Int) < (s.size:Int):=by omega
    have hj2:j < ds.length:=by have:=DS.o; have:=HM.o; omega
    have EG:=hid (show (s[m]'hlt)=ds[j] from by have e:=HM.o; subst e; exact DG.o j hj2 hlt)
    have cD:=hid (fun W=>Mf (s[m]'hlt) W)
    cases hd:As.bL (s[m]'hlt)
    ·have RN:=hid (Rs.o (fun k=>by have:=k ds[j] (gW hj2); rw [<- EG.o,hd] at this; exact Bool.false_ne_true this))
     rw [hd] at cD
     clear hd
     go_wp2_with fail
     refine (cD.o _).mono ?_
     rintro e w1 ⟨rfl,rfl⟩
     go_wp2
     go_ret2
     exact ⟨by rw [no.o RN.o]; rfl,rfl⟩
    ·have HD:=hid hd
     rw [hd] at cD
     clear hd
     go_wp2_with fail
     refine (cD.o _).mono ?_
     rintro e w1 ⟨rfl,rfl⟩
     go_wp2
     go_round
     case rel =>
      refine ⟨j+1,by omega,by have:=HM.o; go_num,?_,?_⟩
      ·rw [HM.o,Iw.o hj2,<- EG.o]
       have:=HD.o
       unfold As.bL at this
       simp at this
       congr 1
       omega
      ·intro c hc
       rw [List.take_succ_eq_append_getElem hj2,List.mem_append,List.mem_singleton] at hc
       rcases hc with hc | rfl
       ·exact HA.o c hc
       ·rw [<- EG.o]; exact HD.o
     case measure=>simp [intOf]; omega
   ·have hlt2:(s.size:Int)<=(m:Int):=by omega
    have hj2:ds.length<=j:=by have:=DS.o; have:=HM.o; omega
    have ED:=hid (show ds.take j=ds from Nb.o hj2)
    by_cases h31:n<=31
    ·have D7:decide ((31:Int) < (n:Int))=false:=by simp; omega
     have RY:=hid (yes.o n (by rw [RS.o (by rw [<- ED.o]; exact HA.o) (by rw [<- ED.o,HN.o]; exact h31),<- HN.o,ED.o]))
     clear h31
     go_wp2
     go_ret2
     exact ⟨by rw [RY.o]; rfl,rfl⟩
    ·have D7:decide ((31:Int) < (n:Int))=true:=by simp; omega
     have RN:=hid (Rt.o (by rw [<- ED.o,HN.o]; exact h31))
     clear h31
     go_wp2
     go_ret2
     exact ⟨by rw [no.o RN.o]; rfl,rfl⟩
 ·have D5:(((s[1]'h1).toNat:Int) == 48)=false:=by simp; omega
  clear c1 c2 c4 c5
  go_enter Tryz.func136,Tryz.ntmps136
  go_wp2
  go_loop [4,5] (fun r i=>∃ j:Nat,j<=ds.length/\i = .int .i64 (j+1:Nat)/\r = .int .i64 (As.dec (ds.take j))/\∀ c∈ds.take j,As.bL c=true) (fun _ i=>s.size - (intOf i).toNat)
  case atStart=>exact ⟨0,Nat.zero_le _,rfl,rfl,by simp⟩
  case round =>
   obtain ⟨j,hj,rfl,rfl,hall⟩:=hrel
   have HA:=hid hall
   have hb:=Qs (ds.take j) hall
   have hl:(ds.take j).length<=2:=by rw [List.length_take]; have:=DL.o; omega
   have hb2:As.dec (ds.take j)<=100:=by
    have h3:10 ^ (ds.take j).length<=10 ^ 2:=Nat.pow_le_pow_right (by decide) hl
    omega
   clear hb hl hall
   have Iw:=hid (PX ds j)
   have Nb:=hid (fun h:ds.length<=j=>List.take_of_length_le h)
   generalize hn:As.dec (ds.take j)=n at *
   have HN:=hid hn
   clear hn
   generalize hm:j+1=m at *
   have HM:=hid hm
   clear hm
   by_cases hlt:m < s.size
   ·have hlt2:(m:Int) < (s.size:Int):=by omega
    have hj2:j < ds.length:=by have:=DS.o; have:=HM.o; omega
    have EG:=hid (show (s[m]'hlt)=ds[j] from by have e:=HM.o; subst e; exact DG.o j hj2 hlt)
    have cD:=hid (fun W=>Mf (s[m]'hlt) W)
    cases hd:As.bL (s[m]'hlt)
    ·have RN:=hid (Rs.o (fun k=>by have:=k ds[j] (gW hj2); rw [<- EG.o,hd] at this; exact Bool.false_ne_true this))
     rw [hd] at cD
     clear hd
     go_wp2_with fail
     refine (cD.o _).mono ?_
     rintro e w1 ⟨rfl,rfl⟩
     go_wp2
     go_ret2
     exact ⟨by rw [no.o RN.o]; rfl,rfl⟩
    ·have HD:=hid hd
     rw [hd] at cD
     clear hd
     go_wp2_with fail
     refine (cD.o _).mono ?_
     rintro e w1 ⟨rfl,rfl⟩
     go_wp2
     go_round
     case rel =>
      refine ⟨j+1,by omega,by have:=HM.o; go_num,?_,?_⟩
      ·rw [HM.o,Iw.o hj2,<- EG.o]
       have:=HD.o
       unfold As.bL at this
       simp at this
       congr 1
       omega
      ·intro c hc
       rw [List.take_succ_eq_append_getElem hj2,List.mem_append,List.mem_singleton] at hc
       rcases hc with hc | rfl
       ·exact HA.o c hc
       ·rw [<- EG.o]; exact HD.o
     case measure=>simp [intOf]; omega
   ·have hlt2:(s.size:Int)<=(m:Int):=by omega
    have hj2:ds.length<=j:=by have:=DS.o; have:=HM.o; omega
    have ED:=hid (show ds.take j=ds from Nb.o hj2)
    by_cases h31:n<=31
    ·have D7:decide ((31:Int) < (n:Int))=false:=by simp; omega
     have RY:=hid (yes.o n (by rw [RS.o (by rw [<- ED.o]; exact HA.o) (by rw [<- ED.o,HN.o]; exact h31),<- HN.o,ED.o]))
     clear h31
     go_wp2
     go_ret2
     exact ⟨by rw [RY.o]; rfl,rfl⟩
    ·have D7:decide ((31:Int) < (n:Int))=true:=by simp; omega
     have RN:=hid (Rt.o (by rw [<- ED.o,HN.o]; exact h31))
     clear h31
     go_wp2
     go_ret2
     exact ⟨by rw [no.o RN.o]; rfl,rfl⟩
theorem tV {B:Nat} {s:ByteArray} {b g:Nat} {st:As.St} {W:World} (h:yl B s b g st W) :
  W.cell? ⟨b,2,none⟩=some (.int .i64 st.tok.kind)/\W.cell? ⟨b,3,none⟩=some (.int .i64 st.tok.pos)/\W.cell? ⟨b,4,none⟩=some (.string (bs st.tok.text))/\W.cell? ⟨b,5,none⟩=some (.int .i64 st.tok.n):=by
 have c2:=yL h 2
 have c3:=yL h 3
 have c4:=yL h 4
 have c5:=yL h 5
 simp only [yE,bC,bG,bE] at c2 c3 c4 c5
 exact ⟨c2,c3,c4,c5⟩
theorem Zy (B:Nat) (s:ByteArray) (b g:Nat) (st:As.St) (W:World) (h:yl B s b g st W) :
  Calls Tryz.prog 32 #[.pointer (some ⟨b,0,none⟩)] W fun en W'=>en = .returned (.bool (As.dN (sl s) st).1)/\yR B s b g W (As.dN (sl s) st).2 W':=by
 have cF:=hid (AZ B s b g st W h)
 have H:=hid h
 clear h
 cases hf:As.failed st
 ·have cN:=hid (ylh s b (Ms g st) st.p W H.o.sc H.o.ok.size H.o.ok.p)
  have o4:(As.lineEnd (sl s) st.p).2<=s.size:=by
   have:=Kh (f:=As.iI) (s:=sl s) (k:=st.p) (by rw [yr]; exact H.o.ok.p)
   rw [yr] at this
   unfold As.lineEnd
   split
   ·rename_i hx
    rw [yr] at hx
    exact hx
   ·exact this
  have RA:=hid (show As.dN (sl s) st=((As.lineEnd (sl s) st.p).1,{ st with p:=(As.lineEnd (sl s) st.p).2 }) from by unfold As.dN; rw [hf]; rfl)
  generalize As.dN (sl s) st=X at *
  generalize As.lineEnd (sl s) st.p=R at *
  rw [hf] at cF
  clear hf
  go_enter Tryz.func32,Tryz.ntmps32
  go_wp2_with fail
  refine cF.o.mono ?_
  rintro e w1 ⟨rfl,rfl⟩
  clear cF
  go_wp2_with fail
  refine cN.o.mono ?_
  rintro e V ⟨rfl,hsc,hg⟩
  have HD:=hid (H.o.scanned hsc hg o4)
  clear hsc hg cN
  go_wp2
  go_ret
  rw [RA.o]
  exact ⟨rfl,HD.o⟩
 ·have R:=hid (show As.dN (sl s) st=(false,st) by unfold As.dN; rw [hf]; rfl)
  rw [hf] at cF
  clear hf
  go_enter Tryz.func32,Tryz.ntmps32
  go_wp2_with fail
  refine cF.o.mono ?_
  rintro e w1 ⟨rfl,rfl⟩
  go_wp2
  go_ret
  rw [R.o]
  exact ⟨rfl,H.o.jI⟩
theorem tJ (B:Nat) (s:ByteArray) (b g:Nat) (st:As.St) (c:List UInt8) (W:World) (h:yl B s b g st W) :
  Calls Tryz.prog 187 #[.pointer (some ⟨b,0,none⟩),.string (bs c)] W fun en W'=>en = .returned (.tuple #[])/\yR B s b g W (As.sign (sl s) c st) W':=by
 have H:=hid h
 obtain ⟨c2,c3,c4,c5⟩:=tV h
 clear h
 have cI:=hid (J6 st.tok c W)
 have hpos:=H.o.ok.tok.pos
 unfold fM at cI
 have RS:=hid (show As.sign (sl s) c st=if st.tok.is c then As.advance (sl s) st else As.refuse 3 st.tok.pos st from rfl)
 generalize As.sign (sl s) c st=X at *
 go_enter Tryz.func187,Tryz.ntmps187
 go_wp2_with fail
 refine cI.o.mono ?_
 rintro e V ⟨rfl,hg⟩
 have HD:=hid (H.o.jI.grown hg)
 clear hg cI c2 c3 c4 c5
 obtain ⟨c2,c3,c4,c5⟩:=tV HD.o.1
 cases hi:st.tok.is c
 ·rw [hi] at RS
  clear hi
  go_wp2_with fail
  refine (yJ B s b g st 3 st.tok.pos V HD.o.1 (by omega) hpos).mono ?_
  rintro e V2 ⟨rfl,h2⟩
  have HF:=hid (HD.o.after h2)
  clear h2
  go_wp2
  (try simp only [Exit.inBlock,Exit.then]); refine bodyPost_ret (results_none rfl _ _ _) rfl ?_
  rw [RS.o]
  exact ⟨rfl,HF.o⟩
 ·rw [hi] at RS
  clear hi
  go_wp2_with fail
  refine (Aj B s b g st V HD.o.1).mono ?_
  rintro e V2 ⟨rfl,h2⟩
  have HF:=hid (HD.o.after h2)
  clear h2
  go_wp2
  go_end0
  rw [RS.o]
  exact ⟨rfl,HF.o⟩
theorem yP (B:Nat) (s:ByteArray) (b g:Nat) (st:As.St) (W:World) (h:yl B s b g st W) :
  Calls Tryz.prog 186 #[.pointer (some ⟨b,0,none⟩)] W fun en W'=>en = .returned (.int .i64 (As.register (sl s) st).1)/\yR B s b g W (As.register (sl s) st).2 W':=by
 have H:=hid h
 obtain ⟨c2,c3,c4,c5⟩:=tV h
 clear h
 have hpos:=H.o.ok.tok.pos
 cases hk:(st.tok.kind == 1)
 ·have d:((st.tok.kind:Int) == 1)=false:=by simp at hk ⊢; omega
  have d':((st.tok.kind:Int) != 1)=true:=by simp at hk ⊢; omega
  have RS:=hid (show As.register (sl s) st=(0,As.refuse 3 st.tok.pos st) by unfold As.register; rw [hk]; rfl)
  generalize As.register (sl s) st=X at *
  clear hk
  go_enter Tryz.func186,Tryz.ntmps186
  go_wp2_with fail
  refine (yJ B s b g st 3 st.tok.pos W H.o (by omega) hpos).mono ?_
  rintro e V2 ⟨rfl,h2⟩
  have HF:=hid h2
  clear h2
  go_wp2
  go_ret
  rw [RS.o]
  exact ⟨rfl,HF.o⟩
 ·have d:((st.tok.kind:Int) == 1)=true:=by simp at hk ⊢; omega
  have d':((st.tok.kind:Int) != 1)=false:=by simp at hk ⊢; omega
  have cR:=hid (Tt (bs st.tok.text) W (by rw [Ao]; exact H.o.ok.tok.text))
  rw [Dj] at cR
  have RS:=hid (show As.register (sl s) st=match As.jk st.tok.text with
   | none=>(0,As.refuse 7 st.tok.pos st)
   | some r=>(r,As.advance (sl s) st) by unfold As.register; rw [hk]; rfl)
  generalize As.register (sl s) st=X at *
  clear hk
  go_enter Tryz.func186,Tryz.ntmps186
  go_wp2_with fail
  refine cR.o.mono ?_
  rintro e w1 ⟨rfl,rfl⟩
  cases hr:As.jk st.tok.text with
  | none =>
   rw [hr] at RS
   clear hr cR
   simp only [wY,Option.getD_none,Option.isSome_none]
   go_wp2_with fail
   refine (yJ B s b g st 7 st.tok.pos w1 H.o (by omega) hpos).mono ?_
   rintro e V2 ⟨rfl,h2⟩
   have HF:=hid h2
   clear h2
   go_wp2
   go_ret
   rw [RS.o]
   exact ⟨rfl,HF.o⟩
  | some r =>
   rw [hr] at RS
   clear hr cR
   simp only [wY,Option.getD_some,Option.isSome_some]
   go_wp2_with fail
   refine (Aj B s b g st w1 H.o).mono ?_
   rintro e V2 ⟨rfl,h2⟩
   have HF:=hid h2
   clear h2
   go_wp2
   go_ret
   rw [RS.o]
   exact ⟨rfl,HF.o⟩
def yS (t:As.Tok):Array Value:=#[.int .i64 t.kind,.int .i64 t.pos,.string (bs t.text),.int .i64 t.n]
structure kJ (B:Nat) (s:ByteArray) (b g:Nat) (W:World) (r:Nat) (t:As.Tok) (st:As.St) (V:World):Prop where
 d:yR B s b g W st V
 l:yc V r (yS t) 64
section
variable {B:Nat} {s:ByteArray} {b g r:Nat} {W V V':World} {t:As.Tok} {st st':As.St}
theorem kJ.ne (h:kJ B s b g W r t st V):r≠b:=by
 intro e
 subst e
 have:=h.l.symm.trans h.d.1.blk
 simp [yS,yE] at this
theorem kJ.step (h:kJ B s b g W r t st V) (k:yR B s b g V st' V'):kJ B s b g W r t st' V':=⟨h.d.after k,h.l.grown k.2 (by have:=h.ne; simpa using this)⟩
theorem kJ.cells (h:kJ B s b g W r t st V):V.cell? ⟨r,0,none⟩=some (.int .i64 t.kind)/\V.cell? ⟨r,1,none⟩=some (.int .i64 t.pos)/\V.cell? ⟨r,2,none⟩=some (.string (bs t.text))/\V.cell? ⟨r,3,none⟩=some (.int .i64 t.n):=by
 have c0:=h.l.cell 0
 have c1:=h.l.cell 1
 have c2:=h.l.cell 2
 have c3:=h.l.cell 3
 simp only [yS,bC,bG,bE] at c0 c1 c2 c3
 exact ⟨c0,c1,c2,c3⟩
theorem kJ.begin (h:yl B s b g st W) (t:As.Tok):kJ B s b g W W.heap.size t st (W.alloc (.cells (yS t) 64)):=⟨h.jI.alloc _,yc.new W _ _⟩
end
set_option maxRecDepth 100000 in
theorem Ua (B:Nat) (s:ByteArray) (b g:Nat) (st:As.St) (t:As.Tok) (W:World) (h:yl B s b g st W) (ht:uU t) :
  Calls Tryz.prog 85 #[.pointer (some ⟨b,0,none⟩),fM t] W fun en W'=>en = .returned (.tuple #[])/\yR B s b g W (As.bV t st) W':=by
 have L0:=hid (kJ.begin h t)
 have hpos:=ht.pos
 have htx:(bs t.text).size<=1000:=by rw [Ao]; exact ht.text
 have hlen:(bs t.text).size=t.text.length:=Ao _
 clear h
 have RC:=hid (show As.bV t st=As.aW (As.jk t.text).isSome 7 t.pos (As.aW (decide (6 < t.text.length)) 4 t.pos (As.aW (As.jU t.text) 3 t.pos st)) from rfl)
 generalize As.bV t st=X at *
 have cP:=hid (fun V=>yjJ (bs t.text) V htx)
 have cR:=hid (fun V=>Tt (bs t.text) V htx)
 rw [Dj] at cP cR
 have ref:Hd (∀ (e:Nat) (x:As.St) V,kJ B s b g W W.heap.size t x V->e<=99->Calls Tryz.prog 54 #[.pointer (some ⟨b,0,none⟩),.int .i64 e,.int .i64 t.pos] V fun en W'=>en = .returned (.tuple #[])/\kJ B s b g W W.heap.size t (As.refuse e t.pos x) W'):=fun e x V hV he =>
  (yJ B s b g x e t.pos V hV.d.1 he hpos).mono fun en W' ⟨h1,h2⟩=>⟨h1,hV.step h2⟩
 unfold fM
 go_enter Tryz.func85,Tryz.ntmps85
 go_wp2_with fail
 refine Calls.aJ (kJ B s b g W W.heap.size t st) L0.o ?_
 clear L0
 generalize W.heap.size=r at *
 intro V hV
 have L0:=hid hV
 clear hV
 refine (cP.o _).mono ?_
 rintro e w1 ⟨rfl,rfl⟩
 cases hp:As.jU t.text
 ·rw [hp] at RC
  clear hp cP
  obtain ⟨m0,m1,m2,m3⟩:=L0.o.cells
  by_cases c6:6 < t.text.length
  ·have D:decide ((6:Int) < (t.text.length:Int))=true:=by simp; omega
   rw [show decide (6 < t.text.length)=true from by simp; omega] at RC
   clear c6
   go_wp2_with fail
   refine (ref.o 4 _ _ L0.o (by omega)).mono ?_
   rintro e V2 ⟨rfl,h2⟩
   have L2:=hid h2
   clear h2 m0 m1 m2 m3 L0
   obtain ⟨m0,m1,m2,m3⟩:=L2.o.cells
   go_wp2_with fail
   refine (cR.o _).mono ?_
   rintro e w1 ⟨rfl,rfl⟩
   clear m0 m1 m2 m3
   cases hr:As.jk t.text with
   | none =>
    rw [hr] at RC
    clear hr cR
    simp only [wY,Option.getD_none,Option.isSome_none]
    go_wp2
    go_end0
    rw [RC.o]
    exact ⟨rfl,L2.o.d⟩
   | some rr =>
    rw [hr] at RC
    clear hr cR
    simp only [wY,Option.getD_some,Option.isSome_some]
    obtain ⟨m0,m1,m2,m3⟩:=L2.o.cells
    go_wp2_with fail
    refine (ref.o 7 _ _ L2.o (by omega)).mono ?_
    rintro e V3 ⟨rfl,h3⟩
    have L3:=hid h3
    clear h3 m0 m1 m2 m3
    go_wp2
    go_end0
    rw [RC.o]
    exact ⟨rfl,L3.o.d⟩
  ·have D:decide ((6:Int) < (t.text.length:Int))=false:=by simp; omega
   rw [show decide (6 < t.text.length)=false from by simp; omega] at RC
   clear c6
   go_wp2_with fail
   refine (cR.o _).mono ?_
   rintro e w1 ⟨rfl,rfl⟩
   clear m0 m1 m2 m3
   cases hr:As.jk t.text with
   | none =>
    rw [hr] at RC
    clear hr cR
    simp only [wY,Option.getD_none,Option.isSome_none]
    go_wp2
    go_end0
    rw [RC.o]
    exact ⟨rfl,L0.o.d⟩
   | some rr =>
    rw [hr] at RC
    clear hr cR
    simp only [wY,Option.getD_some,Option.isSome_some]
    obtain ⟨m0,m1,m2,m3⟩:=L0.o.cells
    go_wp2_with fail
    refine (ref.o 7 _ _ L0.o (by omega)).mono ?_
    rintro e V3 ⟨rfl,h3⟩
    have L3:=hid h3
    clear h3 m0 m1 m2 m3
    go_wp2
    go_end0
    rw [RC.o]
    exact ⟨rfl,L3.o.d⟩
 ·rw [hp] at RC
  clear hp cP
  obtain ⟨m0,m1,m2,m3⟩:=L0.o.cells
  go_wp2_with fail
  refine (ref.o 3 _ _ L0.o (by omega)).mono ?_
  rintro e V1 ⟨rfl,h1⟩
  have L1:=hid h1
  clear h1 m0 m1 m2 m3 L0
  obtain ⟨m0,m1,m2,m3⟩:=L1.o.cells
  by_cases c6:6 < t.text.length
  ·have D:decide ((6:Int) < (t.text.length:Int))=true:=by simp; omega
   rw [show decide (6 < t.text.length)=true from by simp; omega] at RC
   clear c6
   go_wp2_with fail
   refine (ref.o 4 _ _ L1.o (by omega)).mono ?_
   rintro e V2 ⟨rfl,h2⟩
   have L2:=hid h2
   clear h2 m0 m1 m2 m3 L1
   obtain ⟨m0,m1,m2,m3⟩:=L2.o.cells
   go_wp2_with fail
   refine (cR.o _).mono ?_
   rintro e w1 ⟨rfl,rfl⟩
   clear m0 m1 m2 m3
   cases hr:As.jk t.text with
   | none =>
    rw [hr] at RC
    clear hr cR
    simp only [wY,Option.getD_none,Option.isSome_none]
    go_wp2
    go_end0
    rw [RC.o]
    exact ⟨rfl,L2.o.d⟩
   | some rr =>
    rw [hr] at RC
    clear hr cR
    simp only [wY,Option.getD_some,Option.isSome_some]
    obtain ⟨m0,m1,m2,m3⟩:=L2.o.cells
    go_wp2_with fail
    refine (ref.o 7 _ _ L2.o (by omega)).mono ?_
    rintro e V3 ⟨rfl,h3⟩
    have L3:=hid h3
    clear h3 m0 m1 m2 m3
    go_wp2
    go_end0
    rw [RC.o]
    exact ⟨rfl,L3.o.d⟩
  ·have D:decide ((6:Int) < (t.text.length:Int))=false:=by simp; omega
   rw [show decide (6 < t.text.length)=false from by simp; omega] at RC
   clear c6
   go_wp2_with fail
   refine (cR.o _).mono ?_
   rintro e w1 ⟨rfl,rfl⟩
   clear m0 m1 m2 m3
   cases hr:As.jk t.text with
   | none =>
    rw [hr] at RC
    clear hr cR
    simp only [wY,Option.getD_none,Option.isSome_none]
    go_wp2
    go_end0
    rw [RC.o]
    exact ⟨rfl,L1.o.d⟩
   | some rr =>
    rw [hr] at RC
    clear hr cR
    simp only [wY,Option.getD_some,Option.isSome_some]
    obtain ⟨m0,m1,m2,m3⟩:=L1.o.cells
    go_wp2_with fail
    refine (ref.o 7 _ _ L1.o (by omega)).mono ?_
    rintro e V3 ⟨rfl,h3⟩
    have L3:=hid h3
    clear h3 m0 m1 m2 m3
    go_wp2
    go_end0
    rw [RC.o]
    exact ⟨rfl,L3.o.d⟩
structure Loc (B:Nat) (s:ByteArray) (b g:Nat) (W:World) (ls:List (Nat×Array Value×TypeId)) (st:As.St) (V:World):Prop where
 d:yR B s b g W st V
 l:∀ q∈ls,yc V q.1 q.2.1 q.2.2
 new:∀ q∈ls,W.heap.size<=q.1
 lt:b < W.heap.size
section
variable {B:Nat} {s:ByteArray} {b g r:Nat} {W V V':World} {ls:List (Nat×Array Value×TypeId)} {st st':As.St} {cs:Array Value} {t:TypeId}
theorem Loc.begin (h:yl B s b g st W):Loc B s b g W [] st W:=⟨h.jI,by simp,by simp,h.blk.lt⟩
theorem Loc.alloc (h:Loc B s b g W ls st V) (cs:Array Value) (t:TypeId):Loc B s b g W ((V.heap.size,cs,t) :: ls) st (V.alloc (.cells cs t)):=by
 refine ⟨h.d.alloc _,fun q hq=>?_,fun q hq=>?_,h.lt⟩
 ·rcases List.mem_cons.1 hq with rfl | hq
  ·exact yc.new V cs t
  ·exact (h.l q hq).grown (aH _ _ none) (by simp)
 ·rcases List.mem_cons.1 hq with rfl | hq
  ·exact h.d.2.size
  ·exact h.new q hq
theorem Loc.step (h:Loc B s b g W ls st V) (k:yR B s b g V st' V'):Loc B s b g W ls st' V' :=
 ⟨h.d.after k,fun q hq=>(h.l q hq).grown k.2 (by have:=h.new q hq; have:=h.lt; simp; omega),h.new,h.lt⟩
theorem Loc.grown (h:Loc B s b g W ls st V) (k:V.grownBy V' none):Loc B s b g W ls st V' :=
 ⟨h.d.grown k,fun q hq=>(h.l q hq).grown k (by simp),h.new,h.lt⟩
theorem Loc.put (h:Loc B s b g W ls st V) (hq:(r,cs,t)∈ls) (ht:sF t) (l:List (Nat×Value)):yR B s b g W st (sets V r l)/\yc (sets V r l) r (rT cs l) t :=
 ⟨h.d.local (h.l _ hq) ht (by have:=h.d.1.lo; have:=h.lt; omega) (h.new _ hq) l,Ba l (h.l _ hq)⟩
end
set_option maxRecDepth 100000 in
theorem VB (B:Nat) (s:ByteArray) (b g:Nat) (st:As.St) (W:World) (h:yl B s b g st W) :
  Calls Tryz.prog 216 #[.pointer (some ⟨b,0,none⟩)] W fun en W'=>en = .returned (fM (As.name (sl s) st).1)/\yR B s b g W (As.name (sl s) st).2 W':=by
 have hpos:=h.ok.tok.pos
 have HT:=hid h.ok.tok
 have hbl:=h.blk.lt
 obtain ⟨c2,c3,c4,c5⟩:=tV h
 have L0:=hid (((Loc.begin h).alloc (yS As.Tok.nil) 64).alloc (yS st.tok) 64)
 rw [show (W.alloc (.cells (yS As.Tok.nil) 64)).heap.size=W.heap.size+1 by simp] at L0
 clear h
 have hn1:b≠W.heap.size:=by omega
 cases hk:(st.tok.kind == 1)
 ·have d:((st.tok.kind:Int) == 1)=false:=by simp at hk ⊢; omega
  have d':((st.tok.kind:Int) != 1)=true:=by simp at hk ⊢; omega
  have RS:=hid (show As.name (sl s) st=(As.Tok.nil,As.refuse 3 st.tok.pos st) by unfold As.name; rw [hk]; rfl)
  generalize As.name (sl s) st=X at *
  clear hk
  go_enter Tryz.func216,Tryz.ntmps216
  go_wp2_with fail
  refine Calls.aJ (Loc B s b g W [(W.heap.size+1,yS st.tok,64),(W.heap.size,yS As.Tok.nil,64)] st) L0.o ?_
  intro V hV
  refine (yJ B s b g st 3 st.tok.pos V hV.d.1 (by omega) hpos).mono ?_
  rintro e V2 ⟨rfl,h2⟩
  have L1:=hid (hV.step h2)
  clear h2 hV L0 V c2 c3 c4 c5
  have L2:=L1.o.l (W.heap.size,yS As.Tok.nil,64) (by simp)
  have t0:=L2.cell 0
  have t1:=L2.cell 1
  have t2:=L2.cell 2
  have t3:=L2.cell 3
  have v0:=L2.free 0
  have v1:=L2.free 1
  have v2:=L2.free 2
  have v3:=L2.free 3
  simp only [yS,As.Tok.nil,bC,bG,bE] at t0 t1 t2 t3
  clear L2
  go_wp2
  rw [RS.o]
  obtain ⟨D,F⟩:=L1.o.put (r:=W.heap.size) (cs:=yS As.Tok.nil) (t:=64) (by simp) (by unfold sF; decide) [(0,.int .i64 0),(1,.int .i64 0),(2,.string ⟨#[]⟩),(3,.int .i64 0)]
  have e0:=F.cell 0
  have e1:=F.cell 1
  have e2:=F.cell 2
  have e3:=F.cell 3
  simp only [yS,rT,kH,kQ,fQ,fT,fP,bC,bG,bE] at e0 e1 e2 e3
  refine bodyPost_ret (v:=fM As.Tok.nil) ?_ rfl ⟨rfl,D⟩
  clear D F t0 t1 t2 t3 v0 v1 v2 v3
  simp only [sets,kH,kQ] at e0 e1 e2 e3
  generalize World.setCell _ _ _=WF at *
  simp [results,Tryz.results216,go_sem,fM,As.Tok.nil,bs,e0,e1,e2,e3]
 ·have d:((st.tok.kind:Int) == 1)=true:=by simp at hk ⊢; omega
  have d':((st.tok.kind:Int) != 1)=false:=by simp at hk ⊢; omega
  have RS:=hid (show As.name (sl s) st=(st.tok,As.advance (sl s) (As.bV st.tok st)) by unfold As.name; rw [hk]; rfl)
  generalize As.name (sl s) st=X at *
  clear hk
  go_enter Tryz.func216,Tryz.ntmps216
  go_wp2_with fail
  refine Calls.aJ (Loc B s b g W [(W.heap.size+1,yS st.tok,64),(W.heap.size,yS As.Tok.nil,64)] st) L0.o ?_
  intro V hV
  refine (Ua B s b g st st.tok V hV.d.1 HT.o).mono ?_
  rintro e V2 ⟨rfl,h2⟩
  have L1:=hid (hV.step h2)
  clear h2 hV L0 V c2 c3 c4 c5
  go_wp2_with fail
  refine (Aj B s b g _ V2 L1.o.d.1).mono ?_
  rintro e V3 ⟨rfl,h3⟩
  have L3:=hid (L1.o.step h3)
  clear h3 L1 V2
  have L2:=L3.o.l (W.heap.size,yS As.Tok.nil,64) (by simp)
  have t0:=L2.cell 0
  have t1:=L2.cell 1
  have t2:=L2.cell 2
  have t3:=L2.cell 3
  have v0:=L2.free 0
  have v1:=L2.free 1
  have v2:=L2.free 2
  have v3:=L2.free 3
  have L4:=L3.o.l (W.heap.size+1,yS st.tok,64) (by simp)
  have m0:=L4.cell 0
  have m1:=L4.cell 1
  have m2:=L4.cell 2
  have m3:=L4.cell 3
  simp only [yS,As.Tok.nil,bC,bG,bE] at t0 t1 t2 t3 m0 m1 m2 m3
  clear L2 L4
  go_wp2
  rw [RS.o]
  obtain ⟨D,F⟩:=L3.o.put (r:=W.heap.size) (cs:=yS As.Tok.nil) (t:=64) (by simp) (by unfold sF; decide) [(0,.int .i64 st.tok.kind),(1,.int .i64 st.tok.pos),(2,.string (bs st.tok.text)),(3,.int .i64 st.tok.n)]
  have e0:=F.cell 0
  have e1:=F.cell 1
  have e2:=F.cell 2
  have e3:=F.cell 3
  simp only [yS,rT,kH,kQ,fQ,fT,fP,bC,bG,bE] at e0 e1 e2 e3
  refine bodyPost_ret (v:=fM st.tok) ?_ rfl ⟨rfl,D⟩
  clear D F t0 t1 t2 t3 v0 v1 v2 v3 m0 m1 m2 m3
  simp only [sets,kH,kQ] at e0 e1 e2 e3
  generalize World.setCell _ _ _=WF at *
  simp [results,Tryz.results216,go_sem,fM,e0,e1,e2,e3]
set_option maxRecDepth 100000 in
theorem CZ (B:Nat) (s:ByteArray) (b g:Nat) (st:As.St) (lo hi:Int) (W:World) (h:yl B s b g st W) :
  Calls Tryz.prog 189 #[.pointer (some ⟨b,0,none⟩),.int .i64 lo,.int .i64 hi] W fun en W'=>en = .returned (.int .i64 (As.number (sl s) lo hi st).1)/\yR B s b g W (As.number (sl s) lo hi st).2 W':=by
 have H:=hid h
 obtain ⟨c2,c3,c4,c5⟩:=tV h
 have hpos:=h.ok.tok.pos
 clear h
 have cI:=hid (J6 st.tok [45] W)
 unfold fM at cI
 have RS:=hid (show As.number (sl s) lo hi st=if st.tok.is [45] then As.bB (sl s) true st.tok.pos lo hi (As.advance (sl s) st) else As.bB (sl s) false st.tok.pos lo hi st from rfl)
 generalize As.number (sl s) lo hi st=X at *
 go_enter Tryz.func189,Tryz.ntmps189
 go_wp2_with fail
 refine cI.o.mono ?_
 rintro e V ⟨rfl,hg⟩
 have HD:=hid (H.o.jI.grown hg)
 clear hg cI c2 c3 c4 c5 H
 cases hi':st.tok.is [45]
 ·rw [hi'] at RS
  clear hi'
  have xW:=hid RS.o
  rw [if_neg (by simp)] at xW
  clear RS
  obtain ⟨c2,c3,c4,c5⟩:=tV HD.o.1
  have hnb:=HD.o.1.ok.tok.n
  have Nc:=hid HD.o.1.ok.tok.pos
  cases hk:(st.tok.kind == 2)
  ·have d:((st.tok.kind:Int) == 2)=false:=by simp at hk ⊢; omega
   have d':((st.tok.kind:Int) != 2)=true:=by simp at hk ⊢; omega
   have RF:=hid (show X=(0,As.refuse 3 st.tok.pos st) by rw [xW.o]; unfold As.bB; rw [hk]; rfl)
   clear hk xW
   go_wp2_with fail
   refine (yJ B s b g st 3 st.tok.pos V HD.o.1 (by omega) Nc.o).mono ?_
   rintro e V2 ⟨rfl,h2⟩
   have HF:=hid (HD.o.after h2)
   clear h2
   go_wp2
   go_ret
   rw [RF.o]
   exact ⟨rfl,HF.o⟩
  ·have d:((st.tok.kind:Int) == 2)=true:=by simp at hk ⊢; omega
   have d':((st.tok.kind:Int) != 2)=false:=by simp at hk ⊢; omega
   have RF:=hid (show X=if (st.tok.n:Int) < lo\/hi < (st.tok.n:Int) then (0,As.refuse 8 st.tok.pos st) else ((st.tok.n:Int),As.advance (sl s) st) by rw [xW.o]; unfold As.bB; rw [hk]; rfl)
   clear hk xW
   by_cases hlo:(st.tok.n:Int) < lo
   ·have D:decide ((st.tok.n:Int) < lo)=true:=by simp; omega
    rw [if_pos (.inl hlo)] at RF
    go_wp2_with fail
    refine (yJ B s b g st 8 st.tok.pos V HD.o.1 (by omega) hpos).mono ?_
    rintro e V2 ⟨rfl,h2⟩
    have HF:=hid (HD.o.after h2)
    clear h2
    go_wp2
    go_ret
    rw [RF.o]
    exact ⟨rfl,HF.o⟩
   ·have D:decide ((st.tok.n:Int) < lo)=false:=by simp; omega
    by_cases hhi:hi < (st.tok.n:Int)
    ·have D2:decide (hi < (st.tok.n:Int))=true:=by simp; omega
     rw [if_pos (.inr hhi)] at RF
     go_wp2_with fail
     refine (yJ B s b g st 8 st.tok.pos V HD.o.1 (by omega) hpos).mono ?_
     rintro e V2 ⟨rfl,h2⟩
     have HF:=hid (HD.o.after h2)
     clear h2
     go_wp2
     go_ret
     rw [RF.o]
     exact ⟨rfl,HF.o⟩
    ·have D2:decide (hi < (st.tok.n:Int))=false:=by simp; omega
     rw [if_neg (by omega)] at RF
     go_wp2_with fail
     refine (Aj B s b g st V HD.o.1).mono ?_
     rintro e V2 ⟨rfl,h2⟩
     have HF:=hid (HD.o.after h2)
     clear h2
     go_wp2
     go_ret
     rw [RF.o]
     exact ⟨rfl,HF.o⟩
 ·rw [hi'] at RS
  clear hi'
  have xW:=hid RS.o
  rw [if_pos rfl] at xW
  clear RS
  go_wp2_with fail
  refine (Aj B s b g st V HD.o.1).mono ?_
  rintro e V1 ⟨rfl,h1⟩
  have HD1:=hid (HD.o.after h1)
  clear h1 HD
  generalize As.advance (sl s) st=st1 at *
  have HD:=hid HD1.o
  clear HD1
  obtain ⟨c2,c3,c4,c5⟩:=tV HD.o.1
  have hnb:=HD.o.1.ok.tok.n
  have Nc:=hid HD.o.1.ok.tok.pos
  cases hk:(st1.tok.kind == 2)
  ·have d:((st1.tok.kind:Int) == 2)=false:=by simp at hk ⊢; omega
   have d':((st1.tok.kind:Int) != 2)=true:=by simp at hk ⊢; omega
   have RF:=hid (show X=(0,As.refuse 3 st1.tok.pos st1) by rw [xW.o]; unfold As.bB; rw [hk]; rfl)
   clear hk xW
   go_wp2_with fail
   refine (yJ B s b g st1 3 st1.tok.pos V1 HD.o.1 (by omega) Nc.o).mono ?_
   rintro e V2 ⟨rfl,h2⟩
   have HF:=hid (HD.o.after h2)
   clear h2
   go_wp2
   go_ret
   rw [RF.o]
   exact ⟨rfl,HF.o⟩
  ·have d:((st1.tok.kind:Int) == 2)=true:=by simp at hk ⊢; omega
   have d':((st1.tok.kind:Int) != 2)=false:=by simp at hk ⊢; omega
   have RF:=hid (show X=if -(st1.tok.n:Int) < lo\/hi < -(st1.tok.n:Int) then (0,As.refuse 8 st.tok.pos st1) else (-(st1.tok.n:Int),As.advance (sl s) st1) by rw [xW.o]; unfold As.bB; rw [hk]; rfl)
   clear hk xW
   by_cases hlo:-(st1.tok.n:Int) < lo
   ·have D:decide (-(st1.tok.n:Int) < lo)=true:=by simp; omega
    rw [if_pos (.inl hlo)] at RF
    go_wp2_with fail
    refine (yJ B s b g st1 8 st.tok.pos V1 HD.o.1 (by omega) hpos).mono ?_
    rintro e V2 ⟨rfl,h2⟩
    have HF:=hid (HD.o.after h2)
    clear h2
    go_wp2
    go_ret
    rw [RF.o]
    exact ⟨rfl,HF.o⟩
   ·have D:decide (-(st1.tok.n:Int) < lo)=false:=by simp; omega
    by_cases hhi:hi < -(st1.tok.n:Int)
    ·have D2:decide (hi < -(st1.tok.n:Int))=true:=by simp; omega
     rw [if_pos (.inr hhi)] at RF
     go_wp2_with fail
     refine (yJ B s b g st1 8 st.tok.pos V1 HD.o.1 (by omega) hpos).mono ?_
     rintro e V2 ⟨rfl,h2⟩
     have HF:=hid (HD.o.after h2)
     clear h2
     go_wp2
     go_ret
     rw [RF.o]
     exact ⟨rfl,HF.o⟩
    ·have D2:decide (hi < -(st1.tok.n:Int))=false:=by simp; omega
     rw [if_neg (by omega)] at RF
     go_wp2_with fail
     refine (Aj B s b g st1 V1 HD.o.1).mono ?_
     rintro e V2 ⟨rfl,h2⟩
     have HF:=hid (HD.o.after h2)
     clear h2
     go_wp2
     go_ret
     rw [RF.o]
     exact ⟨rfl,HF.o⟩
section
variable {P:Program} (w:World)
theorem yZ {o:Oper} {a:Act} {K:Act->World->Prop} {Q:Exit->Act->World->Prop} (s x:Operand) (t:TypeId)
  (ho:o.op = .call { callee:=.builtin .append,args:=#[s,x],argTypes:=#[t,t] })
  (base:Nat) (e:TypeId) (i:TypeInfo) (z:Value) (size bytes:Nat) (ht:P.underlying t=some (.slice e)) (hi:P.info? e=some i) (hz:i.zero=some z)
  (hsize:i.size=size) (hby:i.bytes=bytes) (hzs:z.cells.size=size) (hsz:0 < size)
  (v:Value) (n:Nat) (xs:List Value) (hs:a.eval s=v) (hown:w.ownsRow base e size v n xs)
  (ad:Addr) (m c:Nat) (news:List Value) (hx:a.eval x = .slice (some ad) m c) (hl:news.length=m * size) (hnews:∀ j u,news[j]?=some u->w.cell? (ad.add j)=some u) (h1:∀ u∈news,u.oneCell'=true)
  (h63:n+m<=maxLen) (hbytes:(n+m) * bytes<=140737488355328) (hbase:base<=w.heap.size)
  (h:∀ v' w',w'.ownsRow base e size v' (n+m) (xs ++ news)->w.grownBy w' v.ownBlock->(v' = .slice none 0 0↔v = .slice none 0 0/\m=0)->(v'.ownBlock=v.ownBlock\/v'.ownBlock=some w.heap.size)->K (a.put o.dst v') w'):o.wp P a w K Q:=by
 obtain ⟨v',w',hr,h2,h3,h4,h5⟩:=run_append_own_at (P:=P) w base t o.type e i z size bytes ht hi hz hsize hby hzs hsz v n xs hown ad m c news hl hnews h1 h63 hbytes hbase
 unfold Oper.wp execOp
 simp only [ho,resolve,invoke,builtin,Sem.run_bind,Sem.run_pure,Result.andThen_ok,List.map_toArray,List.map_cons,List.map_nil,hs,hx,hr]
 exact h v' w' h2 h3 h4 h5
end
theorem Av.set {l:List Value} {i:Nat} {v v':Value} (h:Av l) (hi:l[i]?=some v) (hv:∀ k,v'.ownBlock=some k->v.ownBlock=some k\/∀ u∈l,u.ownBlock≠some k):Av (l.set i v'):=by
 unfold Av at h ⊢
 rw [List.pairwise_iff_getElem] at h ⊢
 obtain ⟨hil,rfl⟩:=List.getElem?_eq_some_iff.1 hi
 intro a c ha hc hac k
 simp only [List.length_set] at ha hc
 rw [List.getElem_set,List.getElem_set]
 by_cases e1:i=a
 ·subst e1
  rw [if_pos rfl,if_neg (by omega)]
  intro hk hck
  rcases hv k hk with h1 | h1
  ·exact h i c hil hc hac k h1 hck
  ·exact h1 _ (gW hc) hck
 ·rw [if_neg e1]
  by_cases e2:i=c
  ·subst e2
   rw [if_pos rfl]
   intro hk hck
   rcases hv k hck with h1 | h1
   ·exact h a i ha hil hac k hk h1
   ·exact h1 _ (gW ha) hk
  ·rw [if_neg e2]
   exact h a c ha hc hac k
theorem Av.ne {l:List Value} (h:Av l) {i j:Nat} {u v:Value} (hi:l[i]?=some u) (hj:l[j]?=some v) (hij:i≠j):∀ k,u.ownBlock=some k->v.ownBlock≠some k:=by
 unfold Av at h
 rw [List.pairwise_iff_getElem] at h
 obtain ⟨hil,rfl⟩:=List.getElem?_eq_some_iff.1 hi
 obtain ⟨hjl,rfl⟩:=List.getElem?_eq_some_iff.1 hj
 intro k hk hk2
 rcases Nat.lt_or_gt_of_ne hij with h1 | h1
 ·exact h i j hil hjl h1 k hk hk2
 ·exact h j i hjl hil h1 k hk2 hk
structure lY (B:Nat) (V W':World) (b g:Nat) (v v':Value):Prop where
 keep:∀ k,k < V.heap.size->some k≠v.ownBlock->k≠g->W'.heap[k]?=V.heap[k]?
 blk:∀ k,v'.ownBlock=some k->v.ownBlock=some k\/V.heap.size<=k
 os:W'.os=V.os
 tape:W'.tape=V.tape
 output:W'.output=V.output
 size:V.heap.size<=W'.heap.size
section
variable {B:Nat} {s:ByteArray} {b g:Nat} {V W':World} {o:Lk.Obj} {vt vf vd va vs vr v v':Value} {st st':As.St}
theorem qy.YI (h:qy B V b g o vt vf vd va vs vr) (hb:b < V.heap.size):∀ u∈[jf b,jf g,vt,vf,vd,va,vs,vr],∀ k,u.ownBlock=some k->k < V.heap.size:=by
 intro u hu k hk
 simp only [List.mem_cons,List.mem_nil_iff,or_false] at hu
 rcases hu with rfl | rfl | rfl | rfl | rfl | rfl | rfl | rfl
 ·simp [jf,Value.ownBlock] at hk; omega
 ·have:=h.blk.lt; simp [jf,Value.ownBlock] at hk; omega
 ·exact (h.text.lt k hk).2
 ·exact (h.far.lt k hk).2
 ·exact (h.data.lt k hk).2
 ·exact (h.align.lt k hk).2
 ·exact (h.syms.lt k hk).2
 ·exact (h.aj.lt k hk).2
theorem lY.apart (n:lY B V W' b g v v') (h:qy B V b g o vt vf vd va vs vr) (hb:b < V.heap.size) {i:Nat} (hi:[jf b,jf g,vt,vf,vd,va,vs,vr][i]?=some v):Av ([jf b,jf g,vt,vf,vd,va,vs,vr].set i v') :=
 h.apart.set hi fun k hk=>(n.blk k hk).imp id fun hle u hu hk2=>by have:=h.YI hb u hu k hk2; omega
theorem lY.row (n:lY B V W' b g v v') (h:qy B V b g o vt vf vd va vs vr) {i j:Nat} (hi:[jf b,jf g,vt,vf,vd,va,vs,vr][i]?=some v) {u:Value} (hj:[jf b,jf g,vt,vf,vd,va,vs,vr][j]?=some u) (hij:i≠j) (hj1:1≠j)
  {e:TypeId} {size m:Nat} {xs:List Value} (hu:V.ownsRow B e size u m xs):W'.ownsRow B e size u m xs :=
 JZ hu fun k hk=>n.keep k (hu.lt k hk).2 (fun e=>h.apart.ne hi hj hij k e.symm hk) (fun e=>h.apart.ne (i:=1) (j:=j) rfl hj hj1 k (by rw [e]; rfl) hk)
theorem lY.does (n:lY B V W' b g v v') (h:yl B s b g st V) (qW:qy B V b g st.obj vt vf vd va vs vr) {i:Nat} (hi:[jf b,jf g,vt,vf,vd,va,vs,vr][i]?=some v) (h2:2<=i)
  (ho:∃ vt vf vd va vs vr,qy B W' b g st'.obj vt vf vd va vs vr) (hc:yE s g st'=yE s g st) (hok:jm s st')
  (hv:∀ k,v.ownBlock=some k->B<=k/\∃ cs t,yc V k cs t/\(t=3\/t=100\/t=102)):Does B s b g V st' W':=by
 have hbg:=h.lo
 have hbv:some b≠v.ownBlock:=fun e=>qW.apart.ne (i:=0) (j:=i) rfl hi (by omega) b rfl e.symm
 have low:∀ k,k < B->W'.heap[k]?=V.heap[k]?:=fun k hk=>n.keep k (by have:=h.size; omega) (fun e=>by have:=(hv k e.symm).1; omega) (by omega)
 refine ⟨⟨by rw [hc]; exact (n.keep b h.blk.lt hbv hbg.2.2.2).trans h.blk,ho,h.lo,hok,?_⟩,⟨n.os,n.tape,n.output,n.size,low⟩,?_⟩
 ·exact ⟨fun i hi=>(World.cell?_of_block (low _ (by have:=h.lo; simp only; omega))).trans (h.tabs.form i hi),fun i hi=>(World.cell?_of_block (low _ (by have:=h.lo; simp only; omega))).trans (h.tabs.fix i hi)⟩
 ·intro k cs t h1 h2 h3 h4 h5 hb
  refine (n.keep k hb.lt ?_ ?_).trans hb
  ·intro e
   obtain ⟨-,cs',t',hb',ht'⟩:=hv k e.symm
   have:=hb.symm.trans hb'
   simp at this
   rcases ht' with rfl | rfl | rfl
   ·exact h3 this.2
   ·exact h4 this.2
   ·exact h5 this.2
  ·rintro rfl
   have:=hb.symm.trans qW.blk
   simp at this
   exact h2 this.2
theorem D8 {e:TypeId} {size m:Nat} {xs:List Value} (hu:V.ownsRow B e size v m xs) (he:e=3\/e=100\/e=102):∀ k,v.ownBlock=some k->B<=k/\∃ cs t,yc V k cs t/\(t=3\/t=100\/t=102):=by
 intro k hk
 refine ⟨(hu.lt k hk).1,?_⟩
 rcases hu.2 with ⟨rfl,_⟩ | ⟨g',cap,cur,rfl,_,hg,_⟩
 ·simp [Value.ownBlock] at hk
 ·obtain rfl:g'=k:=by simpa [Value.ownBlock] using hk
  exact ⟨cur,e,hg,he⟩
theorem lY.app {ob:Obj} {w3:World} {off:Nat} (_hv:∀ k,v.ownBlock=some k->k < V.heap.size) (hg:(V.alloc ob).grownBy w3 v.ownBlock) (hat:v'.ownBlock=v.ownBlock\/v'.ownBlock=some (V.alloc ob).heap.size):lY B V (w3.setCell ⟨g,off,none⟩ v') b g v v':=by
 have gs:=yf w3 g off v'
 refine ⟨fun k hk hne hkg=>?_,fun k hk=>?_,?_,?_,?_,?_⟩
 ·rw [gs.block k (by have:=hg.size; simp at this; omega) (by simpa using hkg),hg.block k (by simp; omega) hne,Below.heap_alloc V ob k hk]
 ·rcases hat with e | e
  ·exact .inl (by rw [<- e]; exact hk)
  ·rw [e] at hk
   simp at hk
   exact .inr (by omega)
 ·rw [gs.os,hg.os]; rfl
 ·rw [gs.tape,hg.tape]; rfl
 ·rw [gs.output,hg.output]; rfl
 ·have:=gs.size; have:=hg.size; simp at this; omega
end
end Go.Proofs.YtpgklkhgfcjceaaGreatDoor
