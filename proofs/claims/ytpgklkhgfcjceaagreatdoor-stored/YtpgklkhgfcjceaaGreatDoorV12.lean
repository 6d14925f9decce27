
import Derived.Test.YtpgklkhgfcjceaaGreatDoorV11
import Derived.BigRegion
set_option maxHeartbeats 16000000
set_option maxRecDepth 100000
namespace Go.Proofs.YtpgklkhgfcjceaaGreatDoor
open Go.RowKit
def ou (e pos:Nat):Value:=.agg #[.int .i64 e,.int .i64 pos,.string ⟨#[]⟩]
def qb (r:As.Tok×(Nat×Nat)×Nat):Value:=.tuple #[fV r.1,ou r.2.1.1 r.2.1.2]
theorem XH {w W:World} {row:Option Nat} {r:Nat} (h:w.grownBy W row) (hb:w.heap.size<=r) (l:List (Nat×Value)):w.grownBy (sets W r l) row:=by
 have g:=Ea W r l;exact ⟨g.os.trans h.os,g.tape.trans h.tape,g.output.trans h.output,Nat.le_trans h.size g.size,fun i hi hr=>(g.block i (Nat.lt_of_lt_of_le hi h.size) (by simp; omega)).trans (h.block i hi hr)⟩
theorem yc.kT {W:World} {g r:Nat} {cs:Array Value} {t:TypeId} (h:yc W g cs t) (hne:g≠r) (l:List (Nat×Value)):yc (sets W r l) g cs t :=
 h.grown (Ea W r l) (by simpa using hne)
theorem yoT (l:List UInt8) (c:UInt8):As.dec (l ++ [c])=10 * As.dec l+(c.toNat - 48):=by unfold As.dec; rw [List.foldl_append]; rfl
theorem yoS (l:List UInt8) (n:Nat) (h:∀ c∈l,As.bA c=true):l.foldl (fun n c=>10 * n+(c.toNat - 48)) n+1<=(n+1) * 10 ^ l.length:=by
 induction l generalizing n with
 | nil=>simp
 | cons c l ih =>
  have h1:=ih (10 * n+(c.toNat - 48)) fun c hc=>h c (by simp [hc])
  have h2:=h c (by simp);unfold As.bA at h2;simp at h2;rw [lu,jm,Nat.pow_succ];have h3:(10 * n+(c.toNat - 48)+1) * 10 ^ l.length<=(10 * (n+1)) * 10 ^ l.length:=Nat.mul_le_mul_right _ (by omega);have h4:(n+1) * (10 ^ l.length * 10)=(10 * (n+1)) * 10 ^ l.length:=by rw [Nat.mul_comm 10,Nat.mul_assoc,Nat.mul_comm 10]
  omega
theorem Uq (l:List UInt8) (h:∀ c∈l,As.bA c=true):As.dec l < 10 ^ l.length:=by
 have:=yoS l 0 h
 unfold As.dec;omega
theorem yon (f:UInt8->Bool) (l:List UInt8):∀ c∈l.takeWhile f,f c=true:=by
 induction l with
 | nil=>simp
 | cons a l ih =>
  intro c hc
  cases hf:f a
  ·rw [List.takeWhile_cons_of_neg (by simp [hf])] at hc;simp at hc
  ·rw [List.takeWhile_cons_of_pos hf] at hc;rcases List.mem_cons.1 hc with rfl | hc
   ·exact hf
   ·exact ih c hc
theorem TR (l:List UInt8) (j:Nat) (hj:j < l.length):As.dec (l.take (j+1))=10 * As.dec (l.take j)+(l[j].toNat - 48):=by
 rw [List.take_succ_eq_append_getElem hj,yoT]
theorem ZE (l:List UInt8) (h:∀ c∈l,As.bA c=true) (j:Nat) (hj:j<=10):As.dec (l.take j)<=9999999999:=by
 have h1:=Uq (l.take j) fun c hc=>h c (List.mem_of_mem_take hc)
 have h2:(l.take j).length<=10:=by rw [List.length_take]; omega
 have h3:10 ^ (l.take j).length<=10 ^ 10:=Nat.pow_le_pow_right (by decide) h2;omega
theorem X8 (f:UInt8->Bool) (s:ByteArray) (p:Nat) (hp:p<=s.size) (ds:List UInt8) (hd:ds=((sl s).drop p).takeWhile f) :
  (∀ c∈ds,f c=true)/\p+ds.length<=s.size/\(∀ j (h:j < ds.length) (hk:p+j < s.size),s[p+j]'hk=ds[j])/\(∀ hk:p+ds.length < s.size,f (s[p+ds.length]'hk)=false):=by
 have hpre:ds <+: (sl s).drop p:=by rw [hd]; exact List.takeWhile_prefix f
 have hlen:p+ds.length<=s.size:=by have:=hpre.length_le; rw [List.length_drop,yq] at this; omega
 refine ⟨fun c hc=>?_,hlen,fun j h hk=>?_,fun hk=>?_⟩
 ·rw [hd] at hc;exact yon f _ c hc
 ·have h1:=hpre.getElem h;rw [h1,List.getElem_drop];rfl
 ·have e:As.skip f (sl s) p=p+ds.length:=by unfold As.skip; rw [<- hd]
  have:=yqQ (f:=f) (s:=sl s) (k:=p) (by rw [e,yq]; exact hk)
  simp only [e] at this;exact this
structure uJ (s:ByteArray) (b:Nat) (tail:List Value) (w:World) (k:Nat) (W:World):Prop where
 t:yc W w.heap.size #[.int .i64 0,.int .i64 0,.string ⟨#[]⟩,.int .i64 0] 64
 f:yc W (w.heap.size+1) #[.int .i64 0,.int .i64 0,.string ⟨#[]⟩] 45
 sc:fG s b tail k W
 gr:w.grownBy W (some b)
theorem uJ.drewN {s:ByteArray} {b:Nat} {tail:List Value} {w:World} {k:Nat} {W:World} (h:uJ s b tail w k W) (n:Nat):uJ s b tail w k (W.drewN n) :=
 ⟨h.t.drewN n,h.f.drewN n,h.sc.drewN n,yf h.gr n⟩
theorem uJ.step {s:ByteArray} {b:Nat} {tail:List Value} {w:World} {k:Nat} {W:World} (h:uJ s b tail w k W) (hb:b < w.heap.size) (q:Nat):uJ s b tail w q (W.setCell ⟨b,1,none⟩ (.int .i64 q)) :=
 ⟨h.t.grown (ye _ _ _ _) (by simp; omega),h.f.grown (ye _ _ _ _) (by simp; omega),h.sc.set q,ya h.gr (ye _ _ _ _)⟩
theorem uJ.put {s:ByteArray} {b:Nat} {tail:List Value} {w:World} {k:Nat} {W:World} (h:uJ s b tail w k W) (hb:b < w.heap.size) (a0 a1 a2 a3 z0 z1 z2:Value) :
  let W':=sets (sets W w.heap.size [(0,a0),(1,a1),(2,a2),(3,a3)]) (w.heap.size+1) [(0,z0),(1,z1),(2,z2)]
  yc W' w.heap.size #[a0,a1,a2,a3] 64/\yc W' (w.heap.size+1) #[z0,z1,z2] 45/\fG s b tail k W'/\w.grownBy W' (some b):=by
 have t1:=D8 [(0,a0),(1,a1),(2,a2),(3,a3)] h.t;have f1:=h.f.kT (r:=w.heap.size) (by omega) [(0,a0),(1,a1),(2,a2),(3,a3)];have f2:=D8 [(0,z0),(1,z1),(2,z2)] f1;simp only [uy,lu,lW,gu,fZ,gq] at t1 f2;exact ⟨t1.kT (by omega) _,f2,yc.kT (yc.kT h.sc (by omega) _) (by omega) _,XH (XH h.gr (by omega) _) (by omega) _⟩
theorem ylB (s:ByteArray) (b:Nat) (tail:List Value) (p:Nat) (w:World) (h:fG s b tail p w) (hs:s.size<=1000) (hp:p<=s.size) :
  Calls Tryz.prog 131 #[.pointer (some ⟨b,0,none⟩)] w fun e w'=>e = .returned (qb (As.iH (sl s) p))/\fG s b tail (As.iH (sl s) p).2.2 w'/\w.grownBy w' (some b):=by
 have H:=hid h;have hbl:=yc.lt h;have c1:=h.c1;clear h;have SL:=hid (yq s);generalize hD:((sl s).drop p).takeWhile As.bA=ds;obtain ⟨w1,w2,w3,w4⟩:=X8 As.bA s p hp ds hD.symm;have SN:=hid (show As.iH (sl s) p=if 10 < ds.length then (As.Tok.nil,(5,p),p+10) else if (((sl s)[p+ds.length]?).map As.aX).getD false then (As.Tok.nil,(2,p+ds.length),p+ds.length) else (⟨2,p,ds,As.dec ds⟩,(0,0),p+ds.length) from by
  unfold As.iH As.skip; rw [hD])
 generalize As.iH (sl s) p=R at *;have Lj:=hid w1;have HEL:=hid w3;have HST:=hid w4;have LC:=hid (show ds=((sl s).drop p).take ds.length from by
  have:=List.prefix_iff_eq_take.1 (List.takeWhile_prefix As.bA (l:=(sl s).drop p))
  rw [hD] at this;exact this)
 clear hD w1 w3 w4;have B1:Hd (yc ((w.alloc (.cells #[.int .i64 0,.int .i64 0,.string ⟨#[]⟩,.int .i64 0] 64)).alloc (.cells #[.int .i64 0,.int .i64 0,.string ⟨#[]⟩] 45)) w.heap.size #[.int .i64 0,.int .i64 0,.string ⟨#[]⟩,.int .i64 0] 64) :=
  (yc.new w _ _).grown (aJ _ _ none) (by simp)
 have B2:Hd (yc ((w.alloc (.cells #[.int .i64 0,.int .i64 0,.string ⟨#[]⟩,.int .i64 0] 64)).alloc (.cells #[.int .i64 0,.int .i64 0,.string ⟨#[]⟩] 45)) (w.heap.size+1) #[.int .i64 0,.int .i64 0,.string ⟨#[]⟩] 45):=by
  have:=yc.new (w.alloc (.cells #[.int .i64 0,.int .i64 0,.string ⟨#[]⟩,.int .i64 0] 64)) #[.int .i64 0,.int .i64 0,.string ⟨#[]⟩] 45
  rw [show (w.alloc (.cells #[.int .i64 0,.int .i64 0,.string ⟨#[]⟩,.int .i64 0] 64)).heap.size=w.heap.size+1 by simp] at this;exact this
 have B3:Hd (fG s b tail p ((w.alloc (.cells #[.int .i64 0,.int .i64 0,.string ⟨#[]⟩,.int .i64 0] 64)).alloc (.cells #[.int .i64 0,.int .i64 0,.string ⟨#[]⟩] 45))) :=
  (H.o.grown (aJ _ _ none)).grown (aJ _ _ none)
 have B4:Hd (w.grownBy ((w.alloc (.cells #[.int .i64 0,.int .i64 0,.string ⟨#[]⟩,.int .i64 0] 64)).alloc (.cells #[.int .i64 0,.int .i64 0,.string ⟨#[]⟩] 45)) (some b)) :=
  ya (aJ _ _ _) (aJ _ _ _)
 have B5:Hd (∀ W:World,W=(w.alloc (.cells #[.int .i64 0,.int .i64 0,.string ⟨#[]⟩,.int .i64 0] 64)).alloc (.cells #[.int .i64 0,.int .i64 0,.string ⟨#[]⟩] 45)->uJ s b tail w p W):=fun W hW=>by subst hW; exact ⟨B1.o,B2.o,B3.o,B4.o⟩
 clear B1 B2 B3 B4;go_enter Tryz.func131,Tryz.ntmps131;go_wp2
 go_loopw [5] (fun n wr=>∃ j k:Nat,j<=ds.length/\j<=10/\n = .int .i64 (As.dec (ds.take j))/\uJ s b tail w k wr/\k=p+j) (fun _ wr=>s.size - DT b wr)
 case atStart=>exact ⟨0,p,by omega,by omega,by simp [As.dec],B5.o _ rfl,rfl⟩
 case round =>
  obtain ⟨j,k,hj,RG,rfl,hst,hkj⟩:=hrel;have HS:=hid hst;have c0:=hst.sc.c0;have c1:=hst.sc.c1;have f1:=hst.sc.f1;have t0:=hst.t.cell 0;have t1:=hst.t.cell 1;have t2:=hst.t.cell 2;have t3:=hst.t.cell 3;have v0:=hst.t.free 0;have v1:=hst.t.free 1;have v2:=hst.t.free 2;have v3:=hst.t.free 3;have x0:=hst.f.cell 0;have x1:=hst.f.cell 1;have x2:=hst.f.cell 2;have y0:=hst.f.free 0;have y1:=hst.f.free 1;have y2:=hst.f.free 2;simp only [bI,bN,bK] at t0 t1 t2 t3 x0 x1 x2;have hdec:=ZE ds Lj.o j RG;have Lm:=hid (TR ds j);generalize hn:As.dec (ds.take j)=n at *;have HN:=hid hn;clear hn;have KJ:=hid hkj;clear hst B5 hkj
  by_cases hlt:k < s.size
  ·have d:decide ((k:Int) < (s.size:Int))=true:=by simp; omega
   have g1:(0:Int)<=(k:Int):=by omega
   have g2:(k:Int) < (s.size:Int):=by omega
   have cD:=hid (fun W=>PN (s[k]'hlt) W);by_cases hjd:j < ds.length
   ·have ED:=hid (show (s[k]'hlt)=ds[j] from by have e:=KJ.o; subst e; exact HEL.o j hjd hlt);have hdg:As.bA (s[k]'hlt)=true:=by rw [ED.o]; exact Lj.o _ (iq hjd)
    rw [hdg] at cD;have DR:=hid hdg;clear hdg;by_cases h10:j=10
    ·have RR:=hid (show R=(As.Tok.nil,(5,p),k) by rw [SN.o,if_pos (by omega),KJ.o,h10]);have d3:((k:Int) - (p:Int) == 10)=true:=by have:=KJ.o; simp; omega
     clear h10;go_wp2
     go_quiet ((go_at_call 130; exact Calls.quiet_of_same (cD.o _)))
     go_wp2;have F:=(HS.o.drewN nq).put hbl (.int .i64 0) (.int .i64 0) (.string ⟨#[]⟩) (.int .i64 0) (.int .i64 5) (.int .i64 p) (.string ⟨#[]⟩);have e0:=F.1.cell 0;have e1:=F.1.cell 1;have e2:=F.1.cell 2;have e3:=F.1.cell 3;have h0:=F.2.1.cell 0;have h1:=F.2.1.cell 1;have h2:=F.2.1.cell 2;simp only [bI,bN,bK] at e0 e1 e2 e3 h0 h1 h2;refine bodyPost_ret (v:=qb R) ?_ rfl ⟨rfl,by rw [RR.o]; exact F.2.2.1,F.2.2.2⟩;rw [RR.o];clear F t0 t1 t2 t3 v0 v1 v2 v3 x0 x1 x2 y0 y1 y2 HS;simp only [sets,lu,lW] at e0 e1 e2 e3 h0 h1 h2;generalize World.setCell _ _ _=WF at *;simp [results,Tryz.results131,go_sem,qb,fV,ou,As.Tok.nil,bs,e0,e1,e2,e3,h0,h1,h2]
    ·have d3:((k:Int) - (p:Int) == 10)=false:=by have:=KJ.o; simp; omega
     go_wp2
     go_quiet ((go_at_call 130; exact Calls.quiet_of_same (cD.o _)))
     go_wp2
     go_quiet (fail)
     go_wp2;refine ⟨⟨j+1,k+1,by omega,by omega,?_,(HS.o.drewN _).step hbl (k+1),by have:=KJ.o; omega⟩,Nq HS.o.sc _ hlt⟩;rw [Lm.o hjd,<- ED.o]
     have:=DR.o
     unfold As.bA at this;simp at this
     congr 1
     omega
   ·have hst:=hid (HST.o);have ej:j=ds.length:=by omega
    have hdg:As.bA (s[k]'hlt)=false:=by
     have e:=KJ.o;subst e;subst ej;exact HST.o hlt
    rw [hdg] at cD;clear hdg;have cW:=hid (fun W=>TH (s[k]'hlt) W);have Oe:=hid (show (((sl s)[p+ds.length]?).map As.aX).getD false=As.aX (s[k]'hlt) from by
     have e:=KJ.o;subst e;subst ej;rw [j3 (by rw [SL.o]; exact hlt)];rfl)
    have EJ:=hid ej;clear ej
    cases hw:As.aX (s[k]'hlt)
    ·have RR:=hid (show R=(⟨2,p,ds,n⟩,(0,0),k) by
      rw [SN.o,if_neg (by have:=EJ.o; omega),Oe.o,hw,KJ.o,<- HN.o,EJ.o,List.take_length];rfl)
     rw [hw] at cW;clear hw;have EX:=hid (show s.extract p k=bs ds from by rw [Nj,KJ.o,Nat.add_sub_cancel_left,EJ.o]; exact congrArg bs LC.o.symm);have hpk:(p:Int)<=(k:Int):=by have:=KJ.o; omega
     have hks:(k:Int)<=(s.size:Int):=by have:=KJ.o; omega
     have hp0:(0:Int)<=(p:Int):=by omega
     go_wp2
     go_quiet ((go_at_call 130; exact Calls.quiet_of_same (cD.o _)))
     clear cD;have HS2:=hid (HS.o.drewN nq);generalize wr.drewN nq=V at *;clear HS c0 c1 f1 t0 t1 t2 t3 v0 v1 v2 v3 x0 x1 x2 y0 y1 y2;have c0:=HS2.o.sc.c0;have c1:=HS2.o.sc.c1;have f1:=HS2.o.sc.f1;have t0:=HS2.o.t.cell 0;have t1:=HS2.o.t.cell 1;have t2:=HS2.o.t.cell 2;have t3:=HS2.o.t.cell 3;have v0:=HS2.o.t.free 0;have v1:=HS2.o.t.free 1;have v2:=HS2.o.t.free 2;have v3:=HS2.o.t.free 3;have x0:=HS2.o.f.cell 0;have x1:=HS2.o.f.cell 1;have x2:=HS2.o.f.cell 2;have y0:=HS2.o.f.free 0;have y1:=HS2.o.f.free 1;have y2:=HS2.o.f.free 2;simp only [bI,bN,bK] at t0 t1 t2 t3 x0 x1 x2;go_wp2
     go_quiet ((go_at_call 132; exact Calls.quiet_of_same (cW.o _)))
     go_wp2
     go_region
     go_wp2;rw [EX.o];have F:=(HS2.o.drewN (nq+1)).put hbl (.int .i64 2) (.int .i64 p) (.string (bs ds)) (.int .i64 n) (.int .i64 0) (.int .i64 0) (.string ⟨#[]⟩);have e0:=F.1.cell 0;have e1:=F.1.cell 1;have e2:=F.1.cell 2;have e3:=F.1.cell 3;have h0:=F.2.1.cell 0;have h1:=F.2.1.cell 1;have h2:=F.2.1.cell 2;simp only [bI,bN,bK] at e0 e1 e2 e3 h0 h1 h2;refine bodyPost_ret (v:=qb R) ?_ rfl ⟨rfl,by rw [RR.o]; exact F.2.2.1,F.2.2.2⟩;rw [RR.o];clear F t0 t1 t2 t3 v0 v1 v2 v3 x0 x1 x2 y0 y1 y2 HS2;simp only [sets,lu,lW] at e0 e1 e2 e3 h0 h1 h2;generalize World.setCell _ _ _=WF at *;simp [results,Tryz.results131,go_sem,qb,fV,ou,e0,e1,e2,e3,h0,h1,h2]
    ·have RR:=hid (show R=(As.Tok.nil,(2,k),k) by
      rw [SN.o,if_neg (by have:=EJ.o; omega),Oe.o,hw,KJ.o,EJ.o];rfl)
     rw [hw] at cW;clear hw;go_wp2
     go_quiet ((go_at_call 130; exact Calls.quiet_of_same (cD.o _)))
     clear cD;have HS2:=hid (HS.o.drewN nq);generalize wr.drewN nq=V at *;clear HS c0 c1 f1 t0 t1 t2 t3 v0 v1 v2 v3 x0 x1 x2 y0 y1 y2;have c0:=HS2.o.sc.c0;have c1:=HS2.o.sc.c1;have f1:=HS2.o.sc.f1;have t0:=HS2.o.t.cell 0;have t1:=HS2.o.t.cell 1;have t2:=HS2.o.t.cell 2;have t3:=HS2.o.t.cell 3;have v0:=HS2.o.t.free 0;have v1:=HS2.o.t.free 1;have v2:=HS2.o.t.free 2;have v3:=HS2.o.t.free 3;have x0:=HS2.o.f.cell 0;have x1:=HS2.o.f.cell 1;have x2:=HS2.o.f.cell 2;have y0:=HS2.o.f.free 0;have y1:=HS2.o.f.free 1;have y2:=HS2.o.f.free 2;simp only [bI,bN,bK] at t0 t1 t2 t3 x0 x1 x2;go_wp2
     go_quiet ((go_at_call 132; exact Calls.quiet_of_same (cW.o _)))
     go_wp2
     go_region
     go_wp2;have F:=(HS2.o.drewN (nq+1)).put hbl (.int .i64 0) (.int .i64 0) (.string ⟨#[]⟩) (.int .i64 0) (.int .i64 2) (.int .i64 k) (.string ⟨#[]⟩);have e0:=F.1.cell 0;have e1:=F.1.cell 1;have e2:=F.1.cell 2;have e3:=F.1.cell 3;have h0:=F.2.1.cell 0;have h1:=F.2.1.cell 1;have h2:=F.2.1.cell 2;simp only [bI,bN,bK] at e0 e1 e2 e3 h0 h1 h2;refine bodyPost_ret (v:=qb R) ?_ rfl ⟨rfl,by rw [RR.o]; exact F.2.2.1,F.2.2.2⟩;rw [RR.o];clear F t0 t1 t2 t3 v0 v1 v2 v3 x0 x1 x2 y0 y1 y2 HS2;simp only [sets,lu,lW] at e0 e1 e2 e3 h0 h1 h2;generalize World.setCell _ _ _=WF at *;simp [results,Tryz.results131,go_sem,qb,fV,ou,As.Tok.nil,bs,e0,e1,e2,e3,h0,h1,h2]
  ·have d:decide ((k:Int) < (s.size:Int))=false:=by simp; omega
   have ej:j=ds.length:=by have:=KJ.o; omega
   have EJ:=hid ej;clear ej;have Oe:=hid (show (((sl s)[p+ds.length]?).map As.aX).getD false=false from by
    have e:=KJ.o;have e2:=EJ.o;rw [List.getElem?_eq_none (by rw [SL.o]; omega)];rfl)
   have RR:=hid (show R=(⟨2,p,ds,n⟩,(0,0),k) by
    rw [SN.o,if_neg (by have:=EJ.o; omega),Oe.o,KJ.o,<- HN.o,EJ.o,List.take_length];rfl)
   have EX:=hid (show s.extract p k=bs ds from by rw [Nj,KJ.o,Nat.add_sub_cancel_left,EJ.o]; exact congrArg bs LC.o.symm);have hpk:(p:Int)<=(k:Int):=by have:=KJ.o; omega
   have hks:(k:Int)<=(s.size:Int):=by have:=KJ.o; omega
   have hp0:(0:Int)<=(p:Int):=by omega
   go_wp2
   go_quiet (fail)
   have HS2:=hid (HS.o.drewN nq);generalize wr.drewN nq=V at *;clear HS c0 c1 f1 t0 t1 t2 t3 v0 v1 v2 v3 x0 x1 x2 y0 y1 y2;have c0:=HS2.o.sc.c0;have c1:=HS2.o.sc.c1;have f1:=HS2.o.sc.f1;have t0:=HS2.o.t.cell 0;have t1:=HS2.o.t.cell 1;have t2:=HS2.o.t.cell 2;have t3:=HS2.o.t.cell 3;have v0:=HS2.o.t.free 0;have v1:=HS2.o.t.free 1;have v2:=HS2.o.t.free 2;have v3:=HS2.o.t.free 3;have x0:=HS2.o.f.cell 0;have x1:=HS2.o.f.cell 1;have x2:=HS2.o.f.cell 2;have y0:=HS2.o.f.free 0;have y1:=HS2.o.f.free 1;have y2:=HS2.o.f.free 2;simp only [bI,bN,bK] at t0 t1 t2 t3 x0 x1 x2;go_wp2
   go_quiet (fail)
   go_wp2
   go_region
   go_wp2;rw [EX.o];have F:=(HS2.o.drewN (nq+1)).put hbl (.int .i64 2) (.int .i64 p) (.string (bs ds)) (.int .i64 n) (.int .i64 0) (.int .i64 0) (.string ⟨#[]⟩);have e0:=F.1.cell 0;have e1:=F.1.cell 1;have e2:=F.1.cell 2;have e3:=F.1.cell 3;have h0:=F.2.1.cell 0;have h1:=F.2.1.cell 1;have h2:=F.2.1.cell 2;simp only [bI,bN,bK] at e0 e1 e2 e3 h0 h1 h2;refine bodyPost_ret (v:=qb R) ?_ rfl ⟨rfl,by rw [RR.o]; exact F.2.2.1,F.2.2.2⟩;rw [RR.o];clear F t0 t1 t2 t3 v0 v1 v2 v3 x0 x1 x2 y0 y1 y2 HS2;simp only [sets,lu,lW] at e0 e1 e2 e3 h0 h1 h2;generalize World.setCell _ _ _=WF at *;simp [results,Tryz.results131,go_sem,qb,fV,ou,e0,e1,e2,e3,h0,h1,h2]
theorem yc.drew {W:World} {g:Nat} {cs:Array Value} {t:TypeId} (h:yc W g cs t):yc W.drew g cs t:=h
theorem uJ.begin {s:ByteArray} {b:Nat} {tail:List Value} {p:Nat} {w:World} (h:fG s b tail p w):uJ s b tail w p ((w.alloc (.cells #[.int .i64 0,.int .i64 0,.string ⟨#[]⟩,.int .i64 0] 64)).alloc (.cells #[.int .i64 0,.int .i64 0,.string ⟨#[]⟩] 45)):=by
 refine ⟨(yc.new w _ _).grown (aJ _ _ none) (by simp),?_,(h.grown (aJ _ _ none)).grown (aJ _ _ none),ya (aJ _ _ _) (aJ _ _ _)⟩
 have:=yc.new (w.alloc (.cells #[.int .i64 0,.int .i64 0,.string ⟨#[]⟩,.int .i64 0] 64)) #[.int .i64 0,.int .i64 0,.string ⟨#[]⟩] 45
 rw [show (w.alloc (.cells #[.int .i64 0,.int .i64 0,.string ⟨#[]⟩,.int .i64 0] 64)).heap.size=w.heap.size+1 by simp] at this;exact this
theorem uJ.call {s:ByteArray} {b:Nat} {tail:List Value} {w:World} {k k':Nat} {W W':World} (h:uJ s b tail w k W) (hb:b < w.heap.size) (hsc:fG s b tail k' W') (hg:W.grownBy W' (some b)):uJ s b tail w k' W' :=
 ⟨h.t.grown hg (by simp; omega),h.f.grown hg (by simp; omega),hsc,ya h.gr hg⟩
theorem ypA (s:ByteArray) (b:Nat) (tail:List Value) (p:Nat) (w:World) (h:fG s b tail p w) (hs:s.size<=1000) (hp:p<=s.size) :
  Calls Tryz.prog 84 #[.pointer (some ⟨b,0,none⟩)] w fun e w'=>e = .returned (qb (As.next (sl s) p))/\fG s b tail (As.next (sl s) p).2.2 w'/\w.grownBy w' (some b):=by
 have hbl:=yc.lt h;have B0:=hid (uJ.begin h);have RH:As.skip As.blank (sl s) p<=s.size:=by have:=NC (f:=As.blank) (s:=sl s) (k:=p) (by rw [yq]; exact hp); rw [yq] at this; exact this
 have cB:=hid (fun W hW=>yhU s b tail p W hW hs hp);have RR:=hid (show As.next (sl s) p=As.iL (sl s) (As.skip As.blank (sl s) p) from rfl);clear h;generalize As.next (sl s) p=R at *;generalize As.skip As.blank (sl s) p=q at *;have cE:=hid (fun W hW=>ynL s b tail q W hW hs RH);have cN:=hid (fun W hW=>ylB s b tail q W hW hs RH);have cW:=hid (fun W hW=>ykf s b tail q W hW hs RH);go_enter Tryz.func84,Tryz.ntmps84;go_wp2_with fail;refine Calls.aL (uJ s b tail w p) B0.o ?_;clear B0;intro V h0;refine (cB.o V h0.sc).mono ?_;rintro e V1 ⟨rfl,hsc,hg⟩;have H1:=hid (h0.call hbl hsc hg);clear h0 hsc hg cB V
 have c1:=H1.o.sc.c1;go_wp2_with fail;refine (cE.o V1 H1.o.sc).mono ?_;rintro e V2 ⟨rfl,nn,rfl⟩;have H2:=hid (H1.o.drewN nn);clear H1 cE c1;generalize V1.drewN nn=V2 at *;by_cases hlt:q < s.size
 ·have GQ:=hid (show (sl s)[q]?=some (s[q]'hlt) from by rw [j3 (by rw [yq]; exact hlt)]; rfl);have zu:=hid (show R=(if As.ends (s[q]'hlt) then (⟨4,q,[],0⟩,(0,0),q) else if As.bA (s[q]'hlt) then As.iH (sl s) q else if As.aX (s[q]'hlt) then (⟨1,q,((sl s).drop q).takeWhile As.aX,0⟩,(0,0),As.skip As.aX (sl s) q) else if As.j6 (s[q]'hlt) then (⟨3,q,[s[q]'hlt],0⟩,(0,0),q+1) else (As.Tok.nil,(2,q),q)) from by
   rw [RR.o]; unfold As.iL; rw [GQ.o])
  rw [show ((sl s)[q]?.map As.ends).getD true=As.ends (s[q]'hlt) from by rw [GQ.o]; rfl];clear RR GQ
  cases hE:As.ends (s[q]'hlt)
  ·simp only [hE,Bool.false_eq_true,if_false] at zu;clear hE;have c0:=H2.o.sc.c0;have c1:=H2.o.sc.c1;have f1:=H2.o.sc.f1;have t0:=H2.o.t.cell 0;have t1:=H2.o.t.cell 1;have t2:=H2.o.t.cell 2;have t3:=H2.o.t.cell 3;have v0:=H2.o.t.free 0;have v1:=H2.o.t.free 1;have v2:=H2.o.t.free 2;have v3:=H2.o.t.free 3;have x0:=H2.o.f.cell 0;have x1:=H2.o.f.cell 1;have x2:=H2.o.f.cell 2;have y0:=H2.o.f.free 0;have y1:=H2.o.f.free 1;have y2:=H2.o.f.free 2;simp only [bI,bN,bK] at t0 t1 t2 t3 x0 x1 x2;have g1:(0:Int)<=(q:Int):=by omega
   have g2:(q:Int) < (s.size:Int):=by omega
   have cD:=hid (fun W=>PN (s[q]'hlt) W);have cI:=hid (fun W=>TH (s[q]'hlt) W);have cS:=hid (fun W=>ymE (s[q]'hlt) W);go_wp2_with fail;refine (cD.o _).mono ?_;rintro e w1 ⟨rfl,rfl⟩;clear cD
   cases hD:As.bA (s[q]'hlt)
   ·simp only [hD,Bool.false_eq_true,if_false] at zu;clear hD;go_wp2_with fail;refine (cI.o _).mono ?_;rintro e w1 ⟨rfl,rfl⟩;clear cI
    cases hI:As.aX (s[q]'hlt)
    ·simp only [hI,Bool.false_eq_true,if_false] at zu;clear hI;go_wp2_with fail;refine (cS.o _).mono ?_;rintro e w1 ⟨rfl,rfl⟩;clear cS
     cases hS:As.j6 (s[q]'hlt)
     ·simp only [hS,Bool.false_eq_true,if_false] at zu;clear hS;have RF:=hid zu.o;go_wp2;have F:=H2.o.put hbl (.int .i64 0) (.int .i64 0) (.string ⟨#[]⟩) (.int .i64 0) (.int .i64 2) (.int .i64 q) (.string ⟨#[]⟩);have e0:=F.1.cell 0;have e1:=F.1.cell 1;have e2:=F.1.cell 2;have e3:=F.1.cell 3;have h0:=F.2.1.cell 0;have h1:=F.2.1.cell 1;have h2:=F.2.1.cell 2;simp only [bI,bN,bK] at e0 e1 e2 e3 h0 h1 h2;refine bodyPost_ret (v:=qb R) ?_ rfl ⟨rfl,by rw [RF.o]; exact F.2.2.1,F.2.2.2⟩;rw [RF.o];clear F t0 t1 t2 t3 v0 v1 v2 v3 x0 x1 x2 y0 y1 y2 H2;simp only [sets,lu,lW] at e0 e1 e2 e3 h0 h1 h2;generalize World.setCell _ _ _=WF at *
      simp [results,Tryz.results84,go_sem,qb,fV,ou,As.Tok.nil,bs,e0,e1,e2,e3,h0,h1,h2]
     ·simp only [hS,if_true] at zu;clear hS;have RF:=hid zu.o;have EX:=hid (show s.extract q (q+1)=bs [s[q]'hlt] from by rw [Nj,Nat.add_sub_cancel_left]; exact congrArg bs (by rw [lV (by rw [yq]; exact hlt)]; rfl));have g3:(q:Int)+1<=(s.size:Int):=by omega
      have g4:(q:Int)<=(q:Int)+1:=by omega
      go_wp2
      go_region
      go_wp2;rw [EX.o];have F:=(show uJ s b tail w (q+1) (w1.setCell ⟨b,1,none⟩ (.int .i64 ((q:Int)+1))) from H2.o.step hbl (q+1)).put hbl (.int .i64 3) (.int .i64 q) (.string (bs [s[q]'hlt])) (.int .i64 0) (.int .i64 0) (.int .i64 0) (.string ⟨#[]⟩);have e0:=F.1.drew.cell 0;have e1:=F.1.drew.cell 1;have e2:=F.1.drew.cell 2;have e3:=F.1.drew.cell 3;have h0:=F.2.1.drew.cell 0;have h1:=F.2.1.drew.cell 1;have h2:=F.2.1.drew.cell 2;simp only [bI,bN,bK] at e0 e1 e2 e3 h0 h1 h2;refine bodyPost_ret (v:=qb R) ?_ rfl ⟨rfl,by rw [RF.o]; exact yc.drew F.2.2.1,yh F.2.2.2⟩;rw [RF.o];clear F t0 t1 t2 t3 v0 v1 v2 v3 x0 x1 x2 y0 y1 y2 H2
      simp only [sets,lu,lW] at e0 e1 e2 e3 h0 h1 h2;generalize World.drew _=WF at *;simp [results,Tryz.results84,go_sem,qb,fV,ou,e0,e1,e2,e3,h0,h1,h2]
    ·simp only [hI,if_true] at zu;clear hI;have RF:=hid zu.o;have hr:=NC (f:=As.aX) (s:=sl s) (k:=q) (by rw [yq]; omega);rw [yq] at hr;have hr2:=Ny As.aX (sl s) q;have EX:=hid (show s.extract q (As.skip As.aX (sl s) q)=bs (((sl s).drop q).takeWhile As.aX) from by
      rw [Nj];unfold As.skip;rw [Nat.add_sub_cancel_left];exact congrArg bs (List.prefix_iff_eq_take.1 (List.takeWhile_prefix As.aX)).symm)
     clear t0 t1 t2 t3 v0 v1 v2 v3 x0 x1 x2 y0 y1 y2 c0 c1 f1;go_wp2_with fail;refine (cW.o _ H2.o.sc).mono ?_;rintro e V3 ⟨rfl,hsc,hg⟩;have H3:=hid (H2.o.call hbl hsc hg);clear hsc hg cW H2;generalize As.skip As.aX (sl s) q=r at *;generalize ((sl s).drop q).takeWhile As.aX=tx at *;have g3:(q:Int)<=(r:Int):=by omega
     have g4:(r:Int)<=(s.size:Int):=by omega
     have c0:=H3.o.sc.c0;have c1:=H3.o.sc.c1;have f1:=H3.o.sc.f1;have t0:=H3.o.t.cell 0;have t1:=H3.o.t.cell 1;have t2:=H3.o.t.cell 2;have t3:=H3.o.t.cell 3;have v0:=H3.o.t.free 0;have v1:=H3.o.t.free 1;have v2:=H3.o.t.free 2;have v3:=H3.o.t.free 3;have x0:=H3.o.f.cell 0;have x1:=H3.o.f.cell 1;have x2:=H3.o.f.cell 2;have y0:=H3.o.f.free 0;have y1:=H3.o.f.free 1;have y2:=H3.o.f.free 2;simp only [bI,bN,bK] at t0 t1 t2 t3 x0 x1 x2;go_wp2
     go_region
     go_wp2;rw [EX.o];have F:=H3.o.put hbl (.int .i64 1) (.int .i64 q) (.string (bs tx)) (.int .i64 0) (.int .i64 0) (.int .i64 0) (.string ⟨#[]⟩);have e0:=F.1.drew.cell 0;have e1:=F.1.drew.cell 1;have e2:=F.1.drew.cell 2;have e3:=F.1.drew.cell 3;have h0:=F.2.1.drew.cell 0;have h1:=F.2.1.drew.cell 1;have h2:=F.2.1.drew.cell 2;simp only [bI,bN,bK] at e0 e1 e2 e3 h0 h1 h2;refine bodyPost_ret (v:=qb R) ?_ rfl ⟨rfl,by rw [RF.o]; exact yc.drew F.2.2.1,yh F.2.2.2⟩;rw [RF.o];clear F t0 t1 t2 t3 v0 v1 v2 v3 x0 x1 x2 y0 y1 y2 H3;simp only [sets,lu,lW] at e0 e1 e2 e3 h0 h1 h2;generalize World.drew _=WF at *
     simp [results,Tryz.results84,go_sem,qb,fV,ou,e0,e1,e2,e3,h0,h1,h2]
   ·simp only [hD,if_true] at zu;clear hD;have RF:=hid zu.o;clear t0 t1 t2 t3 v0 v1 v2 v3 x0 x1 x2 y0 y1 y2 c0 c1 f1;go_wp2_with fail;refine (cN.o _ H2.o.sc).mono ?_;rintro e V3 ⟨rfl,hsc,hg⟩;have H3:=hid (H2.o.call hbl hsc hg);clear hsc hg cN H2;generalize As.iH (sl s) q=R3 at *;obtain ⟨⟨kk,pp,tt,nn⟩,⟨fe,fa⟩,rr⟩:=R3;simp only [qb,fV,ou];have c0:=H3.o.sc.c0;have c1:=H3.o.sc.c1;have f1:=H3.o.sc.f1;have t0:=H3.o.t.cell 0;have t1:=H3.o.t.cell 1;have t2:=H3.o.t.cell 2;have t3:=H3.o.t.cell 3;have v0:=H3.o.t.free 0;have v1:=H3.o.t.free 1;have v2:=H3.o.t.free 2;have v3:=H3.o.t.free 3;have x0:=H3.o.f.cell 0
    have x1:=H3.o.f.cell 1;have x2:=H3.o.f.cell 2;have y0:=H3.o.f.free 0;have y1:=H3.o.f.free 1;have y2:=H3.o.f.free 2;simp only [bI,bN,bK] at t0 t1 t2 t3 x0 x1 x2;go_wp2;have F:=H3.o.put hbl (.int .i64 kk) (.int .i64 pp) (.string (bs tt)) (.int .i64 nn) (.int .i64 fe) (.int .i64 fa) (.string ⟨#[]⟩);have e0:=F.1.cell 0;have e1:=F.1.cell 1;have e2:=F.1.cell 2;have e3:=F.1.cell 3;have h0:=F.2.1.cell 0;have h1:=F.2.1.cell 1;have h2:=F.2.1.cell 2;simp only [bI,bN,bK] at e0 e1 e2 e3 h0 h1 h2;refine bodyPost_ret (v:=qb R) ?_ rfl ⟨rfl,by rw [RF.o]; exact F.2.2.1,F.2.2.2⟩;rw [RF.o];clear F t0 t1 t2 t3 v0 v1 v2 v3 x0 x1 x2 y0 y1 y2 H3
    simp only [sets,lu,lW] at e0 e1 e2 e3 h0 h1 h2;generalize World.setCell _ _ _=WF at *;simp [results,Tryz.results84,go_sem,qb,fV,ou,e0,e1,e2,e3,h0,h1,h2]
  ·simp only [hE,if_true] at zu;clear hE;have RF:=hid zu.o;have c0:=H2.o.sc.c0;have c1:=H2.o.sc.c1;have f1:=H2.o.sc.f1;have t0:=H2.o.t.cell 0;have t1:=H2.o.t.cell 1;have t2:=H2.o.t.cell 2;have t3:=H2.o.t.cell 3;have v0:=H2.o.t.free 0;have v1:=H2.o.t.free 1;have v2:=H2.o.t.free 2;have v3:=H2.o.t.free 3;have x0:=H2.o.f.cell 0;have x1:=H2.o.f.cell 1;have x2:=H2.o.f.cell 2;have y0:=H2.o.f.free 0;have y1:=H2.o.f.free 1;have y2:=H2.o.f.free 2;simp only [bI,bN,bK] at t0 t1 t2 t3 x0 x1 x2;go_wp2;have F:=H2.o.put hbl (.int .i64 4) (.int .i64 q) (.string ⟨#[]⟩) (.int .i64 0) (.int .i64 0) (.int .i64 0) (.string ⟨#[]⟩)
   have e0:=F.1.cell 0;have e1:=F.1.cell 1;have e2:=F.1.cell 2;have e3:=F.1.cell 3;have h0:=F.2.1.cell 0;have h1:=F.2.1.cell 1;have h2:=F.2.1.cell 2;simp only [bI,bN,bK] at e0 e1 e2 e3 h0 h1 h2;refine bodyPost_ret (v:=qb R) ?_ rfl ⟨rfl,by rw [RF.o]; exact F.2.2.1,F.2.2.2⟩;rw [RF.o];clear F t0 t1 t2 t3 v0 v1 v2 v3 x0 x1 x2 y0 y1 y2 H2;simp only [sets,lu,lW] at e0 e1 e2 e3 h0 h1 h2;generalize World.setCell _ _ _=WF at *;simp [results,Tryz.results84,go_sem,qb,fV,ou,bs,e0,e1,e2,e3,h0,h1,h2]
 ·have RF:=hid (show R=(⟨4,q,[],0⟩,(0,0),q) from by rw [RR.o]; unfold As.iL; rw [List.getElem?_eq_none (by rw [yq]; omega)]);rw [show ((sl s)[q]?.map As.ends).getD true=true from by rw [List.getElem?_eq_none (by rw [yq]; omega)]; rfl];have c0:=H2.o.sc.c0;have c1:=H2.o.sc.c1;have f1:=H2.o.sc.f1;have t0:=H2.o.t.cell 0;have t1:=H2.o.t.cell 1;have t2:=H2.o.t.cell 2;have t3:=H2.o.t.cell 3;have v0:=H2.o.t.free 0;have v1:=H2.o.t.free 1;have v2:=H2.o.t.free 2;have v3:=H2.o.t.free 3;have x0:=H2.o.f.cell 0;have x1:=H2.o.f.cell 1;have x2:=H2.o.f.cell 2;have y0:=H2.o.f.free 0;have y1:=H2.o.f.free 1;have y2:=H2.o.f.free 2
  simp only [bI,bN,bK] at t0 t1 t2 t3 x0 x1 x2;go_wp2;have F:=H2.o.put hbl (.int .i64 4) (.int .i64 q) (.string ⟨#[]⟩) (.int .i64 0) (.int .i64 0) (.int .i64 0) (.string ⟨#[]⟩);have e0:=F.1.cell 0;have e1:=F.1.cell 1;have e2:=F.1.cell 2;have e3:=F.1.cell 3;have h0:=F.2.1.cell 0;have h1:=F.2.1.cell 1;have h2:=F.2.1.cell 2;simp only [bI,bN,bK] at e0 e1 e2 e3 h0 h1 h2;refine bodyPost_ret (v:=qb R) ?_ rfl ⟨rfl,by rw [RF.o]; exact F.2.2.1,F.2.2.2⟩;rw [RF.o];clear F t0 t1 t2 t3 v0 v1 v2 v3 x0 x1 x2 y0 y1 y2 H2;simp only [sets,lu,lW] at e0 e1 e2 e3 h0 h1 h2;generalize World.setCell _ _ _=WF at *;simp [results,Tryz.results84,go_sem,qb,fV,ou,bs,e0,e1,e2,e3,h0,h1,h2]
theorem ylk (s:ByteArray) (b:Nat) (tail:List Value) (p:Nat) (w:World) (h:fG s b tail p w) (hs:s.size<=1000) (hp:p<=s.size) :
  Calls Tryz.prog 55 #[.pointer (some ⟨b,0,none⟩)] w fun e w'=>e = .returned (.bool (As.lineEnd (sl s) p).1)/\fG s b tail (As.lineEnd (sl s) p).2 w'/\w.grownBy w' (some b):=by
 have H:=hid h;clear h;have SL:=hid (yq s);go_enter Tryz.func55,Tryz.ntmps55;go_wp2
 go_loopw [] (fun wr=>∃ k:Nat,k<=s.size/\fG s b tail k wr/\As.skip As.eG (sl s) k=As.skip As.eG (sl s) p/\w.grownBy wr (some b)) (fun wr=>s.size - DT b wr)
 case atStart=>exact ⟨p,hp,H.o,rfl,World.grownBy.refl _ _⟩
 case round =>
  obtain ⟨k,hk,hsc,hsk,hgr⟩:=hrel;have c0:=hsc.c0;have c1:=hsc.c1;have f1:=hsc.f1;have HS:=hid hsc;have HK:=hid hsk;have HG:=hid hgr;clear hsc hsk hgr;by_cases hlt:k < s.size
  ·have d:decide ((k:Int) < (s.size:Int))=true:=by simp; omega
   have g1:(0:Int)<=(k:Int):=by omega
   have g2:(k:Int) < (s.size:Int):=by omega
   have HL:=hid (show k < (sl s).length by rw [SL.o]; exact hlt);have GET:=hid (Ql s k hlt);by_cases e1:(s[k]'hlt).toNat=10
   ·have d1:(((s[k]'hlt).toNat:Int) == 10)=true:=by simp; omega
    have d2:(((s[k]'hlt).toNat:Int) != 10)=false:=by simp; omega
    have d3:decide ((s.size:Int)<=(k:Int))=false:=by simp; omega
    have E:=hid (PZ (f:=As.eG) HL.o (by rw [GET.o]; unfold As.eG; rw [e1]; rfl));clear e1;go_wp2
    go_quiet (fail)
    go_wp2
    go_quiet (fail)
    go_wp2;go_ret;have F:As.lineEnd (sl s) p=(true,k+1):=by unfold As.lineEnd; rw [<- HK.o,E.o,if_pos HL.o]
    rw [F];exact ⟨rfl,HS.o.step _ (k+1),Nk HG.o _ _⟩
   ·have d1:(((s[k]'hlt).toNat:Int) == 10)=false:=by simp; omega
    have d2:(((s[k]'hlt).toNat:Int) != 10)=true:=by simp; omega
    have E:=hid (Nz (f:=As.eG) HL.o (by rw [GET.o]; unfold As.eG; rw [beq_eq_false_iff_ne.2 e1]; rfl));clear e1;go_wp2
    go_quiet (fail)
    go_wp2
    go_roundw
    case rel=>exact ⟨k+1,by omega,HS.o.step _ (k+1),by rw [<- E.o,HK.o],Nk HG.o _ _⟩
    case measure=>exact Nq HS.o _ hlt
  ·have d:decide ((k:Int) < (s.size:Int))=false:=by simp; omega
   have d3:decide ((s.size:Int)<=(k:Int))=true:=by simp; omega
   have E:=hid (Qe (f:=As.eG) (s:=sl s) (k:=k) (by rw [SL.o]; omega));go_wp2
   go_quiet (fail)
   go_wp2
   go_quiet (fail)
   go_wp2;go_ret;have F:As.lineEnd (sl s) p=(false,k):=by unfold As.lineEnd; rw [<- HK.o,E.o,if_neg (by rw [SL.o]; exact hlt)]
   rw [F];exact ⟨rfl,(HS.o.drewN _).drewN _,yf (yf HG.o _) _⟩
theorem yot (s:ByteArray) (q:Nat) (hs:s.size<=1000) (hq:q<=s.size):xL (As.iL (sl s) q).1/\(As.iL (sl s) q).2.1.1<=99/\(As.iL (sl s) q).2.1.2<=1000/\(As.iL (sl s) q).2.2<=s.size/\q<=(As.iL (sl s) q).2.2:=by
 have tok0:=KN;by_cases hlt:q < s.size
 ·have e:(sl s)[q]?=some (s[q]'hlt):=by rw [j3 (by rw [yq]; exact hlt)]; rfl
  have hlen:∀ f:UInt8->Bool,(((sl s).drop q).takeWhile f).length<=1000:=fun f=>by
   have h1:=(List.takeWhile_prefix f (l:=(sl s).drop q)).length_le;rw [List.length_drop,yq] at h1;omega
  have hsk:∀ f:UInt8->Bool,As.skip f (sl s) q<=s.size:=fun f=>by
   have:=NC (f:=f) (s:=sl s) (k:=q) (by rw [yq]; omega)
   rw [yq] at this;exact this
  unfold As.iL;rw [e];simp only;split
  ·exact ⟨⟨by simp,by simp; omega,by simp,by simp⟩,by simp,by simp,hq,Nat.le_refl _⟩
  split
  ·obtain ⟨w1,w2,w3,w4⟩:=X8 As.bA s q hq _ rfl;unfold As.iH;split
   ·exact ⟨tok0,by simp,by simp; omega,by simp; omega,by simp⟩
   split
   ·exact ⟨tok0,by simp,by have:=hsk As.bA; simp; omega,hsk _,Ny _ _ _⟩
   ·refine ⟨⟨by simp,by simp; omega,hlen _,?_⟩,by simp,by simp,hsk _,Ny _ _ _⟩
    have:=ZE _ w1 10 (by omega)
    rw [List.take_of_length_le (by omega)] at this;exact this
  split
  ·exact ⟨⟨by simp,by simp; omega,hlen _,by simp⟩,by simp,by simp,hsk _,Ny _ _ _⟩
  split
  ·exact ⟨⟨by simp,by simp; omega,by simp,by simp⟩,by simp,by simp,by simp; omega,by simp⟩
  ·exact ⟨tok0,by simp,by simp; omega,hq,Nat.le_refl _⟩
 ·have e:(sl s)[q]?=none:=List.getElem?_eq_none (by rw [yq]; omega);unfold As.iL;rw [e];exact ⟨⟨by simp,by simp; omega,by simp,by simp⟩,by simp,by simp,hq,Nat.le_refl _⟩
theorem yqM (s:ByteArray) (p:Nat) (hs:s.size<=1000) (hp:p<=s.size):xL (As.next (sl s) p).1/\(As.next (sl s) p).2.1.1<=99/\(As.next (sl s) p).2.1.2<=1000/\(As.next (sl s) p).2.2<=s.size/\p<=(As.next (sl s) p).2.2:=by
 have hq:=NC (f:=As.blank) (s:=sl s) (k:=p) (by rw [yq]; exact hp);rw [yq] at hq;obtain ⟨a,b,c,d,e⟩:=yot s (As.skip As.blank (sl s) p) hs hq;have h2:=Ny As.blank (sl s) p;exact ⟨a,b,c,d,Nat.le_trans h2 e⟩
theorem Nr (t:As.Tok) (c:List UInt8) (w:World) :
  Calls Tryz.prog 51 #[fV t,.string (bs c)] w fun e w'=>e = .returned (.bool (t.is c))/\w.grownBy w' none:=by
 obtain ⟨kind,pos,text,n⟩:=t;have E:=hid (show As.Tok.is ⟨kind,pos,text,n⟩ c=(kind == 3 && text == c) from rfl);generalize As.Tok.is ⟨kind,pos,text,n⟩ c=x at *;unfold fV;simp only;have G:=hid (fun o:Obj=>aJ w o none)
 cases hk:(kind == 3)
 ·have d:((kind:Int) == 3)=false:=by simp at hk ⊢; omega
  rw [hk] at E;clear hk;go_enter Tryz.func51,Tryz.ntmps51;go_wp2;go_ret;exact ⟨by rw [E.o]; rfl,G.o _⟩
 ·have d:((kind:Int) == 3)=true:=by simp at hk ⊢; omega
  rw [hk] at E;clear hk
  cases ht:(text == c)
  ·have b1:((bs text).toList == (bs c).toList)=false:=by rw [yH,yH]; exact ht
   rw [ht] at E;clear ht;go_enter Tryz.func51,Tryz.ntmps51;go_wp2;go_ret;exact ⟨by rw [E.o]; rfl,G.o _⟩
  ·have b1:((bs text).toList == (bs c).toList)=true:=by rw [yH,yH]; exact ht
   rw [ht] at E;clear ht;go_enter Tryz.func51,Tryz.ntmps51;go_wp2;go_ret;exact ⟨by rw [E.o]; rfl,G.o _⟩
def Qc (g:Nat) (st:As.St):List Value :=
 [.int .i64 st.tok.kind,.int .i64 st.tok.pos,.string (bs st.tok.text),.int .i64 st.tok.n,.int .i64 st.fe,.int .i64 st.fa,.string ⟨#[]⟩,
  .int .i64 st.op.kind,.int .i64 st.op.pos,.string (bs st.op.text),.int .i64 st.op.n,.int .i64 st.ah,.pointer (some ⟨g,0,none⟩)]
theorem yc.new1 (W:World) (o:Obj) (cs:Array Value) (t:TypeId):yc ((W.alloc o).alloc (.cells cs t)) (W.heap.size+1) cs t:=by
 have:=yc.new (W.alloc o) cs t
 rw [show (W.alloc o).heap.size=W.heap.size+1 by simp] at this;exact this
section
variable {B:Nat} {s:ByteArray} {b g:Nat} {st:As.St} {W W':World}
theorem yl.sc (h:yl B s b g st W):fG s b (Qc g st) st.p W:=h.blk
theorem jE.p' (h:jE s st) (q:Nat) (hq:q<=s.size):jE s { st with p:=q } :=
 ⟨h.size,hq,h.tok,h.fe,h.fa,h.op,h.ah,h.text,h.far,h.data,h.bss,h.align,h.syms,h.aj⟩
theorem yl.scanned (h:yl B s b g st W) {q:Nat} (hsc:fG s b (Qc g st) q W') (hg:W.grownBy W' (some b)) (hq:q<=s.size):yS B s b g W { st with p:=q } W' :=
 ⟨h.put _ hsc hg rfl (h.ok.p' q hq),hg⟩
end
theorem Dq (B:Nat) (s:ByteArray) (b g:Nat) (st:As.St) (W:World) (h:yl B s b g st W) :
  Calls Tryz.prog 49 #[.pointer (some ⟨b,0,none⟩)] W fun en W'=>en = .returned (.tuple #[])/\yS B s b g W (As.advance (sl s) st) W':=by
 have cF:=hid (D9 B s b g st W h);have H:=hid h;clear h
 cases hf:As.failed st
 ·have cN:=hid (ypA s b (Qc g st) st.p W H.o.sc H.o.ok.size H.o.ok.p);obtain ⟨o1,o2,o3,o4,-⟩:=yqM s st.p H.o.ok.size H.o.ok.p;have RA:=hid (show As.advance (sl s) st=if (As.next (sl s) st.p).2.1.1 == 0 then { st with p:=(As.next (sl s) st.p).2.2,tok:=(As.next (sl s) st.p).1 } else As.refuse (As.next (sl s) st.p).2.1.1 (As.next (sl s) st.p).2.1.2 { st with p:=(As.next (sl s) st.p).2.2 } from by unfold As.advance; rw [hf]; rfl);generalize As.next (sl s) st.p=R at *;obtain ⟨⟨kk,pp,tt,nn⟩,⟨fe,fa⟩,rr⟩:=R;simp only at o1 o2 o3 o4 RA;rw [hf] at cF;clear hf;go_enter Tryz.func49,Tryz.ntmps49;go_wp2_with fail
  refine cF.o.mono ?_;rintro e w1 ⟨rfl,rfl⟩;clear cF;go_wp2_with fail;refine cN.o.mono ?_;rintro e V ⟨rfl,hsc,hg⟩;simp only [qb,fV,ou] at hsc ⊢;have hd:yS B s b g w1 { st with p:=rr } V:=H.o.scanned hsc hg o4;clear hsc hg cN H;have HD:=hid hd;have H1:=hid hd.1;clear hd
  cases hz:(fe == 0)
  ·have d:((fe:Int) == 0)=false:=by simp at hz ⊢; omega
   have d':((fe:Int) != 0)=true:=by simp at hz ⊢; omega
   rw [hz] at RA;clear hz;go_wp2_with fail;refine (yK B s b g _ fe fa _ ((HD.o.alloc _).alloc _).1 o2 o3).mono ?_;rintro e V2 ⟨rfl,h2⟩;have HF:=hid (((HD.o.alloc _).alloc _).after h2);clear h2;go_wp2
   (try simp only [Exit.inBlock,Exit.then]); refine bodyPost_ret (results_none rfl _ _ _) rfl ?_
   rw [RA.o];exact ⟨rfl,HF.o⟩
  ·have d:((fe:Int) == 0)=true:=by simp at hz ⊢; omega
   have d':((fe:Int) != 0)=false:=by simp at hz ⊢; omega
   rw [hz] at RA;clear hz;have k2:=H1.o.blk.free 2;have k3:=H1.o.blk.free 3;have k4:=H1.o.blk.free 4;have k5:=H1.o.blk.free 5;have c2:=yL H1.o 2;have c3:=yL H1.o 3;have c4:=yL H1.o 4;have c5:=yL H1.o 5;simp only [yE,bI,bN,bK] at c2 c3 c4 c5;have hbl:=H1.o.blk.lt;have hn1:b≠V.heap.size:=by omega
   have hn2:b≠V.heap.size+1:=by omega
   go_wp2
   go_end0
   rw [RA.o];have F:=HD.o.sets [(2,.int .i64 kk),(3,.int .i64 pp),(4,.string (bs tt)),(5,.int .i64 nn)] { st with p:=rr,tok:=⟨kk,pp,tt,nn⟩ }
    (by simp only [uy,yE,lu,lW,gu,fZ,gq]) rfl (H1.o.ok.tok' _ o1 _ _ H1.o.ok.fe H1.o.ok.fa)
   exact ⟨rfl,(F.alloc _).alloc _⟩
 ·have R:=hid (show As.advance (sl s) st=st by unfold As.advance; rw [hf]; rfl);rw [hf] at cF;clear hf;go_enter Tryz.func49,Tryz.ntmps49;go_wp2_with fail;refine cF.o.mono ?_;rintro e w1 ⟨rfl,rfl⟩;go_wp2
  (try simp only [Exit.inBlock,Exit.then]); refine bodyPost_ret (results_none rfl _ _ _) rfl ?_
  rw [R.o];exact ⟨rfl,H.o.jU⟩
theorem Xp (B:Nat) (s:ByteArray) (b g:Nat) (st:As.St) (W:World) (h:yl B s b g st W) :
  Calls Tryz.prog 50 #[.pointer (some ⟨b,0,none⟩)] W fun en W'=>en = .returned (fV (As.bU (sl s) st).1)/\yS B s b g W (As.bU (sl s) st).2 W':=by
 have H:=hid h;have hbl:=h.blk.lt;have c2:=yL h 2;have c3:=yL h 3;have c4:=yL h 4;have c5:=yL h 5;simp only [yE,bI,bN,bK] at c2 c3 c4 c5;clear h;have hn1:b≠W.heap.size:=by omega
 have hn2:b≠W.heap.size+1:=by omega
 cases hk:(st.tok.kind == 1)
 ·have d:((st.tok.kind:Int) == 1)=false:=by simp at hk ⊢; omega
  have d':((st.tok.kind:Int) != 1)=true:=by simp at hk ⊢; omega
  have R:=hid (show As.bU (sl s) st=(As.Tok.nil,st) by unfold As.bU; rw [hk]; rfl);clear hk;go_enter Tryz.func50,Tryz.ntmps50;go_wp2;have F:=yc.new W #[.int .i64 0,.int .i64 0,.string ⟨#[]⟩,.int .i64 0] 64;have e0:=F.cell 0;have e1:=F.cell 1;have e2:=F.cell 2;have e3:=F.cell 3;simp only [bI,bN,bK] at e0 e1 e2 e3;rw [R.o];refine bodyPost_ret (v:=fV As.Tok.nil) ?_ rfl ⟨rfl,H.o.jU.alloc _⟩;clear F;generalize World.alloc _ _=WF at *;simp [results,Tryz.results50,go_sem,fV,As.Tok.nil,bs,e0,e1,e2,e3]
 ·have d:((st.tok.kind:Int) == 1)=true:=by simp at hk ⊢; omega
  have d':((st.tok.kind:Int) != 1)=false:=by simp at hk ⊢; omega
  have R:=hid (show As.bU (sl s) st=(st.tok,As.advance (sl s) st) by unfold As.bU; rw [hk]; rfl);clear hk;go_enter Tryz.func50,Tryz.ntmps50;go_wp2_with fail;refine (Dq B s b g st _ ((H.o.jU.alloc _).alloc _).1).mono ?_;rintro e V ⟨rfl,hd⟩;have L1:=hid ((((yc.new W #[.int .i64 0,.int .i64 0,.string ⟨#[]⟩,.int .i64 0] 64).grown (aJ _ (.cells #[.int .i64 st.tok.kind,.int .i64 st.tok.pos,.string (bs st.tok.text),.int .i64 st.tok.n] 64) none) (by simp)).grown hd.2 (by simp; omega)));have L2:=hid ((yc.new1 W (.cells #[.int .i64 0,.int .i64 0,.string ⟨#[]⟩,.int .i64 0] 64) #[.int .i64 st.tok.kind,.int .i64 st.tok.pos,.string (bs st.tok.text),.int .i64 st.tok.n] 64).grown hd.2 (by simp; omega))
  have HD:=hid (((H.o.jU.alloc _).alloc _).after hd);clear hd c2 c3 c4 c5;have m0:=L2.o.cell 0;have m1:=L2.o.cell 1;have m2:=L2.o.cell 2;have m3:=L2.o.cell 3;have t0:=L1.o.cell 0;have t1:=L1.o.cell 1;have t2:=L1.o.cell 2;have t3:=L1.o.cell 3;have v0:=L1.o.free 0;have v1:=L1.o.free 1;have v2:=L1.o.free 2;have v3:=L1.o.free 3;simp only [bI,bN,bK] at m0 m1 m2 m3 t0 t1 t2 t3;go_wp2;rw [R.o];have D:=HD.o.local L1.o (by unfold uO; decide) H.o.size (Nat.le_refl _) [(0,.int .i64 st.tok.kind),(1,.int .i64 st.tok.pos),(2,.string (bs st.tok.text)),(3,.int .i64 st.tok.n)];have F:=D8 [(0,.int .i64 st.tok.kind),(1,.int .i64 st.tok.pos),(2,.string (bs st.tok.text)),(3,.int .i64 st.tok.n)] L1.o
  have e0:=F.cell 0;have e1:=F.cell 1;have e2:=F.cell 2;have e3:=F.cell 3;simp only [uy,lu,lW,gu,fZ,gq,bI,bN,bK] at e0 e1 e2 e3;refine bodyPost_ret (v:=fV st.tok) ?_ rfl ⟨rfl,D⟩;clear D F t0 t1 t2 t3 v0 v1 v2 v3 m0 m1 m2 m3;simp only [sets,lu,lW] at e0 e1 e2 e3;generalize World.setCell _ _ _=WF at *;simp [results,Tryz.results50,go_sem,fV,e0,e1,e2,e3]
theorem yjJ (s:ByteArray) (w:World) (hs:s.size<=1000) :
  Calls Tryz.prog 135 #[.string s] w fun e w'=>e = .returned (.bool (As.kG (sl s)))/\w'=w:=by
 have HP:=hid (show As.kG (sl s)=(sl s).any (fun c=>c.toNat == 46) from rfl);generalize As.kG (sl s)=x at *;go_enter Tryz.func135,Tryz.ntmps135;go_wp2
 go_loop [3] (fun i=>∃ k:Nat,k<=s.size/\i = .int .i64 k/\∀ j (hj:j < s.size),j < k->(s[j]'hj).toNat≠46) (fun i=>s.size - (intOf i).toNat)
 case atStart=>exact ⟨0,Nat.zero_le _,rfl,fun j _ hj=>absurd hj (Nat.not_lt_zero j)⟩
 case round =>
  obtain ⟨k,hk,rfl,hall⟩:=hrel;have HA:=hid hall;clear hall;by_cases hlt:k < s.size
  ·by_cases e1:(s[k]'hlt).toNat=46
   ·have d1:(((s[k]'hlt).toNat:Int) == 46)=true:=by simp; omega
    have E:=hid (show x=true by rw [HP.o,List.any_eq_true]; exact ⟨s[k]'hlt,by rw [<- Ql s k hlt]; exact iq _,by rw [e1]; rfl⟩);clear e1;go_wp2;go_ret;exact ⟨by rw [E.o]; rfl,rfl⟩
   ·have d1:(((s[k]'hlt).toNat:Int) == 46)=false:=by simp; omega
    have E:=hid e1;clear e1;go_wp2
    go_round
    case rel=>exact ⟨k+1,by omega,by go_num,fun j hj hjk=>(Nat.lt_succ_iff_lt_or_eq.1 hjk).elim (fun h=>HA.o j hj h) (fun h=>by subst h; exact E.o)⟩
    case measure=>simp [intOf]; omega
  ·have E:=hid (show x=false from by
    rw [HP.o,List.any_eq_false];intro c hc;obtain ⟨j,hj,rfl⟩:=List.getElem_of_mem hc;have hj':j < s.size:=by rw [yq] at hj; exact hj
    have:=HA.o j hj' (by omega)
    simp only [beq_iff_eq];exact this)
   go_wp2;go_ret;exact ⟨by rw [E.o]; rfl,rfl⟩
theorem yne (l:List UInt8):As.jf l=if 2<=l.length/\l.length<=3/\(l[0]?.map (·.toNat))=some 120/\¬ ((l[1]?.map (·.toNat))=some 48/\2 < l.length)/\(∀ c∈l.drop 1,As.bA c=true)/\As.dec (l.drop 1)<=31 then some (As.dec (l.drop 1)) else none:=by
 match l with
 | []=>simp [As.jf]
 | [a]=>simp [As.jf]
 | [x,a] =>
  simp only [As.jf,jm,List.length_nil,bK,Option.map_some,Option.some.injEq,List.drop_succ_cons,List.drop_zero,List.mem_singleton,forall_eq,As.dec,lu,lW];by_cases h:x.toNat=120/\As.bA a=true
  ·have h2:=h.2;unfold As.bA at h2;simp at h2;rw [if_pos h,if_pos ⟨by omega,by omega,h.1,by simp,h.2,by omega⟩];simp
  ·rw [if_neg h,if_neg (fun k=>h ⟨k.2.2.1,k.2.2.2.2.1⟩)]
 | [x,a,b] =>
  simp only [As.jf,jm,List.length_nil,bK,bN,Option.map_some,Option.some.injEq,List.drop_succ_cons,List.drop_zero,List.mem_cons,List.mem_nil_iff,or_false,forall_eq_or_imp,forall_eq,As.dec,lu,lW];by_cases h:x.toNat=120/\As.bA a=true/\a.toNat≠48/\As.bA b=true/\10 * (a.toNat - 48)+(b.toNat - 48)<=31
  ·rw [if_pos h,if_pos ⟨by omega,by omega,h.1,fun k=>h.2.2.1 k.1,⟨h.2.1,h.2.2.2.1⟩,by omega⟩];simp
  ·rw [if_neg h,if_neg (fun k=>h ⟨k.2.2.1,k.2.2.2.2.1.1,fun e=>k.2.2.2.1 ⟨e,by omega⟩,k.2.2.2.2.1.2,by have:=k.2.2.2.2.2; omega⟩)]
 | a :: b :: c :: d :: l =>
  rw [if_neg (fun k=>by have:=k.2.1; simp at this)];rfl
def Ag (r:Option Nat):Value:=.tuple #[.int .i64 (r.getD 0),.bool r.isSome]
theorem WV (s:ByteArray) (w:World) (hs:s.size<=1000) :
  Calls Tryz.prog 136 #[.string s] w fun e w'=>e = .returned (Ag (As.jf (sl s)))/\w'=w:=by
 have SP:=hid (yne (sl s));generalize As.jf (sl s)=R at *;have SL:=hid (yq s);have no:Hd (R=none->Ag R = .tuple #[.int .i64 0,.bool false]):=fun h=>by rw [h]; rfl
 by_cases c1:s.size < 2
 ·have D:decide ((s.size:Int) < 2)=true:=by simp; omega
  have RN:=hid (show R=none by rw [SP.o,if_neg (fun k=>by have:=k.1; rw [SL.o] at this; omega)]);clear c1;go_enter Tryz.func136,Tryz.ntmps136;go_wp2;go_ret2;exact ⟨by rw [no.o RN.o]; rfl,rfl⟩
 by_cases c2:3 < s.size
 ·have D1:decide ((s.size:Int) < 2)=false:=by simp; omega
  have D:decide ((3:Int) < (s.size:Int))=true:=by simp; omega
  have RN:=hid (show R=none by rw [SP.o,if_neg (fun k=>by have:=k.2.1; rw [SL.o] at this; omega)]);clear c1 c2;go_enter Tryz.func136,Tryz.ntmps136;go_wp2;go_ret2;exact ⟨by rw [no.o RN.o]; rfl,rfl⟩
 have D1:decide ((s.size:Int) < 2)=false:=by simp; omega
 have D2:decide ((3:Int) < (s.size:Int))=false:=by simp; omega
 have h0:0 < s.size:=by omega
 have h1:1 < s.size:=by omega
 have g0:(0:Int) < (s.size:Int):=by omega
 have g1:(1:Int) < (s.size:Int):=by omega
 have E0:=hid (show ((sl s)[0]?.map (·.toNat))=some (s[0]'h0).toNat by rw [j3 (by rw [SL.o]; exact h0)]; rfl);have E1:=hid (show ((sl s)[1]?.map (·.toNat))=some (s[1]'h1).toNat by rw [j3 (by rw [SL.o]; exact h1)]; rfl);by_cases c3:¬ (s[0]'h0).toNat=120
 ·have D3:(((s[0]'h0).toNat:Int) == 120)=false:=by simp; omega
  have D4:(((s[0]'h0).toNat:Int) != 120)=true:=by simp; omega
  have RN:=hid (show R=none by rw [SP.o,if_neg (fun k=>by have:=k.2.2.1; rw [E0.o] at this; exact c3 (Option.some.inj this))]);clear c1 c2 c3;go_enter Tryz.func136,Tryz.ntmps136;go_wp2;go_ret2;exact ⟨by rw [no.o RN.o]; rfl,rfl⟩
 have D3:(((s[0]'h0).toNat:Int) == 120)=true:=by simp; omega
 have D4:(((s[0]'h0).toNat:Int) != 120)=false:=by simp; omega
 have C3:=hid (show (s[0]'h0).toNat=120 by omega);clear c3;by_cases c4:(s[1]'h1).toNat=48/\2 < s.size
 ·have D5:(((s[1]'h1).toNat:Int) == 48)=true:=by simp; omega
  have D6:decide ((2:Int) < (s.size:Int))=true:=by simp; omega
  have RN:=hid (show R=none by rw [SP.o,if_neg (fun k=>k.2.2.2.1 ⟨by rw [E1.o,c4.1],by rw [SL.o]; exact c4.2⟩)]);clear c1 c2 c4;go_enter Tryz.func136,Tryz.ntmps136;go_wp2;go_ret2;exact ⟨by rw [no.o RN.o]; rfl,rfl⟩
 have C4:=hid c4;have DS:=hid (show ((sl s).drop 1).length=s.size - 1 by rw [List.length_drop,SL.o]);have DL:=hid (show ((sl s).drop 1).length<=2 by rw [DS.o]; omega);have DG:=hid (show ∀ j (h:j < ((sl s).drop 1).length) (hk:j+1 < s.size),s[j+1]'hk=((sl s).drop 1)[j] from fun j h hk=>by
  rw [List.getElem_drop]
  have:1+j=j+1:=by omega
  simp only [this];rfl)
 have RS:=hid (show (∀ c∈(sl s).drop 1,As.bA c=true)->As.dec ((sl s).drop 1)<=31->R=some (As.dec ((sl s).drop 1)) from fun a b=>by
  rw [SP.o,if_pos ⟨by rw [SL.o]; omega,by rw [SL.o]; omega,by rw [E0.o,C3.o],fun k=>C4.o ⟨by have:=k.1; rw [E1.o] at this; exact Option.some.inj this,by have:=k.2; rw [SL.o] at this; exact this⟩,a,b⟩])
 have Vz:=hid (show (¬ ∀ c∈(sl s).drop 1,As.bA c=true)->R=none from fun a=>by rw [SP.o,if_neg (fun k=>a k.2.2.2.2.1)]);have VE:=hid (show (¬ As.dec ((sl s).drop 1)<=31)->R=none from fun a=>by rw [SP.o,if_neg (fun k=>a k.2.2.2.2.2)]);have yes:Hd (∀ r:Nat,R=some r->Ag R = .tuple #[.int .i64 r,.bool true]):=fun r h=>by rw [h]; rfl
 clear SP E0 C3 C4;generalize (sl s).drop 1=ds at *;clear E1;by_cases c5:(s[1]'h1).toNat=48
 ·have D5:(((s[1]'h1).toNat:Int) == 48)=true:=by simp; omega
  have D6:decide ((2:Int) < (s.size:Int))=false:=by simp; omega
  clear c1 c2 c4 c5;go_enter Tryz.func136,Tryz.ntmps136;go_wp2
  go_loop [4,5] (fun r i=>∃ j:Nat,j<=ds.length/\i = .int .i64 (j+1:Nat)/\r = .int .i64 (As.dec (ds.take j))/\∀ c∈ds.take j,As.bA c=true) (fun _ i=>s.size - (intOf i).toNat)
  case atStart=>exact ⟨0,Nat.zero_le _,rfl,rfl,by simp⟩
  case round =>
   obtain ⟨j,hj,rfl,rfl,hall⟩:=hrel;have HA:=hid hall;have hb:=Uq (ds.take j) hall;have hl:(ds.take j).length<=2:=by rw [List.length_take]; have:=DL.o; omega
   have hb2:As.dec (ds.take j)<=100:=by
    have h3:10 ^ (ds.take j).length<=10 ^ 2:=Nat.pow_le_pow_right (by decide) hl;omega
   clear hb hl hall;have Lm:=hid (TR ds j);have QC:=hid (fun h:ds.length<=j=>List.take_of_length_le h);generalize hn:As.dec (ds.take j)=n at *;have HN:=hid hn;clear hn;generalize hm:j+1=m at *;have HM:=hid hm;clear hm;by_cases hlt:m < s.size
   ·have hlt2:(m:Int) < (s.size:Int):=by omega
    have hj2:j < ds.length:=by have:=DS.o; have:=HM.o; omega
    have EG:=hid (show (s[m]'hlt)=ds[j] from by have e:=HM.o; subst e; exact DG.o j hj2 hlt);have cD:=hid (fun W=>PN (s[m]'hlt) W)
    cases hd:As.bA (s[m]'hlt)
    ·have RN:=hid (Vz.o (fun k=>by have:=k ds[j] (iq hj2); rw [<- EG.o,hd] at this; exact Bool.false_ne_true this));rw [hd] at cD;clear hd;go_wp2_with fail;refine (cD.o _).mono ?_;rintro e w1 ⟨rfl,rfl⟩;go_wp2;go_ret2;exact ⟨by rw [no.o RN.o]; rfl,rfl⟩
    ·have HD:=hid hd;rw [hd] at cD;clear hd;go_wp2_with fail;refine (cD.o _).mono ?_;rintro e w1 ⟨rfl,rfl⟩;go_wp2
     go_round
     case rel =>
      refine ⟨j+1,by omega,by have:=HM.o; go_num,?_,?_⟩
      ·rw [HM.o,Lm.o hj2,<- EG.o]
       have:=HD.o
       unfold As.bA at this;simp at this
       congr 1
       omega
      ·intro c hc;rw [List.take_succ_eq_append_getElem hj2,List.mem_append,List.mem_singleton] at hc;rcases hc with hc | rfl
       ·exact HA.o c hc
       ·rw [<- EG.o]; exact HD.o
     case measure=>simp [intOf]; omega
   ·have hlt2:(s.size:Int)<=(m:Int):=by omega
    have hj2:ds.length<=j:=by have:=DS.o; have:=HM.o; omega
    have ED:=hid (show ds.take j=ds from QC.o hj2);by_cases h31:n<=31
    ·have D7:decide ((31:Int) < (n:Int))=false:=by simp; omega
     have RY:=hid (yes.o n (by rw [RS.o (by rw [<- ED.o]; exact HA.o) (by rw [<- ED.o,HN.o]; exact h31),<- HN.o,ED.o]));clear h31;go_wp2;go_ret2;exact ⟨by rw [RY.o]; rfl,rfl⟩
    ·have D7:decide ((31:Int) < (n:Int))=true:=by simp; omega
     have RN:=hid (VE.o (by rw [<- ED.o,HN.o]; exact h31));clear h31;go_wp2;go_ret2;exact ⟨by rw [no.o RN.o]; rfl,rfl⟩
 ·have D5:(((s[1]'h1).toNat:Int) == 48)=false:=by simp; omega
  clear c1 c2 c4 c5;go_enter Tryz.func136,Tryz.ntmps136;go_wp2
  go_loop [4,5] (fun r i=>∃ j:Nat,j<=ds.length/\i = .int .i64 (j+1:Nat)/\r = .int .i64 (As.dec (ds.take j))/\∀ c∈ds.take j,As.bA c=true) (fun _ i=>s.size - (intOf i).toNat)
  case atStart=>exact ⟨0,Nat.zero_le _,rfl,rfl,by simp⟩
  case round =>
   obtain ⟨j,hj,rfl,rfl,hall⟩:=hrel;have HA:=hid hall;have hb:=Uq (ds.take j) hall;have hl:(ds.take j).length<=2:=by rw [List.length_take]; have:=DL.o; omega
   have hb2:As.dec (ds.take j)<=100:=by
    have h3:10 ^ (ds.take j).length<=10 ^ 2:=Nat.pow_le_pow_right (by decide) hl;omega
   clear hb hl hall;have Lm:=hid (TR ds j);have QC:=hid (fun h:ds.length<=j=>List.take_of_length_le h);generalize hn:As.dec (ds.take j)=n at *;have HN:=hid hn;clear hn;generalize hm:j+1=m at *;have HM:=hid hm;clear hm;by_cases hlt:m < s.size
   ·have hlt2:(m:Int) < (s.size:Int):=by omega
    have hj2:j < ds.length:=by have:=DS.o; have:=HM.o; omega
    have EG:=hid (show (s[m]'hlt)=ds[j] from by have e:=HM.o; subst e; exact DG.o j hj2 hlt);have cD:=hid (fun W=>PN (s[m]'hlt) W)
    cases hd:As.bA (s[m]'hlt)
    ·have RN:=hid (Vz.o (fun k=>by have:=k ds[j] (iq hj2); rw [<- EG.o,hd] at this; exact Bool.false_ne_true this));rw [hd] at cD;clear hd;go_wp2_with fail;refine (cD.o _).mono ?_;rintro e w1 ⟨rfl,rfl⟩;go_wp2;go_ret2;exact ⟨by rw [no.o RN.o]; rfl,rfl⟩
    ·have HD:=hid hd;rw [hd] at cD;clear hd;go_wp2_with fail;refine (cD.o _).mono ?_;rintro e w1 ⟨rfl,rfl⟩;go_wp2
     go_round
     case rel =>
      refine ⟨j+1,by omega,by have:=HM.o; go_num,?_,?_⟩
      ·rw [HM.o,Lm.o hj2,<- EG.o]
       have:=HD.o
       unfold As.bA at this;simp at this
       congr 1
       omega
      ·intro c hc;rw [List.take_succ_eq_append_getElem hj2,List.mem_append,List.mem_singleton] at hc;rcases hc with hc | rfl
       ·exact HA.o c hc
       ·rw [<- EG.o]; exact HD.o
     case measure=>simp [intOf]; omega
   ·have hlt2:(s.size:Int)<=(m:Int):=by omega
    have hj2:ds.length<=j:=by have:=DS.o; have:=HM.o; omega
    have ED:=hid (show ds.take j=ds from QC.o hj2);by_cases h31:n<=31
    ·have D7:decide ((31:Int) < (n:Int))=false:=by simp; omega
     have RY:=hid (yes.o n (by rw [RS.o (by rw [<- ED.o]; exact HA.o) (by rw [<- ED.o,HN.o]; exact h31),<- HN.o,ED.o]));clear h31;go_wp2;go_ret2;exact ⟨by rw [RY.o]; rfl,rfl⟩
    ·have D7:decide ((31:Int) < (n:Int))=true:=by simp; omega
     have RN:=hid (VE.o (by rw [<- ED.o,HN.o]; exact h31));clear h31;go_wp2;go_ret2;exact ⟨by rw [no.o RN.o]; rfl,rfl⟩
theorem wm {B:Nat} {s:ByteArray} {b g:Nat} {st:As.St} {W:World} (h:yl B s b g st W) :
  W.cell? ⟨b,2,none⟩=some (.int .i64 st.tok.kind)/\W.cell? ⟨b,3,none⟩=some (.int .i64 st.tok.pos)/\W.cell? ⟨b,4,none⟩=some (.string (bs st.tok.text))/\W.cell? ⟨b,5,none⟩=some (.int .i64 st.tok.n):=by
 have c2:=yL h 2;have c3:=yL h 3;have c4:=yL h 4;have c5:=yL h 5;simp only [yE,bI,bN,bK] at c2 c3 c4 c5;exact ⟨c2,c3,c4,c5⟩
theorem yiC (B:Nat) (s:ByteArray) (b g:Nat) (st:As.St) (W:World) (h:yl B s b g st W) :
  Calls Tryz.prog 32 #[.pointer (some ⟨b,0,none⟩)] W fun en W'=>en = .returned (.bool (As.bG (sl s) st).1)/\yS B s b g W (As.bG (sl s) st).2 W':=by
 have cF:=hid (D9 B s b g st W h);have H:=hid h;clear h
 cases hf:As.failed st
 ·have cN:=hid (ylk s b (Qc g st) st.p W H.o.sc H.o.ok.size H.o.ok.p);have o4:(As.lineEnd (sl s) st.p).2<=s.size:=by
   have:=NC (f:=As.eG) (s:=sl s) (k:=st.p) (by rw [yq]; exact H.o.ok.p)
   rw [yq] at this;unfold As.lineEnd;split
   ·rename_i hx;rw [yq] at hx;exact hx
   ·exact this
  have RA:=hid (show As.bG (sl s) st=((As.lineEnd (sl s) st.p).1,{ st with p:=(As.lineEnd (sl s) st.p).2 }) from by unfold As.bG; rw [hf]; rfl);generalize As.bG (sl s) st=X at *;generalize As.lineEnd (sl s) st.p=R at *;rw [hf] at cF;clear hf;go_enter Tryz.func32,Tryz.ntmps32;go_wp2_with fail;refine cF.o.mono ?_;rintro e w1 ⟨rfl,rfl⟩;clear cF;go_wp2_with fail;refine cN.o.mono ?_;rintro e V ⟨rfl,hsc,hg⟩;have HD:=hid (H.o.scanned hsc hg o4);clear hsc hg cN;go_wp2;go_ret;rw [RA.o];exact ⟨rfl,HD.o⟩
 ·have R:=hid (show As.bG (sl s) st=(false,st) by unfold As.bG; rw [hf]; rfl);rw [hf] at cF;clear hf;go_enter Tryz.func32,Tryz.ntmps32;go_wp2_with fail;refine cF.o.mono ?_;rintro e w1 ⟨rfl,rfl⟩;go_wp2;go_ret;rw [R.o];exact ⟨rfl,H.o.jU⟩
theorem vR (B:Nat) (s:ByteArray) (b g:Nat) (st:As.St) (c:List UInt8) (W:World) (h:yl B s b g st W) :
  Calls Tryz.prog 187 #[.pointer (some ⟨b,0,none⟩),.string (bs c)] W fun en W'=>en = .returned (.tuple #[])/\yS B s b g W (As.sign (sl s) c st) W':=by
 have H:=hid h;obtain ⟨c2,c3,c4,c5⟩:=wm h;clear h;have cI:=hid (Nr st.tok c W);have hpos:=H.o.ok.tok.pos;unfold fV at cI;have RS:=hid (show As.sign (sl s) c st=if st.tok.is c then As.advance (sl s) st else As.refuse 3 st.tok.pos st from rfl);generalize As.sign (sl s) c st=X at *;go_enter Tryz.func187,Tryz.ntmps187;go_wp2_with fail;refine cI.o.mono ?_;rintro e V ⟨rfl,hg⟩;have HD:=hid (H.o.jU.grown hg);clear hg cI c2 c3 c4 c5;obtain ⟨c2,c3,c4,c5⟩:=wm HD.o.1
 cases hi:st.tok.is c
 ·rw [hi] at RS;clear hi;go_wp2_with fail;refine (yK B s b g st 3 st.tok.pos V HD.o.1 (by omega) hpos).mono ?_;rintro e V2 ⟨rfl,h2⟩;have HF:=hid (HD.o.after h2);clear h2;go_wp2
  (try simp only [Exit.inBlock,Exit.then]); refine bodyPost_ret (results_none rfl _ _ _) rfl ?_
  rw [RS.o];exact ⟨rfl,HF.o⟩
 ·rw [hi] at RS;clear hi;go_wp2_with fail;refine (Dq B s b g st V HD.o.1).mono ?_;rintro e V2 ⟨rfl,h2⟩;have HF:=hid (HD.o.after h2);clear h2;go_wp2
  go_end0
  rw [RS.o];exact ⟨rfl,HF.o⟩
theorem yQ (B:Nat) (s:ByteArray) (b g:Nat) (st:As.St) (W:World) (h:yl B s b g st W) :
  Calls Tryz.prog 186 #[.pointer (some ⟨b,0,none⟩)] W fun en W'=>en = .returned (.int .i64 (As.register (sl s) st).1)/\yS B s b g W (As.register (sl s) st).2 W':=by
 have H:=hid h;obtain ⟨c2,c3,c4,c5⟩:=wm h;clear h;have hpos:=H.o.ok.tok.pos
 cases hk:(st.tok.kind == 1)
 ·have d:((st.tok.kind:Int) == 1)=false:=by simp at hk ⊢; omega
  have d':((st.tok.kind:Int) != 1)=true:=by simp at hk ⊢; omega
  have RS:=hid (show As.register (sl s) st=(0,As.refuse 3 st.tok.pos st) by unfold As.register; rw [hk]; rfl);generalize As.register (sl s) st=X at *;clear hk;go_enter Tryz.func186,Tryz.ntmps186;go_wp2_with fail;refine (yK B s b g st 3 st.tok.pos W H.o (by omega) hpos).mono ?_;rintro e V2 ⟨rfl,h2⟩;have HF:=hid h2;clear h2;go_wp2;go_ret;rw [RS.o];exact ⟨rfl,HF.o⟩
 ·have d:((st.tok.kind:Int) == 1)=true:=by simp at hk ⊢; omega
  have d':((st.tok.kind:Int) != 1)=false:=by simp at hk ⊢; omega
  have cR:=hid (WV (bs st.tok.text) W (by rw [zh]; exact H.o.ok.tok.text));rw [Gx] at cR;have RS:=hid (show As.register (sl s) st=match As.jf st.tok.text with
   | none=>(0,As.refuse 7 st.tok.pos st)
   | some r=>(r,As.advance (sl s) st) by unfold As.register; rw [hk]; rfl)
  generalize As.register (sl s) st=X at *;clear hk;go_enter Tryz.func186,Tryz.ntmps186;go_wp2_with fail;refine cR.o.mono ?_;rintro e w1 ⟨rfl,rfl⟩
  cases hr:As.jf st.tok.text with
  | none =>
   rw [hr] at RS;clear hr cR;simp only [Ag,Option.getD_none,Option.isSome_none];go_wp2_with fail;refine (yK B s b g st 7 st.tok.pos w1 H.o (by omega) hpos).mono ?_;rintro e V2 ⟨rfl,h2⟩;have HF:=hid h2;clear h2;go_wp2;go_ret;rw [RS.o];exact ⟨rfl,HF.o⟩
  | some r =>
   rw [hr] at RS;clear hr cR;simp only [Ag,Option.getD_some,Option.isSome_some];go_wp2_with fail;refine (Dq B s b g st w1 H.o).mono ?_;rintro e V2 ⟨rfl,h2⟩;have HF:=hid h2;clear h2;go_wp2;go_ret;rw [RS.o];exact ⟨rfl,HF.o⟩
end Go.Proofs.YtpgklkhgfcjceaaGreatDoor
