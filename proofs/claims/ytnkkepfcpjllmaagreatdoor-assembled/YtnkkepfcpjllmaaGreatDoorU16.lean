
import Derived.Test.YtnkkepfcpjllmaaGreatDoorU15
set_option maxHeartbeats 16000000
set_option maxRecDepth 100000
namespace Go.Proofs.YtnkkepfcpjllmaaGreatDoor
open Go.RowKit
namespace Rf
def Ib:List (List UInt8):=[[120,48],[120,49],[120,50],[120,51],[120,52],[120,53],[120,54],[120,55],[120,56],[120,57],[120,49,48],[120,49,49],[120,49,50],[120,49,51],[120,49,52],[120,49,53],[120,49,54],[120,49,55],[120,49,56],[120,49,57],[120,50,48],[120,50,49],[120,50,50],[120,50,51],[120,50,52],[120,50,53],[120,50,54],[120,50,55],[120,50,56],[120,50,57],[120,51,48],[120,51,49]]
def CS:List UInt8:=[120,48,32,120,49,32,120,50,32,120,51,32,120,52,32,120,53,32,120,54,32,120,55,32,120,56,32,120,57,32,120,49,48,120,49,49,120,49,50,120,49,51,120,49,52,120,49,53,120,49,54,120,49,55,120,49,56,120,49,57,120,50,48,120,50,49,120,50,50,120,50,51,120,50,52,120,50,53,120,50,54,120,50,55,120,50,56,120,50,57,120,51,48,120,51,49]
def wh (w:List UInt8):Int:=match As.dY w with | some r=>r | none=>-1
theorem Kq:∀ k,k < 32->As.dY (Ib.getD k [])=some k:=by decide
theorem Ik:∀ k,k < 32->(CS.drop (3 * k)).take 3=(Ib.getD k [] ++ [32]).take 3/\((CS.drop (3 * k)).take 3).length=3/\((((CS.drop (3 * k)).take 3).getD 2 0).toNat == 32)=decide (k < 10)/\((CS.drop (3 * k)).take 3).take (if k < 10 then 2 else 3)=Ib.getD k []:=by decide
theorem zL (a:UInt8) (h:As.aK a=true):a=UInt8.ofNat (48+(a.toNat - 48))/\a.toNat - 48 < 10:=by
 unfold As.aK at h;simp only [Bool.and_eq_true,decide_eq_true_eq] at h;refine ⟨?_,by omega⟩;apply UInt8.toNat_inj.1;rw [UInt8.toNat_ofNat'];omega
theorem Ki:∀ a,a < 10->Ib.getD a []=[120,UInt8.ofNat (48+a)]:=by decide
theorem EK:∀ a,a < 4->∀ b,b < 10->a≠0->10 * a+b<=31->Ib.getD (10 * a+b) []=[120,UInt8.ofNat (48+a),UInt8.ofNat (48+b)]:=by decide
theorem xR (w:List UInt8) (k:Nat) (h:As.dY w=some k):k < 32/\w=Ib.getD k []:=by
 unfold As.dY at h;split at h
 ·rename_i x a;split at h
  ·rename_i c;obtain ⟨e1,e2⟩:=zL a c.2;have ex:x=120:=UInt8.toNat_inj.1 c.1;have hk:a.toNat - 48=k:=Option.some.inj h;rw [hk] at e1 e2;refine ⟨by omega,?_⟩;rw [Ki k e2,ex,e1]
  ·cases h
 ·rename_i x a b;split at h
  ·rename_i c;obtain ⟨c1,c2,c3,c4,c5⟩:=c;obtain ⟨e1,e2⟩:=zL a c2;obtain ⟨f1,f2⟩:=zL b c4;have ex:x=120:=UInt8.toNat_inj.1 c1;have hk:10 * (a.toNat - 48)+(b.toNat - 48)=k:=Option.some.inj h;have nz:a.toNat - 48≠0:=by
    unfold As.aK at c2;simp only [Bool.and_eq_true,decide_eq_true_eq] at c2;omega
   refine ⟨by omega,?_⟩;rw [<- hk,EK _ (by omega) _ f2 nz c5,ex,<- e1,<- f1]
  ·cases h
 ·cases h
end Rf
theorem Ws (w:List UInt8) (W:World) (hw:w.length<=1000) :
  Calls Tryz.prog 72 #[.string (bs w)] W fun e W'=>e = .returned (.int .i64 (Rf.wh w))/\W'=W:=by
 go_enter Tryz.func72,Tryz.ntmps72;go_wp2
 go_loop [4,5] (fun i _=>∃ k:Nat,k<=32/\i = .int .i64 k/\∀ j,j < k->Rf.Ib.getD j []≠w) (fun i _=>32 - (intOf i).toNat)
 case atStart=>exact ⟨0,Nat.zero_le _,rfl,fun j hj=>by omega⟩
 case round =>
  obtain ⟨k,hk,rfl,hall⟩:=hrel;have HA:=hid hall;clear hall;by_cases hlt:k < 32
  ·obtain ⟨-,q2,q3,q4⟩:=Rf.Ik k hlt;have RN:=Rf.Kq k hlt;have g1:(k:Int) < 32:=by omega
   have e0:(⟨#[120,48,32,120,49,32,120,50,32,120,51,32,120,52,32,120,53,32,120,54,32,120,55,32,120,56,32,120,57,32,120,49,48,120,49,49,120,49,50,120,49,51,120,49,52,120,49,53,120,49,54,120,49,55,120,49,56,120,49,57,120,50,48,120,50,49,120,50,50,120,50,51,120,50,52,120,50,53,120,50,54,120,50,55,120,50,56,120,50,57,120,51,48,120,51,49]⟩:ByteArray).extract (3 * k) (3 * k+3)=bs ((Rf.CS.drop (3 * k)).take 3):=by rw [KD,Nat.add_sub_cancel_left]; rfl
   generalize (Rf.CS.drop (3 * k)).take 3=X at *;generalize hN:Rf.Ib.getD k []=N at *;have sz:(bs X).size=3:=by rw [zw]; exact q2
   have ix:((bs X)[2]'(by omega)).toNat=(X.getD 2 0).toNat:=by
    rw [mP,kg (show 2 < X.length by omega)];rfl
   have VA:(bs X).extract 0 2=bs (X.take 2):=by rw [KD,OT]; rfl
   have RI:Hd (Rf.wh N=k):=by show Rf.wh N=k; unfold Rf.wh; rw [RN]
   have NK:Hd (Rf.Ib.getD k []=N):=hN;clear RN hN;by_cases c10:k < 10
   ·rw [decide_eq_true c10] at q3;rw [if_pos c10] at q4;have ey:((((bs X)[2]'(by omega)).toNat:Int) == 32)=true:=by rw [ix]; simp at q3 ⊢; omega
    rw [q4] at VA;clear q3 q4 ix c10 q2;by_cases he:N=w
    ·subst he;have bq:((bs N).toList == (bs N).toList)=true:=by simp
     go_wp2;go_ret;exact ⟨Ay RI.o.symm,rfl⟩
    ·have bq:((bs N).toList == (bs w).toList)=false:=by rw [yA,yA]; simpa using he
     have HE:=hid he;clear he;go_wp2
     go_round
     case rel=>exact ⟨k+1,by omega,by go_num,fun j hj=>by
      by_cases z:j < k
      ·exact HA.o j z
      ·obtain rfl:j=k:=by omega
       rw [NK.o];exact HE.o⟩
     case measure=>simp [intOf]; omega
   ·rw [decide_eq_false c10] at q3;rw [if_neg c10,List.take_of_length_le (by omega)] at q4;have ey:((((bs X)[2]'(by omega)).toNat:Int) == 32)=false:=by rw [ix]; simp at q3 ⊢; omega
    subst q4;clear q3 ix VA c10 q2;by_cases he:X=w
    ·subst he;have bq:((bs X).toList == (bs X).toList)=true:=by simp
     go_wp2;go_ret;exact ⟨Ay RI.o.symm,rfl⟩
    ·have bq:((bs X).toList == (bs w).toList)=false:=by rw [yA,yA]; simpa using he
     have HE:=hid he;clear he;go_wp2
     go_round
     case rel=>exact ⟨k+1,by omega,by go_num,fun j hj=>by
      by_cases z:j < k
      ·exact HA.o j z
      ·obtain rfl:j=k:=by omega
       rw [NK.o];exact HE.o⟩
     case measure=>simp [intOf]; omega
  ·obtain rfl:k=32:=by omega
   have g3:decide ((32:Int) < 32)=false:=by decide
   have RI:=hid (show Rf.wh w = -1 by
    unfold Rf.wh
    cases e:As.dY w with
    | none=>rfl
    | some r =>
     obtain ⟨r1,r2⟩:=Rf.xR w r e;exact absurd r2.symm (HA.o r r1))
   go_wp2;go_ret;exact ⟨Ay RI.o.symm,rfl⟩
section
variable {m g:Nat} {vq:Value} {ao:Option Addr} {cap:Nat} {L:List Rf.Tk} {d d0:Rf.Ds} {W V:World}
theorem qP.fresh (h:qP m g vq ao cap L W d V) (H:Md m g vq ao cap L d0 W) (r:Nat) (hr:W.heap.size<=r) (l:List (Nat×Value)):qP m g vq ao cap L W d (Proofs.YtnkkepfcpjllmaaGreatDoor.sets V r l):=by
 have hm:=H.blk.lt;have nm:m≠r:=by omega
 have g:=Bw V r l;refine ⟨⟨h.1.blk.grown g (by simpa using nm),fun hp=>?_,h.1.ne,h.1.ok⟩,?_⟩
 ·obtain ⟨b,e,hc⟩:=h.1.toks hp;obtain ⟨b',e',hc'⟩:=H.toks hp;have hb:b < W.heap.size:=by
   have eq:b'=b:=by rw [e] at e'; simpa using e'.symm
   rw [<- eq];exact Jl (hc' 0 hp).1
  have kp:∀ (o:Nat) (v:Value),V.cell? ⟨b,o,none⟩=some v->(Proofs.YtnkkepfcpjllmaaGreatDoor.sets V r l).cell? ⟨b,o,none⟩=some v:=fun o v hv=>g.cell hv (by simp; omega)
  exact ⟨b,e,fun i hi=>by
   obtain ⟨c0,c1,c2,c3,c4⟩:=hc i hi;exact ⟨kp _ _ c0,kp _ _ c1,kp _ _ c2,kp _ _ c3,kp _ _ c4⟩⟩
 ·exact ⟨g.os.trans h.2.os,g.tape.trans h.2.tape,g.output.trans h.2.output,Nat.le_trans h.2.size g.size,fun i hi hne=>(g.block i (Nat.lt_of_lt_of_le hi h.2.size) (by simp; omega)).trans (h.2.block i hi hne)⟩
end
theorem OD (m g:Nat) (vq:Value) (ao:Option Addr) (cap:Nat) (L:List Rf.Tk) (d:Rf.Ds) (c:Nat) (W:World) (h:Md m g vq ao cap L d W) :
  Calls Tryz.prog 80 #[.pointer (some ⟨m,0,none⟩),.int .u8 c] W fun en W'=>en = .returned (jg (Rf.tk L d))/\qP m g vq ao cap L W (Rf.expect L c d) W':=by
 obtain ⟨x,hx⟩:∃ x,Rf.tk L d=x:=⟨_,rfl⟩
 rw [hx];have cT:=hid (fun (V:World) (hV:Md m g vq ao cap L d V)=>(show Calls Tryz.prog 25 #[.pointer (some ⟨m,0,none⟩)] V (fun en W'=>en = .returned (jg x)/\V.grownBy W' none) from by rw [<- hx]; exact zo m g vq ao cap L d V hV));have cB:=hid (fun (V:World) (e a:Nat) (hV:Md m g vq ao cap L d V) (he:e<=99) (ha:a<=1000)=>yL m g vq ao cap L d e a V hV he ha);have cS:=hid (fun (V:World) (hV:Md m g vq ao cap L d V)=>F5 m g vq ao cap L d V hV);have H:=hid h;have hm:=h.blk.lt;have TO:=wS h.ok;have AT:=TO.at_;rw [hx] at AT;have M0:=hid (h.does.grown (aW W (.cells #[.int .u8 0,.int .i64 0,.string ⟨#[]⟩,.int .i64 0,.int .i64 0] 69) none))
 have R0:=hid (yd.new W #[.int .u8 0,.int .i64 0,.string ⟨#[]⟩,.int .i64 0,.int .i64 0] 69);have s0:(W.alloc (.cells #[.int .u8 0,.int .i64 0,.string ⟨#[]⟩,.int .i64 0,.int .i64 0] 69)).heap.size=W.heap.size+1:=wL _ _;have R:=hid (show Rf.expect L c d=if (Rf.tk L d).kind=c then Rf.step L d else Rf.bad 3 (Rf.tk L d).at_ d from rfl);rw [hx] at R;generalize Rf.expect L c d=D at *;clear h TO hx;unfold jg at *;go_enter Tryz.func80,Tryz.ntmps80;go_wp2_with fail;generalize W.alloc (.cells #[.int .u8 0,.int .i64 0,.string ⟨#[]⟩,.int .i64 0,.int .i64 0] 69)=V0 at *;obtain ⟨rr,hrr⟩:∃ rr,W.heap.size=rr:=⟨_,rfl⟩
 rw [hrr] at R0 s0;refine (cT.o V0 M0.o.1).mono ?_;rintro e V1 ⟨rfl,h1⟩;have A1:=aW V1 (.cells #[.int .u8 x.kind,.int .i64 x.at_,.string (bs x.text),.int .i64 x.num,.int .i64 x.e] 69) none;have M2:=hid (M0.o.grown (ya h1 A1));have BR:=hid (R0.o.grown (ya h1 A1) (by simp));have BL:=hid (yd.new V1 #[.int .u8 x.kind,.int .i64 x.at_,.string (bs x.text),.int .i64 x.num,.int .i64 x.e] 69);have hl1:rr+1<=V1.heap.size:=by have:=h1.size; omega
 clear h1 A1 cT M0 R0;by_cases c1:x.kind=c
 ·rw [if_pos c1] at R;have e1:((x.kind:Int) == c)=true:=by simp [c1]
  have e2:((x.kind:Int) != c)=false:=by simp [c1]
  clear c1;go_wp2_with fail;generalize V1.alloc (.cells #[.int .u8 x.kind,.int .i64 x.at_,.string (bs x.text),.int .i64 x.num,.int .i64 x.e] 69)=V2 at *;generalize V1.heap.size=rl at *;refine (cS.o V2 M2.o.1).mono ?_;rintro e V3 ⟨rfl,h3⟩;have M3:=hid (M2.o.after h3);have G3:=hid h3.2;clear h3 cS M2;have bl:=BL.o.grown G3.o (by simp; omega);have br:=BR.o.grown G3.o (by simp; omega);have l0:=bl.cell 0;have l1:=bl.cell 1;have l2:=bl.cell 2;have l3:=bl.cell 3;have l4:=bl.cell 4;have r0:=br.cell 0;have r1:=br.cell 1;have r2:=br.cell 2;have r3:=br.cell 3;have r4:=br.cell 4;simp only [bB,yml,bf] at l0 l1 l2 l3 l4 r0 r1 r2 r3 r4
  have z0:=br.free 0;have z1:=br.free 1;have z2:=br.free 2;have z3:=br.free 3;have z4:=br.free 4;have MZ:=hid (M3.o.fresh H.o rr (Nat.le_of_eq hrr) [(0,.int .u8 x.kind),(1,.int .i64 x.at_),(2,.string (bs x.text)),(3,.int .i64 x.num),(4,.int .i64 x.e)]);have BZ:=hid (vG [(0,.int .u8 x.kind),(1,.int .i64 x.at_),(2,.string (bs x.text)),(3,.int .i64 x.num),(4,.int .i64 x.e)] br);clear bl br BL BR;go_wp2;have h0:=BZ.o.cell 0;have h1:=BZ.o.cell 1;have h2:=BZ.o.cell 2;have h3:=BZ.o.cell 3;have h4:=BZ.o.cell 4;simp only [sets,nE,jA,jE,iW,iR,iT,bB,yml,bf] at h0 h1 h2 h3 h4;refine bodyPost_ret (v:=.agg #[.int .u8 x.kind,.int .i64 x.at_,.string (bs x.text),.int .i64 x.num,.int .i64 x.e]) ?_ rfl ⟨rfl,by rw [R.o]; exact MZ.o⟩
  clear MZ BZ l0 l1 l2 l3 l4 r0 r1 r2 r3 r4 z0 z1 z2 z3 z4;generalize World.setCell _ _ _=WF at *;simp [results,Tryz.results80,go_sem,h0,h1,h2,h3,h4]
 ·rw [if_neg c1] at R;have e1:((x.kind:Int) == c)=false:=by simp; omega
  have e2:((x.kind:Int) != c)=true:=by simp; omega
  clear c1;go_wp2_with fail;generalize V1.alloc (.cells #[.int .u8 x.kind,.int .i64 x.at_,.string (bs x.text),.int .i64 x.num,.int .i64 x.e] 69)=V2 at *;generalize V1.heap.size=rl at *;refine (cB.o V2 3 x.at_ M2.o.1 (by decide) AT).mono ?_;rintro e V3 ⟨rfl,h3⟩;have M3:=hid (M2.o.after h3);have G3:=hid h3.2;clear h3 cB M2;have bl:=BL.o.grown G3.o (by simp; omega);have br:=BR.o.grown G3.o (by simp; omega);have l0:=bl.cell 0;have l1:=bl.cell 1;have l2:=bl.cell 2;have l3:=bl.cell 3;have l4:=bl.cell 4;have r0:=br.cell 0;have r1:=br.cell 1;have r2:=br.cell 2;have r3:=br.cell 3;have r4:=br.cell 4;simp only [bB,yml,bf] at l0 l1 l2 l3 l4 r0 r1 r2 r3 r4
  have z0:=br.free 0;have z1:=br.free 1;have z2:=br.free 2;have z3:=br.free 3;have z4:=br.free 4;have MZ:=hid (M3.o.fresh H.o rr (Nat.le_of_eq hrr) [(0,.int .u8 x.kind),(1,.int .i64 x.at_),(2,.string (bs x.text)),(3,.int .i64 x.num),(4,.int .i64 x.e)]);have BZ:=hid (vG [(0,.int .u8 x.kind),(1,.int .i64 x.at_),(2,.string (bs x.text)),(3,.int .i64 x.num),(4,.int .i64 x.e)] br);clear bl br BL BR;go_wp2;have h0:=BZ.o.cell 0;have h1:=BZ.o.cell 1;have h2:=BZ.o.cell 2;have h3:=BZ.o.cell 3;have h4:=BZ.o.cell 4;simp only [sets,nE,jA,jE,iW,iR,iT,bB,yml,bf] at h0 h1 h2 h3 h4;refine bodyPost_ret (v:=.agg #[.int .u8 x.kind,.int .i64 x.at_,.string (bs x.text),.int .i64 x.num,.int .i64 x.e]) ?_ rfl ⟨rfl,by rw [R.o]; exact MZ.o⟩
  clear MZ BZ l0 l1 l2 l3 l4 r0 r1 r2 r3 r4 z0 z1 z2 z3 z4;generalize World.setCell _ _ _=WF at *;simp [results,Tryz.results80,go_sem,h0,h1,h2,h3,h4]
theorem Qb (m g:Nat) (vq:Value) (ao:Option Addr) (cap:Nat) (L:List Rf.Tk) (d:Rf.Ds) (W:World) (h:Md m g vq ao cap L d W) :
  Calls Tryz.prog 79 #[.pointer (some ⟨m,0,none⟩)] W fun en W'=>en = .returned (.int .i64 (Rf.reg L d).1)/\qP m g vq ao cap L W (Rf.reg L d).2 W':=by
 obtain ⟨x,hx⟩:∃ x,Rf.tk L d=x:=⟨_,rfl⟩
 have cT:=hid (fun (V:World) (hV:Md m g vq ao cap L d V)=>(show Calls Tryz.prog 25 #[.pointer (some ⟨m,0,none⟩)] V (fun en W'=>en = .returned (jg x)/\V.grownBy W' none) from by rw [<- hx]; exact zo m g vq ao cap L d V hV));have cB:=hid (fun (V:World) (e a:Nat) (hV:Md m g vq ao cap L d V) (he:e<=99) (ha:a<=1000)=>yL m g vq ao cap L d e a V hV he ha);have cS:=hid (fun (V:World) (hV:Md m g vq ao cap L d V)=>F5 m g vq ao cap L d V hV);have H:=hid h;have TO:=wS h.ok;rw [hx] at TO;have AT:=TO.at_;have XL:=TO.text;have M0:=hid h.does;have cG:=hid (fun (V:World)=>Ws x.text V XL);have R:=hid (show Rf.reg L d=if x.kind=119 then (match As.dY x.text with | none=>(0,Rf.bad 7 x.at_ d) | some r=>(r,Rf.step L d)) else (0,Rf.bad 3 x.at_ d) by unfold Rf.reg; rw [hx]; rfl)
 generalize Rf.reg L d=D at *;clear h TO hx;unfold jg at *;go_enter Tryz.func79,Tryz.ntmps79;go_wp2_with fail;refine (cT.o W M0.o.1).mono ?_;rintro e V1 ⟨rfl,h1⟩;have A1:=aW V1 (.cells #[.int .u8 x.kind,.int .i64 x.at_,.string (bs x.text),.int .i64 x.num,.int .i64 x.e] 69) none;have M2:=hid (M0.o.grown (ya h1 A1));clear h1 A1 cT M0;by_cases c1:x.kind=119
 ·rw [if_pos c1] at R;have e1:((x.kind:Int) == 119)=true:=by simp [c1]
  clear c1;go_wp2_with fail;refine (cG.o _).mono ?_;rintro e w' ⟨rfl,hw⟩;rw [hw];clear hw w' cG;unfold Rf.wh
  cases hr:As.dY x.text with
  | none =>
   rw [hr] at R;clear hr;go_wp2_with fail;generalize V1.alloc (.cells #[.int .u8 x.kind,.int .i64 x.at_,.string (bs x.text),.int .i64 x.num,.int .i64 x.e] 69)=V2 at *;refine (cB.o V2 7 x.at_ M2.o.1 (by decide) AT).mono ?_;rintro e V3 ⟨rfl,h3⟩;have M3:=hid (M2.o.after h3);clear h3;go_wp2;go_ret;rw [R.o];exact ⟨rfl,M3.o⟩
  | some r =>
   rw [hr] at R;have g0:decide ((r:Int) < 0)=false:=by simp
   clear hr;go_wp2_with fail;generalize V1.alloc (.cells #[.int .u8 x.kind,.int .i64 x.at_,.string (bs x.text),.int .i64 x.num,.int .i64 x.e] 69)=V2 at *;refine (cS.o V2 M2.o.1).mono ?_;rintro e V3 ⟨rfl,h3⟩;have M3:=hid (M2.o.after h3);clear h3;go_wp2;go_ret;rw [R.o];exact ⟨rfl,M3.o⟩
 ·rw [if_neg c1] at R;have e1:((x.kind:Int) == 119)=false:=by simp; omega
  clear c1;go_wp2_with fail;generalize V1.alloc (.cells #[.int .u8 x.kind,.int .i64 x.at_,.string (bs x.text),.int .i64 x.num,.int .i64 x.e] 69)=V2 at *;refine (cB.o V2 3 x.at_ M2.o.1 (by decide) AT).mono ?_;rintro e V3 ⟨rfl,h3⟩;have M3:=hid (M2.o.after h3);clear h3;go_wp2;go_ret;rw [R.o];exact ⟨rfl,M3.o⟩
theorem KL (m g:Nat) (vq:Value) (ao:Option Addr) (cap:Nat) (L:List Rf.Tk) (d:Rf.Ds) (lo hi:Int) (W:World) (h:Md m g vq ao cap L d W) :
  Calls Tryz.prog 76 #[.pointer (some ⟨m,0,none⟩),.int .i64 lo,.int .i64 hi] W fun en W'=>en = .returned (.int .i64 (Rf.num L lo hi d).1)/\qP m g vq ao cap L W (Rf.num L lo hi d).2 W':=by
 obtain ⟨x,hx⟩:∃ x,Rf.tk L d=x:=⟨_,rfl⟩
 have cT:=hid (fun (V:World) (hV:Md m g vq ao cap L d V)=>(show Calls Tryz.prog 25 #[.pointer (some ⟨m,0,none⟩)] V (fun en W'=>en = .returned (jg x)/\V.grownBy W' none) from by rw [<- hx]; exact zo m g vq ao cap L d V hV));have cB:=hid (fun (V:World) (e a:Nat) (hV:Md m g vq ao cap L d V) (he:e<=99) (ha:a<=1000)=>yL m g vq ao cap L d e a V hV he ha);have cS:=hid (fun (V:World) (hV:Md m g vq ao cap L d V)=>F5 m g vq ao cap L d V hV);have H:=hid h;have TO:=wS h.ok;rw [hx] at TO;have AT:=TO.at_;have XL:=TO.text;have M0:=hid h.does;have hm:=h.blk.lt;have R:=hid (show Rf.num L lo hi d=if x.kind=45 then Rf.bP L true x.at_ lo hi (Rf.step L d) else Rf.bP L false x.at_ lo hi d by unfold Rf.num; rw [hx])
 generalize Rf.num L lo hi d=D at *;clear h TO hx XL;unfold jg at *;go_enter Tryz.func76,Tryz.ntmps76;go_wp2_with fail;refine (cT.o W M0.o.1).mono ?_;rintro e V1 ⟨rfl,h1⟩;have A1:=aW V1 (.cells #[.int .u8 x.kind,.int .i64 x.at_,.string (bs x.text),.int .i64 x.num,.int .i64 x.e] 69) none;have M2:=hid (M0.o.grown (ya h1 A1));have BL:=hid (yd.new V1 #[.int .u8 x.kind,.int .i64 x.at_,.string (bs x.text),.int .i64 x.num,.int .i64 x.e] 69);have nm:V1.heap.size≠m:=by have:=h1.size; omega
 clear h1 A1 cT M0;by_cases c1:x.kind=45
 ·rw [if_pos c1] at R;have e1:((x.kind:Int) == 45)=true:=by simp [c1]
  clear c1;go_wp2_with fail;generalize V1.alloc (.cells #[.int .u8 x.kind,.int .i64 x.at_,.string (bs x.text),.int .i64 x.num,.int .i64 x.e] 69)=V2 at *;generalize V1.heap.size=rl at *;refine (cS.o V2 M2.o.1).mono ?_;rintro e V3 ⟨rfl,h3⟩;have MV:=hid (M2.o.after h3);have wT:=hid (BL.o.grown h3.2 (by simpa using nm));clear h3 M2 BL;go_wp2_with fail;obtain ⟨y,hy⟩:∃ y,Rf.tk L (Rf.step L d)=y:=⟨_,rfl⟩
  have TY:=wS MV.o.1.ok;rw [hy] at TY;have AY:=TY.at_;have NY:=TY.num;have cU:=hid (fun (V:World) (hV:Md m g vq ao cap L (Rf.step L d) V)=>(show Calls Tryz.prog 25 #[.pointer (some ⟨m,0,none⟩)] V (fun en W'=>en = .returned (jg y)/\V.grownBy W' none) from by rw [<- hy]; exact zo m g vq ao cap L (Rf.step L d) V hV));have cB2:=hid (fun (V:World) (e a:Nat) (hV:Md m g vq ao cap L (Rf.step L d) V) (he:e<=99) (ha:a<=1000)=>yL m g vq ao cap L (Rf.step L d) e a V hV he ha);have cS2:=hid (fun (V:World) (d':Rf.Ds) (hV:Md m g vq ao cap L d' V)=>F5 m g vq ao cap L d' V hV);unfold Rf.bP at R;rw [hy] at R;clear hy TY cS cB
  generalize hd1:Rf.step L d=d1 at *;clear hd1;unfold jg at *;refine (cU.o V3 MV.o.1).mono ?_;rintro e V4 ⟨rfl,h4⟩;have A4:=aW V4 (.cells #[.int .u8 y.kind,.int .i64 y.at_,.string (bs y.text),.int .i64 y.num,.int .i64 y.e] 69) none;have M4:=hid (MV.o.grown (ya h4 A4));have BX:=hid (wT.o.grown (ya h4 A4) (by simp));have b1:=BX.o.cell 1;simp only [bB,yml,bf] at b1;clear h4 A4 cU MV wT;by_cases c2:y.kind=110
  ·rw [if_pos c2] at R;have e2:((y.kind:Int) == 110)=true:=by simp [c2]
   have e3:((y.kind:Int) != 110)=false:=by simp [c2]
   clear c2;have wv:IntKind.i64.wrap (-(y.num:Int)) = -(y.num:Int):=IntWalk.i64_in _ ⟨by omega,by omega⟩;have mv:-1 * (y.num:Int) = -(y.num:Int):=by omega
   simp only [if_true] at R;generalize hv:-(y.num:Int)=v at *;by_cases c3:v < lo\/hi < v
   ·rw [decide_eq_true c3] at R;obtain ⟨q1,q2⟩ | ⟨q1,q2⟩:(decide (v < lo)=true/\True)\/(decide (v < lo)=false/\decide (v > hi)=true):=by
     by_cases z:v < lo
     ·exact .inl ⟨by simpa using z,trivial⟩
     ·exact .inr ⟨by simpa using z,by simp; omega⟩
    all_goals
    clear c3;go_wp2_with fail;generalize V4.alloc (.cells #[.int .u8 y.kind,.int .i64 y.at_,.string (bs y.text),.int .i64 y.num,.int .i64 y.e] 69)=V5 at *;refine (cB2.o V5 8 x.at_ M4.o.1 (by decide) AT).mono ?_;rintro e V6 ⟨rfl,h6⟩;have M6:=hid (M4.o.after h6);clear h6 M4;go_wp2_with fail;refine (cS2.o V6 _ M6.o.1).mono ?_;rintro e V7 ⟨rfl,h7⟩;have M7:=hid (M6.o.after h7);clear h7 M6;go_wp2;go_ret;rw [R.o];exact ⟨rfl,M7.o⟩
   ·rw [decide_eq_false c3] at R;have q1:decide (v < lo)=false:=by simp; omega
    have q2:decide (v > hi)=false:=by simp; omega
    clear c3;go_wp2_with fail;generalize V4.alloc (.cells #[.int .u8 y.kind,.int .i64 y.at_,.string (bs y.text),.int .i64 y.num,.int .i64 y.e] 69)=V5 at *;refine (cS2.o V5 _ M4.o.1).mono ?_;rintro e V7 ⟨rfl,h7⟩;have M7:=hid (M4.o.after h7);clear h7 M4;go_wp2;go_ret;rw [R.o];exact ⟨rfl,M7.o⟩
  ·rw [if_neg c2] at R;have e2:((y.kind:Int) == 110)=false:=by simp; omega
   have e3:((y.kind:Int) != 110)=true:=by simp; omega
   clear c2;go_wp2_with fail;generalize V4.alloc (.cells #[.int .u8 y.kind,.int .i64 y.at_,.string (bs y.text),.int .i64 y.num,.int .i64 y.e] 69)=V5 at *;refine (cB2.o V5 3 y.at_ M4.o.1 (by decide) AY).mono ?_;rintro e V6 ⟨rfl,h6⟩;have M6:=hid (M4.o.after h6);clear h6 M4;go_wp2;go_ret;rw [R.o];exact ⟨rfl,M6.o⟩
 ·rw [if_neg c1] at R;have e1:((x.kind:Int) == 45)=false:=by simp; omega
  clear c1;go_wp2_with fail;generalize V1.alloc (.cells #[.int .u8 x.kind,.int .i64 x.at_,.string (bs x.text),.int .i64 x.num,.int .i64 x.e] 69)=V3 at *;generalize V1.heap.size=rl at *;have MV:=hid M2.o;have wT:=hid BL.o;clear M2 BL;obtain ⟨y,hy⟩:∃ y,Rf.tk L (d)=y:=⟨_,rfl⟩
  have TY:=wS MV.o.1.ok;rw [hy] at TY;have AY:=TY.at_;have NY:=TY.num;have cU:=hid (fun (V:World) (hV:Md m g vq ao cap L (d) V)=>(show Calls Tryz.prog 25 #[.pointer (some ⟨m,0,none⟩)] V (fun en W'=>en = .returned (jg y)/\V.grownBy W' none) from by rw [<- hy]; exact zo m g vq ao cap L (d) V hV));have cB2:=hid (fun (V:World) (e a:Nat) (hV:Md m g vq ao cap L (d) V) (he:e<=99) (ha:a<=1000)=>yL m g vq ao cap L (d) e a V hV he ha);have cS2:=hid (fun (V:World) (d':Rf.Ds) (hV:Md m g vq ao cap L d' V)=>F5 m g vq ao cap L d' V hV);unfold Rf.bP at R;rw [hy] at R;clear hy TY cS cB;generalize hd1:d=d1 at *
  clear hd1;unfold jg at *;refine (cU.o V3 MV.o.1).mono ?_;rintro e V4 ⟨rfl,h4⟩;have A4:=aW V4 (.cells #[.int .u8 y.kind,.int .i64 y.at_,.string (bs y.text),.int .i64 y.num,.int .i64 y.e] 69) none;have M4:=hid (MV.o.grown (ya h4 A4));have BX:=hid (wT.o.grown (ya h4 A4) (by simp));have b1:=BX.o.cell 1;simp only [bB,yml,bf] at b1;clear h4 A4 cU MV wT;by_cases c2:y.kind=110
  ·rw [if_pos c2] at R;have e2:((y.kind:Int) == 110)=true:=by simp [c2]
   have e3:((y.kind:Int) != 110)=false:=by simp [c2]
   clear c2;have wv:IntKind.i64.wrap ((y.num:Int))=(y.num:Int):=IntWalk.i64_in _ ⟨by omega,by omega⟩;have mv:1 * (y.num:Int)=(y.num:Int):=by omega
   simp only [Bool.false_eq_true,if_false] at R;clear wv;by_cases c3:(y.num:Int) < lo\/hi < (y.num:Int)
   ·rw [decide_eq_true c3] at R;obtain ⟨q1,q2⟩ | ⟨q1,q2⟩:(decide ((y.num:Int) < lo)=true/\True)\/(decide ((y.num:Int) < lo)=false/\decide ((y.num:Int) > hi)=true):=by
     by_cases z:(y.num:Int) < lo
     ·exact .inl ⟨by simpa using z,trivial⟩
     ·exact .inr ⟨by simpa using z,by simp; omega⟩
    all_goals
    clear c3;go_wp2_with fail;generalize V4.alloc (.cells #[.int .u8 y.kind,.int .i64 y.at_,.string (bs y.text),.int .i64 y.num,.int .i64 y.e] 69)=V5 at *;refine (cB2.o V5 8 x.at_ M4.o.1 (by decide) AT).mono ?_;rintro e V6 ⟨rfl,h6⟩;have M6:=hid (M4.o.after h6);clear h6 M4;go_wp2_with fail;refine (cS2.o V6 _ M6.o.1).mono ?_;rintro e V7 ⟨rfl,h7⟩;have M7:=hid (M6.o.after h7);clear h7 M6;go_wp2;go_ret;rw [R.o];exact ⟨rfl,M7.o⟩
   ·rw [decide_eq_false c3] at R;have q1:decide ((y.num:Int) < lo)=false:=by simp; omega
    have q2:decide ((y.num:Int) > hi)=false:=by simp; omega
    clear c3;go_wp2_with fail;generalize V4.alloc (.cells #[.int .u8 y.kind,.int .i64 y.at_,.string (bs y.text),.int .i64 y.num,.int .i64 y.e] 69)=V5 at *;refine (cS2.o V5 _ M4.o.1).mono ?_;rintro e V7 ⟨rfl,h7⟩;have M7:=hid (M4.o.after h7);clear h7 M4;go_wp2;go_ret;rw [R.o];exact ⟨rfl,M7.o⟩
  ·rw [if_neg c2] at R;have e2:((y.kind:Int) == 110)=false:=by simp; omega
   have e3:((y.kind:Int) != 110)=true:=by simp; omega
   clear c2;go_wp2_with fail;generalize V4.alloc (.cells #[.int .u8 y.kind,.int .i64 y.at_,.string (bs y.text),.int .i64 y.num,.int .i64 y.e] 69)=V5 at *;refine (cB2.o V5 3 y.at_ M4.o.1 (by decide) AY).mono ?_;rintro e V6 ⟨rfl,h6⟩;have M6:=hid (M4.o.after h6);clear h6 M4;go_wp2;go_ret;rw [R.o];exact ⟨rfl,M6.o⟩
theorem WE (m g:Nat) (vq:Value) (ao:Option Addr) (cap:Nat) (L:List Rf.Tk) (d:Rf.Ds) (x:Rf.Tk) (W:World) (h:Md m g vq ao cap L d W) (hx:zD x) :
  Calls Tryz.prog 49 #[.pointer (some ⟨m,0,none⟩),jg x] W fun en W'=>en = .returned (.tuple #[])/\qP m g vq ao cap L W (Rf.proper x d) W':=by
 have AT:=hx.at_;have XL:=hx.text;have H:=hid h;have hm:=h.blk.lt;have cB:=hid (fun (V:World) (d':Rf.Ds) (e a:Nat) (hV:Md m g vq ao cap L d' V) (he:e<=99) (ha:a<=1000)=>yL m g vq ao cap L d' e a V hV he ha);have cG:=hid (fun (V:World)=>Ws x.text V XL);have M0:=hid (h.does.grown (aW W (.cells #[.int .u8 x.kind,.int .i64 x.at_,.string (bs x.text),.int .i64 x.num,.int .i64 x.e] 69) none));have B0:=hid (yd.new W #[.int .u8 x.kind,.int .i64 x.at_,.string (bs x.text),.int .i64 x.num,.int .i64 x.e] 69);clear h hx;unfold jg;go_enter Tryz.func49,Tryz.ntmps49;go_wp2;obtain ⟨r0,hr0⟩:∃ r0,W.heap.size=r0:=⟨_,rfl⟩
 rw [hr0] at B0 ⊢;have nr:r0≠m:=by omega
 have bsz:(bs x.text).size=x.text.length:=zw _
 go_loopw [4] (fun i wr=>∃ k:Nat,k<=x.text.length/\i = .int .i64 k/\qP m g vq ao cap L W (Rf.aH (As.bX (x.text.take k)) 3 x.at_ d) wr/\yd wr r0 #[.int .u8 x.kind,.int .i64 x.at_,.string (bs x.text),.int .i64 x.num,.int .i64 x.e] 69) (fun i _=>x.text.length - (intOf i).toNat)
 case atStart=>exact ⟨0,Nat.zero_le _,rfl,M0.o,B0.o⟩
 case round =>
  obtain ⟨k,hk,rfl,hmd,hbl⟩:=hrel;have MM:=hid hmd;have BB:=hid hbl;have l1:=hbl.cell 1;have l2:=hbl.cell 2;simp only [bB,yml,bf] at l1 l2;clear hmd hbl M0 B0;by_cases hlt:k < x.text.length
  ·have g1:(k:Int) < (x.text.length:Int):=by omega
   have ix:((bs x.text)[k]'(by omega)).toNat=(x.text[k]).toNat:=rfl;have TK:=hid (show As.bX (x.text.take (k+1))=(As.bX (x.text.take k) || (x.text[k].toNat == 46)) by
    unfold As.bX;rw [List.take_add_one,kg hlt,List.any_append];simp)
   by_cases c1:x.text[k].toNat=46
   ·have e1:((((bs x.text)[k]'(by omega)).toNat:Int) == 46)=true:=by rw [ix]; simp [c1]
    have E:=hid (show Rf.bad 3 x.at_ (Rf.aH (As.bX (x.text.take k)) 3 x.at_ d)=Rf.aH (As.bX (x.text.take (k+1))) 3 x.at_ d by
     rw [TK.o,c1]
     cases As.bX (x.text.take k)
     ·rfl
     ·show Rf.bad 3 x.at_ (Rf.bad 3 x.at_ d)=Rf.bad 3 x.at_ d;unfold Rf.bad;by_cases z:d.fe=0 <;> simp [z])
    clear c1 ix;go_wp2_with fail;refine (cB.o _ _ 3 x.at_ MM.o.1 (by decide) AT).mono ?_;rintro e V6 ⟨rfl,h6⟩;have M6:=hid (MM.o.after h6);have B6:=hid (BB.o.grown h6.2 (by simpa using nr));rw [E.o] at M6;clear h6;go_wp2
    go_roundw
    case rel=>exact ⟨k+1,by omega,by go_num,M6.o,B6.o⟩
    case measure=>simp [intOf]; omega
   ·have e1:((((bs x.text)[k]'(by omega)).toNat:Int) == 46)=false:=by rw [ix]; simp; omega
    have E:=hid (show As.bX (x.text.take (k+1))=As.bX (x.text.take k) by rw [TK.o]; simp [c1]);clear c1 ix;go_wp2
    go_roundw
    case rel=>exact ⟨k+1,by omega,by go_num,by rw [E.o]; exact MM.o,BB.o⟩
    case measure=>simp [intOf]; omega
  ·obtain rfl:k=x.text.length:=by omega
   rw [List.take_length] at MM;have g3:decide ((x.text.length:Int) < (x.text.length:Int))=false:=by simp
   have R:=hid (show Rf.proper x d=Rf.aH (As.dY x.text).isSome 7 x.at_ (Rf.aH (decide (6 < x.text.length)) 4 x.at_ (Rf.aH (As.bX x.text) 3 x.at_ d)) from rfl);generalize Rf.aH (As.bX x.text) 3 x.at_ d=d1 at *;by_cases c2:6 < x.text.length
   ·have e2:decide ((x.text.length:Int) > 6)=true:=by simp; omega
    rw [decide_eq_true c2] at R;go_wp2_with fail;refine (cB.o _ _ 4 x.at_ MM.o.1 (by decide) AT).mono ?_;rintro e V6 ⟨rfl,h6⟩;have M6:=hid (MM.o.after h6);have B6:=BB.o.grown h6.2 (by simpa using nr);have k1:=B6.cell 1;have k2:=B6.cell 2;simp only [bB,yml,bf] at k1 k2;have RR:Hd (Rf.proper x d=Rf.aH (As.dY x.text).isSome 7 x.at_ (Rf.bad 4 x.at_ d1)):=R.o;clear h6 MM BB R l1 l2;generalize Rf.bad 4 x.at_ d1=d2 at *;go_wp2_with fail;refine (cG.o _).mono ?_;rintro e w' ⟨rfl,hw⟩;rw [hw];clear hw w' cG;unfold Rf.wh
    cases hr:As.dY x.text with
    | none =>
     rw [hr] at RR;clear hr;go_wp2
     go_end0
     rw [RR.o];exact ⟨rfl,M6.o⟩
    | some r =>
     rw [hr] at RR;have g0:decide ((r:Int)≥0)=true:=by simp
     clear hr;go_wp2_with fail;refine (cB.o _ _ 7 x.at_ M6.o.1 (by decide) AT).mono ?_;rintro e V8 ⟨rfl,h8⟩;have M8:=hid (M6.o.after h8);clear h8;go_wp2
     go_end0
     rw [RR.o];exact ⟨rfl,M8.o⟩
   ·have e2:decide ((x.text.length:Int) > 6)=false:=by simp; omega
    rw [decide_eq_false c2] at R;have RR:Hd (Rf.proper x d=Rf.aH (As.dY x.text).isSome 7 x.at_ d1):=R.o;have M6:=hid MM.o;clear R MM;go_wp2_with fail;refine (cG.o _).mono ?_;rintro e w' ⟨rfl,hw⟩;rw [hw];clear hw w' cG;unfold Rf.wh
    cases hr:As.dY x.text with
    | none =>
     rw [hr] at RR;clear hr;go_wp2
     go_end0
     rw [RR.o];exact ⟨rfl,M6.o⟩
    | some r =>
     rw [hr] at RR;have g0:decide ((r:Int)≥0)=true:=by simp
     clear hr;go_wp2_with fail;refine (cB.o _ _ 7 x.at_ M6.o.1 (by decide) AT).mono ?_;rintro e V8 ⟨rfl,h8⟩;have M8:=hid (M6.o.after h8);clear h8;go_wp2
     go_end0
     rw [RR.o];exact ⟨rfl,M8.o⟩
theorem Tryz.Cr:(Tryz.prog.info? 4).map (fun i=>(i.zero,i.size,i.bytes))=some (some (.bool false),1,1):=by kernel_rfl
structure Ch (d:Rf.Ds):Prop where
 text:d.obj.text.length<=1200
 far:d.obj.far.length<=1200
 data:d.obj.data.length<=64
 bss:0<=d.obj.bss/\d.obj.bss<=64
 align:d.obj.align.length=4
 syms:d.obj.syms.length<=16
 aj:d.obj.aj.length<=32
 said:d.said.length=d.obj.syms.length
structure Mo (B m g:Nat) (ao:Option Addr) (cap:Nat) (L:List Rf.Tk) (d:Rf.Ds) (W:World) (vq vt vf vd va vs vr:Value):Prop where
 md:Md m g vq ao cap L d W
 tb:∃ b cs,ao=some ⟨b,0,none⟩/\yd W b cs 69
 said:W.ownsRow B 4 1 vq d.said.length (d.said.map Value.bool)
 own:qD B W m g d.obj vt vf vd va vs vr
 lo:3<=B/\B<=m/\B<=g/\m≠g
 sz:Ch d
 tabs:gD W
def rJ (B m g:Nat) (ao:Option Addr) (cap:Nat) (L:List Rf.Tk) (d:Rf.Ds) (W:World):Prop:=∃ vq vt vf vd va vs vr,Mo B m g ao cap L d W vq vt vf vd va vs vr
def yG (ts:List TypeId) (W V:World):Prop:=∀ k cs t,t ∉ ts->yd W k cs t->yd V k cs t
theorem yG.refl (ts:List TypeId) (W:World):yG ts W W:=fun _ _ _ _ h=>h
theorem yG.trans {ts us:List TypeId} {a b c:World} (h:yG ts a b) (k:yG us b c) (hu:∀ t,t∈us->t∈ts):yG ts a c:=fun i cs t ht hb=>k i cs t (fun x=>ht (hu t x)) (h i cs t ht hb)
theorem yG.none {ts:List TypeId} {W V:World} (h:W.grownBy V none):yG ts W V:=fun _ _ _ _ hb=>hb.grown h (by simp)
def yO (B m g:Nat) (ao:Option Addr) (cap:Nat) (L:List Rf.Tk) (ts:List TypeId) (W:World) (d':Rf.Ds) (V:World):Prop:=rJ B m g ao cap L d' V/\Below B W V/\yG ts W V
def qX (B m g:Nat) (ao:Option Addr) (cap:Nat) (L:List Rf.Tk) (ts:List TypeId) (W:World) (d':Rf.Ds) (V:World) (vt vf vd va:Value):Prop:=(∃ vq vs vr,Mo B m g ao cap L d' V vq vt vf vd va vs vr)/\Below B W V/\yG ts W V
section
variable {B m g:Nat} {ao:Option Addr} {cap:Nat} {L:List Rf.Tk} {d d':Rf.Ds} {W V V':World} {vq vt vf vd va vs vr:Value} {ts us:List TypeId}
theorem Mo.lift (h:Mo B m g ao cap L d W vq vt vf vd va vs vr) (k:qP m g vq ao cap L W d' V) (ho:d'.obj=d.obj) (hs:d'.said=d.said):Mo B m g ao cap L d' V vq vt vf vd va vs vr:=by
 obtain ⟨b,cs,e,hb⟩:=h.tb;have nb:b≠m:=h.md.ne _ e;refine ⟨k.1,⟨b,cs,e,hb.grown k.2 (by simpa using nb)⟩,?_,?_,h.lo,?_,h.tabs.qZ k.2 (by have:=h.lo; omega)⟩
 ·rw [hs];exact Iy h.said fun i hi=>k.2.block i (h.said.lt i hi).2 (fun e=>by
   obtain rfl:i=m:=by simpa using e
   exact Iw h.said hi h.md.blk (by decide))
 ·rw [ho];exact h.own.keep fun i hi hl=>k.2.block i hl (by simpa using hi)
 ·obtain ⟨s1,s2,s3,s4,s5,s6,s7,s8⟩:=h.sz;exact ⟨by rw [ho]; exact s1,by rw [ho]; exact s2,by rw [ho]; exact s3,by rw [ho]; exact s4,by rw [ho]; exact s5,by rw [ho]; exact s6,by rw [ho]; exact s7,by rw [ho,hs]; exact s8⟩
theorem Mo.size (h:Mo B m g ao cap L d W vq vt vf vd va vs vr):B<=W.heap.size:=by have:=h.md.blk.lt; have:=h.lo; omega
theorem Mo.dW (h:Mo B m g ao cap L d W vq vt vf vd va vs vr) (k:qP m g vq ao cap L W d' V) (ho:d'.obj=d.obj) (hs:d'.said=d.said) (ht:46∈ts):yO B m g ao cap L ts W d' V:=by
 refine ⟨⟨vq,vt,vf,vd,va,vs,vr,h.lift k ho hs⟩,(Below.refl B W).grown k.2 h.size (by intro i hi; simp at hi; have:=h.lo; omega),fun i cs t hn hb=>hb.grown k.2 (fun e=>?_)⟩;obtain rfl:i=m:=by simpa using e
 have:=hb.symm.trans h.md.blk
 simp at this;exact hn (by rw [this.2]; exact ht)
theorem yO.after (h:yO B m g ao cap L ts W d V) (k:yO B m g ao cap L us V d' V') (hu:∀ t,t∈us->t∈ts):yO B m g ao cap L ts W d' V':=⟨k.1,h.2.1.trans k.2.1,h.2.2.trans k.2.2 hu⟩
theorem Mo.grown (h:Mo B m g ao cap L d W vq vt vf vd va vs vr) (hg:W.grownBy V none):Mo B m g ao cap L d V vq vt vf vd va vs vr:=by
 obtain ⟨b,cs,e,hb⟩:=h.tb;exact ⟨h.md.grown hg,⟨b,cs,e,hb.grown hg (by simp)⟩,h.said.kept hg (Decidable.em _),h.own.keep fun i _ hl=>hg.block i hl (by simp),h.lo,h.sz,h.tabs.grown hg⟩
theorem yO.grown (h:yO B m g ao cap L ts W d V) (hg:V.grownBy V' none):yO B m g ao cap L ts W d V':=by
 obtain ⟨⟨vq,vt,vf,vd,va,vs,vr,hm⟩,hb,hk⟩:=h;exact ⟨⟨vq,vt,vf,vd,va,vs,vr,hm.grown hg⟩,hb.trans ((Below.refl B V).grown hg hm.size (by simp)),hk.trans (us:=[]) (yG.none hg) (by simp)⟩
theorem Mo.refl (h:Mo B m g ao cap L d W vq vt vf vd va vs vr):yO B m g ao cap L ts W d W:=⟨⟨vq,vt,vf,vd,va,vs,vr,h⟩,Below.refl _ _,yG.refl _ _⟩
theorem Mo.kD (h:Mo B m g ao cap L d W vq vt vf vd va vs vr) (k:qP m g vq ao cap L W d' V) (ho:d'.obj=d.obj) (hs:d'.said=d.said) (ht:46∈ts):qX B m g ao cap L ts W d' V vt vf vd va:=⟨⟨vq,vs,vr,h.lift k ho hs⟩,(h.dW (ts:=ts) k ho hs ht).2⟩
theorem qX.does (h:qX B m g ao cap L ts W d V vt vf vd va):yO B m g ao cap L ts W d V:=by
 obtain ⟨⟨vq,vs,vr,hm⟩,hb⟩:=h;exact ⟨⟨vq,vt,vf,vd,va,vs,vr,hm⟩,hb⟩
theorem qX.after (h:qX B m g ao cap L ts W d V vt vf vd va) (k:qX B m g ao cap L us V d' V' vt vf vd va) (hu:∀ t,t∈us->t∈ts):qX B m g ao cap L ts W d' V' vt vf vd va:=⟨k.1,h.2.1.trans k.2.1,h.2.2.trans k.2.2 hu⟩
theorem qX.grown (h:qX B m g ao cap L ts W d V vt vf vd va) (hg:V.grownBy V' none):qX B m g ao cap L ts W d V' vt vf vd va:=by
 obtain ⟨⟨vq,vs,vr,hm⟩,hb,hk⟩:=h;exact ⟨⟨vq,vs,vr,hm.grown hg⟩,hb.trans ((Below.refl B V).grown hg hm.size (by simp)),hk.trans (us:=[]) (yG.none hg) (by simp)⟩
theorem Mo.xQ (h:Mo B m g ao cap L d W vq vt vf vd va vs vr):qX B m g ao cap L ts W d W vt vf vd va:=⟨⟨vq,vs,vr,h⟩,Below.refl _ _,yG.refl _ _⟩
end
theorem yq (e a:Nat) (d:Rf.Ds):(Rf.bad e a d).said=d.said/\(Rf.bad e a d).obj=d.obj:=by unfold Rf.bad; split <;> exact ⟨rfl,rfl⟩
theorem OE (c:Bool) (e a:Nat) (d:Rf.Ds):(Rf.aH c e a d).said=d.said:=by unfold Rf.aH; split; exact (yq _ _ _).1; rfl
theorem Gl (L:List Rf.Tk) (d:Rf.Ds):(Rf.step L d).said=d.said:=by unfold Rf.step Rf.look; rw [OE]; split <;> rfl
theorem WM (t:Rf.Tk) (d:Rf.Ds):(Rf.proper t d).said=d.said:=by unfold Rf.proper; rw [OE,OE,OE]
theorem Ji (L:List Rf.Tk) (lo hi:Int) (d:Rf.Ds):(Rf.num L lo hi d).2.said=d.said:=by
 have nf:∀ neg pos d,(Rf.bP L neg pos lo hi d).2.said=d.said:=fun neg pos d=>by
  unfold Rf.bP;split
  ·exact (Gl _ _).trans (OE _ _ _ _)
  ·exact (yq _ _ _).1
 unfold Rf.num;split
 ·exact (nf _ _ _).trans (Gl _ _)
 ·exact nf _ _ _
theorem yh {B:Nat} {e:TypeId} {size n:Nat} {v:Value} {xs:List Value} {W V:World} {ts:List TypeId} (h:W.ownsRow B e size v n xs) (hk:yG ts W V) (he:e ∉ ts):V.ownsRow B e size v n xs :=
 Iy h fun k hk'=>by
  rcases h.2 with ⟨rfl,_⟩ | ⟨g',cap,cur,rfl,_,hg,_⟩
  ·simp [Value.ownBlock] at hk'
  ·obtain rfl:g'=k:=by simpa [Value.ownBlock] using hk'
   exact (hk g' cur e he hg).trans hg.symm
theorem OO {B:Nat} {e:TypeId} {size n:Nat} {v:Value} {xs:List Value} {W V:World} {ob:Obj} (h:W.ownsRow B e size v n xs) (hg:(W.alloc ob).grownBy V v.ownBlock):yG [e] W V:=fun k cs t ht hb =>
 (hb.grown (aW W ob none) (by simp)).grown hg (fun c=>Iw h c.symm hb (by simp at ht; exact fun x=>ht x.symm))
theorem tX {W:World} {b:Nat} {cs0:Array Value} {t0:TypeId} (h:yd W b cs0 t0) (o:Nat) (v:Value):yG [t0] W (W.setCell ⟨b,o,none⟩ v):=fun k cs t ht hb =>
 hb.grown (yy W b o v) (fun c=>by
  obtain rfl:k=b:=by simpa using c
  have:=hb.symm.trans h
  simp at this;simp at ht;exact ht this.2)
theorem Ox {B:Nat} {e:TypeId} {size n:Nat} {v:Value} {xs:List Value} {W V:World} {ob:Obj} (h:W.ownsRow B e size v n xs) (hB:B<=W.heap.size) (hg:(W.alloc ob).grownBy V v.ownBlock):Below B W V :=
 ((Below.refl B W).grown (aW W ob none) hB (by simp)).trans ((Below.refl B (W.alloc ob)).grown hg (by rw [wL]; omega) (fun k hk=>(h.lt k hk).1))
theorem zh {B:Nat} {W:World} {b:Nat} (o:Nat) (v:Value) (hB:B<=b) (hW:B<=W.heap.size):Below B W (W.setCell ⟨b,o,none⟩ v):=(Below.refl B W).grown (yy W b o v) hW (by intro k hk; simp at hk; omega)
theorem Uo {ao:Option Addr} {L:List Rf.Tk} {W V:World} {ts:List TypeId} (h:U5 W ao L) (tb:∃ b cs,ao=some ⟨b,0,none⟩/\yd W b cs 69) (hk:yG ts W V) (ht:69 ∉ ts):U5 V ao L/\∃ b cs,ao=some ⟨b,0,none⟩/\yd V b cs 69:=by
 obtain ⟨b,cs,e,hb⟩:=tb;have hv:=hk b cs 69 ht hb;refine ⟨fun hp=>?_,b,cs,e,hv⟩;obtain ⟨b',e',hc⟩:=h hp;obtain rfl:b'=b:=by rw [e] at e'; simpa using e'.symm
 have kp:∀ (o:Nat) (v:Value),W.cell? ⟨b',o,none⟩=some v->V.cell? ⟨b',o,none⟩=some v:=fun o v hx=>by rw [hv.cell o,<- hb.cell o]; exact hx
 exact ⟨b',e,fun i hi=>by
  obtain ⟨c0,c1,c2,c3,c4⟩:=hc i hi;exact ⟨kp _ _ c0,kp _ _ c1,kp _ _ c2,kp _ _ c3,kp _ _ c4⟩⟩
theorem Ow {B:Nat} {W V:World} (h:gD W) (hb:Below B W V) (hB:3<=B):gD V :=
 ⟨fun i hi=>(hb.cell (show 1 < B by omega)).trans (h.form i hi),fun i hi=>(hb.cell (show 2 < B by omega)).trans (h.fix i hi)⟩
section
variable {B m g:Nat} {ao:Option Addr} {cap:Nat} {L:List Rf.Tk} {d:Rf.Ds} {W w3 w5:World} {vq vt vf vd va vs vr v' v2:Value} {ob Tv:Obj}
theorem Mo.Kg (h:Mo B m g ao cap L d W vq vt vf vd va vs vr) (ys:List Lk.Sym) (hown:w3.ownsRow B 50 4 v' ys.length (ys.flatMap iF)) (hg:(W.alloc ob).grownBy w3 vs.ownBlock) :
  yG [50] W w3/\yd w3 m (yr g vq (.slice ao L.length cap) d) 46/\yd w3 g #[vt,vf,vd,.int .i64 d.obj.bss,va,vs,vr] 40/\yG [50,40] W (w3.setCell ⟨g,5,none⟩ v')/\Below B W (w3.setCell ⟨g,5,none⟩ v')/\qD B (w3.setCell ⟨g,5,none⟩ v') m g { d.obj with syms:=ys } vt vf vd va v' vr:=by
 have k3:=OO h.own.syms hg;have bm:=k3 _ _ _ (by decide) h.md.blk;have bg:=k3 _ _ _ (by decide) h.own.blk;have ks:=tX bg 5 v';have k4:yG [50,40] W (w3.setCell ⟨g,5,none⟩ v'):=yG.trans (ts:=[50,40]) (fun i cs t ht hb=>k3 i cs t (by simp at ht ⊢; exact ht.1) hb) ks (by simp);have hB:=h.size;have bl:=Ox h.own.syms hB hg;have Ph:Below B w3 (w3.setCell ⟨g,5,none⟩ v'):=zh 5 v' (by have:=h.lo; omega) (Nat.le_trans hB bl.size);have nZ:(w3.setCell ⟨g,5,none⟩ v').ownsRow B 50 4 v' ys.length (ys.flatMap iF):=yh hown ks (by decide);have pR:yd (w3.setCell ⟨g,5,none⟩ v') g #[vt,vf,vd,.int .i64 d.obj.bss,va,v',vr] 40:=by simpa using bg.set 5 v'
 have rt:=yh h.own.text k4 (by decide);have Fb:=yh h.own.far k4 (by decide);have rd:=yh h.own.data k4 (by decide);have ra:=yh h.own.align k4 (by decide);have rr:=yh h.own.aj k4 (by decide);have Mt:=ks _ _ _ (by decide) bm;have no:∀ {e:TypeId} {size n:Nat} {u:Value} {xs:List Value},(w3.setCell ⟨g,5,none⟩ v').ownsRow B e size u n xs->e≠50->∀ k,v'.ownBlock=some k->u.ownBlock≠some k:=fun hu he k hk hk'=>by
  rcases hu.2 with ⟨rfl,_⟩ | ⟨g',cap,cur,rfl,_,hg',_⟩
  ·simp [Value.ownBlock] at hk'
  ·obtain rfl:g'=k:=by simpa [Value.ownBlock] using hk'
   exact Iw nZ hk hg' (fun x=>he x.symm)
 refine ⟨k3,bm,bg,k4,bl.trans Ph,⟨pR,rt,Fb,rd,ra,nZ,rr,?_⟩⟩;refine h.own.apart.set (i:=6) (v:=vs) (v':=v') rfl fun k hk=>?_
 by_cases c:vs.ownBlock=some k
 ·exact .inl c
 ·refine .inr fun u hu=>?_
  simp only [List.mem_cons,List.not_mem_nil,or_false] at hu;rcases hu with rfl | rfl | rfl | rfl | rfl | rfl | rfl | rfl
  ·intro x;obtain rfl:m=k:=by simpa [gI,Value.ownBlock] using x
   exact Iw nZ hk Mt (by decide)
  ·intro x;obtain rfl:g=k:=by simpa [gI,Value.ownBlock] using x
   exact Iw nZ hk pR (by decide)
  ·exact no rt (by decide) k hk
  ·exact no Fb (by decide) k hk
  ·exact no rd (by decide) k hk
  ·exact no ra (by decide) k hk
  ·exact c
  ·exact no rr (by decide) k hk
theorem Mo.Ia (o:Lk.Obj) (qs:List Bool) {W4:World} (h:Mo B m g ao cap L d W vq vt vf vd va vs vr) (k4:yG [50,40] W W4) (bl:Below B W W4) (ho:qD B W4 m g o vt vf vd va v' vr) (hg:(W4.alloc Tv).grownBy w5 vq.ownBlock) (hown:w5.ownsRow B 4 1 v2 qs.length (qs.map Value.bool)) (hz:Ch { d with obj:=o,said:=qs }) :
  yd w5 m (yr g vq (.slice ao L.length cap) d) 46/\Mo B m g ao cap L { d with obj:=o,said:=qs } (w5.setCell ⟨m,1,none⟩ v2) v2 vt vf vd va v' vr/\Below B W (w5.setCell ⟨m,1,none⟩ v2)/\yG [46,40,50,4] W (w5.setCell ⟨m,1,none⟩ v2):=by
 have Mt:=k4 _ _ _ (by decide) h.md.blk;have VR:=yh h.said k4 (by decide);have k5:=OO VR hg;have QK:=k5 _ _ _ (by decide) Mt;have ks:=tX QK 1 v2;have hB4:B<=W4.heap.size:=Nat.le_trans h.size bl.size;have Vy:=Ox VR hB4 hg;have Zi:Below B w5 (w5.setCell ⟨m,1,none⟩ v2):=zh 1 v2 h.lo.2.1 (Nat.le_trans hB4 Vy.size);have I9:yG [4,46] W4 (w5.setCell ⟨m,1,none⟩ v2):=yG.trans (ts:=[4,46]) (fun i cs t ht hb=>k5 i cs t (by simp at ht ⊢; exact ht.1) hb) ks (by simp);have Oh:yG [46,40,50,4] W (w5.setCell ⟨m,1,none⟩ v2):=yG.trans (ts:=[46,40,50,4]) (fun i cs t ht hb=>k4 i cs t (by simp at ht ⊢; exact ⟨ht.2.2.1,ht.2.1⟩) hb) I9 (by simp)
 have tk:=Uo h.md.toks h.tb Oh (by decide);have IZ:=(bl.trans Vy).trans Zi;have blk:yd (w5.setCell ⟨m,1,none⟩ v2) m (yr g v2 (.slice ao L.length cap) { d with obj:=o,said:=qs }) 46:=by simpa [yr] using QK.set 1 v2
 refine ⟨QK,⟨⟨blk,tk.1,h.md.ne,⟨h.md.ok.k,h.md.ok.len,h.md.ok.toks,h.md.ok.fe,h.md.ok.fa,h.md.ok.op,h.md.ok.ah⟩⟩,tk.2,yh hown ks (by decide),?_,h.lo,hz,Ow h.tabs IZ h.lo.1⟩,IZ,Oh⟩;exact ⟨I9 _ _ _ (by decide) ho.blk,yh ho.text I9 (by decide),yh ho.far I9 (by decide),yh ho.data I9 (by decide),yh ho.align I9 (by decide),yh ho.syms I9 (by decide),yh ho.aj I9 (by decide),ho.apart⟩
end
theorem OQ (W:World) (cs:Array Value) (t:TypeId):∀ j u,cs.toList[j]?=some u->(W.alloc (.cells cs t)).cell? ((⟨W.heap.size,0,none⟩:Addr).add j)=some u :=
 World.news_of_block (heap_alloc_new W (.cells cs t))
theorem ylm (W:World) (b o:Nat) (v:Value) (cs:Array Value) (t:TypeId):∀ j u,cs.toList[j]?=some u->((W.setCell ⟨b,o,none⟩ v).alloc (.cells cs t)).cell? ((⟨W.heap.size,0,none⟩:Addr).add j)=some u:=by
 have h:=OQ (W.setCell ⟨b,o,none⟩ v) cs t;have e:(W.setCell ⟨b,o,none⟩ v).heap.size=W.heap.size:=by simp
 rw [e] at h;exact h
abbrev pO:List TypeId:=[46,40,50,4]
theorem Xq (B m g:Nat) (ao:Option Addr) (cap:Nat) (L:List Rf.Tk) (d:Rf.Ds) (nm:List UInt8) (a:Nat) (W:World) (vq vt vf vd va vs vr:Value) (h:Mo B m g ao cap L d W vq vt vf vd va vs vr) (ha:a<=1000) :
  Calls Tryz.prog 50 #[.pointer (some ⟨m,0,none⟩),.string (bs nm),.int .i64 a] W fun en W'=>en = .returned (.int .i64 (Rf.entry nm a d).1)/\qX B m g ao cap L pO W (Rf.entry nm a d).2 W' vt vf vd va:=by
 obtain ⟨i1,hi1,hy0,hy1,hy2⟩:=info_parts Tryz.AZ;obtain ⟨i2,hi2,hb0,hb1,hb2⟩:=info_parts Tryz.Cr;obtain ⟨gu,cs,rfl⟩:=yi h.own.syms;obtain ⟨aq,cq,rfl⟩:=yi h.said;have H:=hid h;have h16:=h.sz.syms;have SI:=hid (nS.aF h.own.syms);have c0:=yp h.md 0;have c5:=yp h.md 5;have g5:=h.own.blk.cell 5;simp only [yr,bB,yml,bf] at c0 c5 g5;clear h;go_enter Tryz.func50,Tryz.ntmps50;go_wp2
 go_loopw [7] (fun i wr=>∃ k:Nat,k<=d.obj.syms.length/\i = .int .i64 k/\(∀ j (hj:j < d.obj.syms.length),j < k->d.obj.syms[j].name≠nm)/\W.grownBy wr none) (fun i _=>d.obj.syms.length - (intOf i).toNat)
 case atStart=>exact ⟨0,Nat.zero_le _,rfl,fun j _ hj=>absurd hj (Nat.not_lt_zero j),World.grownBy.refl _ _⟩
 case round =>
  obtain ⟨k,hk,rfl,hall,hgr⟩:=hrel;have HA:=hid hall;have HG:=hid hgr;have q0:=yb c0 hgr;have q5:=yb c5 hgr;have p5:=yb g5 hgr;have HW:=hid (H.o.grown hgr);clear hall hgr c0 c5 g5;by_cases hlt:k < d.obj.syms.length
  ·obtain ⟨sg,hsg,hgs,hc⟩:=SI.o.grown HG.o (by omega);obtain ⟨k0,k1,k2,k3⟩:=hc k hlt;clear hc;subst hsg;have g1:(k:Int) < (d.obj.syms.length:Int):=by omega
   by_cases e1:d.obj.syms[k].name=nm
   ·have E:=hid (show Rf.entry nm a d=(k,d) by unfold Rf.entry; rw [Xw _ _ k hlt e1 HA.o]);have b1:((bs d.obj.syms[k].name).toList == (bs nm).toList)=true:=by rw [e1]; simp
    clear e1;go_wp2;go_ret;rw [E.o];exact ⟨rfl,H.o.xQ.grown HG.o⟩
   ·have E:=hid e1;have b1:((bs d.obj.syms[k].name).toList == (bs nm).toList)=false:=by rw [yA,yA]; simpa using e1
    clear e1;go_wp2
    go_roundw
    case rel=>exact ⟨k+1,by omega,by go_num,fun j hj hjk=>(Nat.lt_succ_iff_lt_or_eq.1 hjk).elim (fun h=>HA.o j hj h) (fun h=>by subst h; exact E.o),HG.o⟩
    case measure=>simp [intOf]; omega
  ·obtain rfl:k=d.obj.syms.length:=by omega
   have g3:decide ((d.obj.syms.length:Int) < (d.obj.syms.length:Int))=false:=by simp
   have EN:=hid (Xv d.obj.syms nm (fun j hj=>HA.o j hj (by omega)));have RS:=hid (show Rf.entry nm a d=if (Rf.aH (decide (d.obj.syms.length=16)) 11 a d).fe=0 then (d.obj.syms.length,{ d with obj:={ d.obj with syms:=d.obj.syms ++ [⟨nm,0,0,0⟩] },said:=d.said ++ [false] }) else (0,Rf.aH (decide (d.obj.syms.length=16)) 11 a d) by unfold Rf.entry; rw [EN.o]);clear HA EN SI;by_cases hf:d.fe=0
   ·have f1:((d.fe:Int) == 0)=true:=by simp [hf]
    by_cases hl:d.obj.syms.length=16
    ·have f2:((d.obj.syms.length:Int) == 16)=true:=by simp [hl]
     have cB:=hid (yL m g _ ao cap L d 11 a wr HW.o.md (by decide) ha);have RF:=hid (show Rf.entry nm a d=(0,Rf.bad 11 a d) by rw [RS.o]; unfold Rf.aH; rw [decide_eq_true hl,if_pos rfl,if_neg (Rf.bH 11 a (by decide) d)]);have BF:Hd (Rf.bad 11 a d={ d with fe:=11,fa:=a }):=by show Rf.bad 11 a d=_; unfold Rf.bad; rw [if_pos hf]
     clear hl hf;go_wp2_with fail;refine cB.o.mono ?_;rintro e V3 ⟨rfl,h3⟩;have M3:=hid ((H.o.xQ.grown HG.o).after (HW.o.kD (ts:=pO) h3 (yq _ _ _).2 (yq _ _ _).1 (by simp)) (fun t ht=>ht));have k5:=yp h3.1 5;rw [BF.o] at k5;simp only [yr,bB,yml,bf] at k5;clear h3 cB;go_wp2;go_ret;rw [RF.o];exact ⟨rfl,M3.o⟩
    ·have f2:((d.obj.syms.length:Int) == 16)=false:=by simp; omega
     have RF:=hid (show Rf.entry nm a d=(d.obj.syms.length,{ d with obj:={ d.obj with syms:=d.obj.syms ++ [⟨nm,0,0,0⟩] },said:=d.said ++ [false] }) by rw [RS.o]; unfold Rf.aH; rw [decide_eq_false hl]; simp [hf]);have f3:((d.fe:Int) != 0)=false:=by simp [hf]
     have hBw:=HW.o.size;have hq:d.said.length<=16:=by have:=HW.o.sz.said; omega
     have HQ:=hid HW.o.sz.said;clear hf RS;have FL:Hd ((d.obj.syms ++ [(⟨nm,0,0,0⟩:Lk.Sym)]).flatMap iF=d.obj.syms.flatMap iF ++ [.string (bs nm),.int .i64 0,.int .i64 0,.int .i64 0]/\(d.obj.syms ++ [(⟨nm,0,0,0⟩:Lk.Sym)]).length=d.obj.syms.length+1):=⟨by rw [List.flatMap_append]; rfl,by simp⟩
     have QL:Hd ((d.said ++ [false]).map Value.bool=d.said.map Value.bool ++ [.bool false]/\(d.said ++ [false]).length=d.said.length+1):=⟨by rw [List.map_append]; rfl,by simp⟩
     have F1:=hid (fun (w3:World) (Pg:Option Addr) (cs2:Nat) (ho:w3.ownsRow B 50 4 (.slice Pg (d.obj.syms.length+1) cs2) (d.obj.syms.length+1) (d.obj.syms.flatMap iF ++ [.string (bs nm),.int .i64 0,.int .i64 0,.int .i64 0])) (hg:(wr.alloc (.cells #[.string (bs nm),.int .i64 0,.int .i64 0,.int .i64 0] 50)).grownBy w3 (Value.ownBlock (.slice gu d.obj.syms.length cs)))=>HW.o.Kg (d.obj.syms ++ [⟨nm,0,0,0⟩]) (v':=.slice Pg (d.obj.syms.length+1) cs2) (by rw [FL.o.1,FL.o.2]; exact ho) hg);have SZ:=hid (show Ch { d with obj:={ d.obj with syms:=d.obj.syms ++ [⟨nm,0,0,0⟩] },said:=d.said ++ [false] } from ⟨HW.o.sz.text,HW.o.sz.far,HW.o.sz.data,HW.o.sz.bss,HW.o.sz.align,by rw [FL.o.2]; omega,HW.o.sz.aj,by rw [FL.o.2,QL.o.2,HQ.o]⟩)
     go_wp2_with (at_builtin; first
      | (refine wpList_append_own _ rfl _ _ 37 rfl B 50 i1 (.agg #[.string ⟨#[]⟩,.int .i64 0,.int .i64 0,.int .i64 0]) 4 40 Tryz.underlying37 hi1 hy0 hy1 hy2 rfl (by decide) _ _ _ rfl (HW.o.own.syms.alloc _) ⟨wr.heap.size,0,none⟩ 1 1 [.string (bs nm),.int .i64 0,.int .i64 0,.int .i64 0] rfl rfl (OQ _ _ _) (by intro u hu; simp at hu; rcases hu with rfl | rfl <;> rfl) (by unfold maxLen; omega) (by omega) (by simp; omega) ?_; intro v' w3 hown' hgrow _; obtain ⟨Pg,cs2,rfl⟩:=yi hown'; have E3:=hid (F1.o w3 Pg cs2 hown' hgrow); have u0:=E3.o.2.1.cell 0; have u5:=E3.o.2.2.1.cell 5; have uf:=E3.o.2.2.1.free 5; have S4:=hid (yh HW.o.said E3.o.2.2.2.1 (by decide)); have Yy:=hid (E3.o.2.2.2.1 _ _ _ (by decide) HW.o.md.blk); have u1:=Yy.o.cell 1; have hB4:=Nat.le_trans HW.o.size E3.o.2.2.2.2.1.size; simp only [yr,bB,yml,bf] at u0 u5 u1; clear hown' hgrow F1)
      | (refine wpList_append_own _ rfl _ _ 41 rfl B 4 i2 (.bool false) 1 1 Tryz.underlying41 hi2 hb0 hb1 hb2 rfl (by decide) _ _ _ rfl (S4.o.alloc _) ⟨_,0,none⟩ 1 1 [.bool false] rfl rfl (ylm _ _ _ _ _ _) (by intro u hu; simp at hu; subst hu; rfl) (by unfold maxLen; omega) (by omega) (by rw [wL]; omega) ?_; intro v2 w5 hown2 hgrow2 _; obtain ⟨Zg,Zl,rfl⟩:=yi hown2; have E5:=hid (HW.o.Ia _ (d.said ++ [false]) E3.o.2.2.2.1 E3.o.2.2.2.2.1 E3.o.2.2.2.2.2 hgrow2 (v2:=.slice Zg (d.said.length+1) Zl) (by rw [QL.o.1,QL.o.2]; exact hown2) SZ.o); have y1:=E5.o.1.cell 1; have yf:=E5.o.1.free 1; simp only [yr,bB,yml,bf] at y1; clear hown2 hgrow2))
     go_ret;rw [RF.o];exact ⟨rfl,(H.o.xQ.grown HG.o).after (us:=pO) ⟨⟨_,_,_,E5.o.2.1⟩,E5.o.2.2.1,E5.o.2.2.2⟩ (fun t ht=>ht)⟩
   ·have f1:((d.fe:Int) == 0)=false:=by simp; omega
    have f3:((d.fe:Int) != 0)=true:=by simp; omega
    have RF:=hid (show Rf.entry nm a d=(0,d) by
     have z:Rf.aH (decide (d.obj.syms.length=16)) 11 a d=d:=by
      unfold Rf.aH Rf.bad;rw [if_neg hf];split <;> rfl
     rw [RS.o,z,if_neg hf])
    clear hf RS;go_wp2;go_ret;rw [RF.o];exact ⟨rfl,H.o.xQ.grown HG.o⟩
theorem yiu (B m g:Nat) (ao:Option Addr) (cap:Nat) (L:List Rf.Tk) (d:Rf.Ds) (nm:List UInt8) (a:Nat) (W:World) (h:rJ B m g ao cap L d W) (ha:a<=1000) :
  Calls Tryz.prog 50 #[.pointer (some ⟨m,0,none⟩),.string (bs nm),.int .i64 a] W fun en W'=>en = .returned (.int .i64 (Rf.entry nm a d).1)/\yO B m g ao cap L pO W (Rf.entry nm a d).2 W':=by
 obtain ⟨vq,vt,vf,vd,va,vs,vr,h⟩:=h;exact (Xq B m g ao cap L d nm a W vq vt vf vd va vs vr h ha).mono fun e W' k=>⟨k.1,k.2.does⟩
theorem ykK {L:List Rf.Tk} {d:Rf.Ds} (h:qF L d):qF L (Rf.look L d):=by
 unfold Rf.look Rf.aH;split
 ·exact yll h _ _ (wS h).e (wS h).at_
 ·exact h
theorem Yc {L:List Rf.Tk} {d:Rf.Ds} (h:qF L d):qF L (Rf.step L d):=by
 unfold Rf.step;apply ykK;split
 ·rename_i c;exact ⟨c.1,h.len,h.toks,h.fe,h.fa,h.op,h.ah⟩
 ·exact h
theorem Oz {L:List Rf.Tk} {d:Rf.Ds} (h:qF L d) (lo hi:Int):-9999999999<=(Rf.num L lo hi d).1/\(Rf.num L lo hi d).1<=9999999999:=by
 have nf:∀ (neg:Bool) (pos:Nat) (d:Rf.Ds),qF L d->-9999999999<=(Rf.bP L neg pos lo hi d).1/\(Rf.bP L neg pos lo hi d).1<=9999999999:=fun neg pos d h=>by
  have t:=(wS h).num;unfold Rf.bP;split
  ·cases neg
   ·show -9999999999<=((Rf.tk L d).num:Int)/\((Rf.tk L d).num:Int)<=9999999999;omega
   ·show -9999999999<=-((Rf.tk L d).num:Int)/\-((Rf.tk L d).num:Int)<=9999999999;omega
  ·show (-9999999999:Int)<=0/\(0:Int)<=9999999999;decide
 unfold Rf.num;split
 ·exact nf _ _ _ (Yc h)
 ·exact nf _ _ _ h
theorem UJ (B m g:Nat) (ao:Option Addr) (cap:Nat) (L:List Rf.Tk) (d:Rf.Ds) (W:World) (vq vt vf vd va vs vr:Value) (h:Mo B m g ao cap L d W vq vt vf vd va vs vr) :
  Calls Tryz.prog 73 #[.pointer (some ⟨m,0,none⟩)] W fun en W'=>en = .returned (.int .i64 (Rf.sym L d).1)/\qX B m g ao cap L pO W (Rf.sym L d).2 W' vt vf vd va:=by
 obtain ⟨x,hx⟩:∃ x,Rf.tk L d=x:=⟨_,rfl⟩
 have cT:=hid (fun (V:World) (hV:Md m g vq ao cap L d V)=>(show Calls Tryz.prog 25 #[.pointer (some ⟨m,0,none⟩)] V (fun en W'=>en = .returned (jg x)/\V.grownBy W' none) from by rw [<- hx]; exact zo m g vq ao cap L d V hV));have H:=hid h;have hm:=h.md.blk.lt;have TO:=wS h.md.ok;rw [hx] at TO;have O6:=hid TO;have AT:=TO.at_;have M0:=hid h.md.does;have R:=hid (show Rf.sym L d=if x.kind=119 then Rf.entry x.text x.at_ (Rf.step L (Rf.proper x d)) else (0,Rf.bad 3 x.at_ d) by unfold Rf.sym; rw [hx]);generalize Rf.sym L d=D at *;clear h TO hx;unfold jg at *;go_enter Tryz.func73,Tryz.ntmps73;go_wp2_with fail
 refine (cT.o W M0.o.1).mono ?_;rintro e V1 ⟨rfl,h1⟩;have A1:=aW V1 (.cells #[.int .u8 x.kind,.int .i64 x.at_,.string (bs x.text),.int .i64 x.num,.int .i64 x.e] 69) none;have M2:=hid (M0.o.grown (ya h1 A1));have BL:=hid (yd.new V1 #[.int .u8 x.kind,.int .i64 x.at_,.string (bs x.text),.int .i64 x.num,.int .i64 x.e] 69);have nm:V1.heap.size≠m:=by have:=h1.size; omega
 clear h1 A1 cT M0;by_cases c1:x.kind=119
 ·rw [if_pos c1] at R;have e1:((x.kind:Int) == 119)=true:=by simp [c1]
  have e2:((x.kind:Int) != 119)=false:=by simp [c1]
  clear c1;have cP:=hid (fun (V:World) (hV:Md m g vq ao cap L d V)=>WE m g vq ao cap L d x V hV O6.o);unfold jg at cP;go_wp2_with fail;generalize V1.alloc (.cells #[.int .u8 x.kind,.int .i64 x.at_,.string (bs x.text),.int .i64 x.num,.int .i64 x.e] 69)=V2 at *;generalize V1.heap.size=rl at *;refine (cP.o V2 M2.o.1).mono ?_;rintro e V3 ⟨rfl,h3⟩;have M3:=hid (M2.o.after h3);have wT:=hid (BL.o.grown h3.2 (by simpa using nm));clear h3 M2 BL cP;go_wp2_with fail;refine (F5 m g vq ao cap L (Rf.proper x d) V3 M3.o.1).mono ?_;rintro e V4 ⟨rfl,h4⟩;have M4:=hid (M3.o.after h4);have OX:=hid (wT.o.grown h4.2 (by simpa using nm))
  have l1:=OX.o.cell 1;have l2:=OX.o.cell 2;simp only [bB,yml,bf] at l1 l2;clear h4 M3 wT;have D4:=hid (H.o.kD (ts:=pO) M4.o ((Rf.iy _ _).trans (Rf.og _ _)) ((Gl _ _).trans (WM _ _)) (by simp));obtain ⟨⟨VX,Wj,Wi,h4⟩,-,-⟩:=D4.o;have H4:=hid h4;clear h4;go_wp2_with fail;refine (Xq B m g ao cap L (Rf.step L (Rf.proper x d)) x.text x.at_ V4 _ _ _ _ _ _ _ H4.o AT).mono ?_;rintro e V5 ⟨rfl,h5⟩;have D5:=hid (D4.o.after h5 (fun t ht=>ht));clear h5;go_wp2;go_ret;rw [R.o];exact ⟨rfl,D5.o⟩
 ·rw [if_neg c1] at R;have e1:((x.kind:Int) == 119)=false:=by simp; omega
  have e2:((x.kind:Int) != 119)=true:=by simp; omega
  clear c1;go_wp2_with fail;generalize V1.alloc (.cells #[.int .u8 x.kind,.int .i64 x.at_,.string (bs x.text),.int .i64 x.num,.int .i64 x.e] 69)=V2 at *;refine (yL m g vq ao cap L d 3 x.at_ V2 M2.o.1 (by decide) AT).mono ?_;rintro e V3 ⟨rfl,h3⟩;have D3:=hid (H.o.kD (ts:=pO) (M2.o.after h3) (yq _ _ _).2 (yq _ _ _).1 (by simp));clear h3;go_wp2;go_ret;rw [R.o];exact ⟨rfl,D3.o⟩
theorem Xt (B m g:Nat) (ao:Option Addr) (cap:Nat) (L:List Rf.Tk) (d:Rf.Ds) (W:World) (h:rJ B m g ao cap L d W) :
  Calls Tryz.prog 73 #[.pointer (some ⟨m,0,none⟩)] W fun en W'=>en = .returned (.int .i64 (Rf.sym L d).1)/\yO B m g ao cap L pO W (Rf.sym L d).2 W':=by
 obtain ⟨vq,vt,vf,vd,va,vs,vr,h⟩:=h;exact (UJ B m g ao cap L d W vq vt vf vd va vs vr h).mono fun e W' k=>⟨k.1,k.2.does⟩
theorem Xp (B m g:Nat) (ao:Option Addr) (cap:Nat) (L:List Rf.Tk) (d:Rf.Ds) (W:World) (vq0 vt vf vd va TJ VZ:Value) (h:Mo B m g ao cap L d W vq0 vt vf vd va TJ VZ) :
  Calls Tryz.prog 74 #[.pointer (some ⟨m,0,none⟩)] W fun en W'=>en = .returned (.tuple #[.int .i64 (Rf.added L d).1.1,.int .i64 (Rf.added L d).1.2])/\qX B m g ao cap L pO W (Rf.added L d).2 W' vt vf vd va:=by
 have cS:=hid (UJ B m g ao cap L d W _ _ _ _ _ _ _ h);have RX:=hid (show Rf.added L d=if (Rf.tk L (Rf.sym L d).2).kind=43 then (((Rf.sym L d).1,(Rf.num L 0 2047 (Rf.step L (Rf.sym L d).2)).1),(Rf.num L 0 2047 (Rf.step L (Rf.sym L d).2)).2) else if (Rf.tk L (Rf.sym L d).2).kind=45 then (((Rf.sym L d).1,-(Rf.num L 0 2048 (Rf.step L (Rf.sym L d).2)).1),(Rf.num L 0 2048 (Rf.step L (Rf.sym L d).2)).2) else (((Rf.sym L d).1,0),(Rf.sym L d).2) from rfl);generalize Rf.added L d=D at *;generalize Rf.sym L d=D0 at *;clear h;go_enter Tryz.func74,Tryz.ntmps74;go_wp2_with fail;refine cS.o.mono ?_;rintro e V1 ⟨rfl,h1⟩
 have D1:=hid h1;obtain ⟨⟨vq,vs,vr,hm⟩,-,-⟩:=h1;have HM:=hid hm;obtain ⟨x,hx⟩:∃ x,Rf.tk L D0.2=x:=⟨_,rfl⟩
 have R:=hid RX.o;rw [hx] at R;have cT:=hid (fun (V:World) (hV:Md m g vq ao cap L D0.2 V)=>(show Calls Tryz.prog 25 #[.pointer (some ⟨m,0,none⟩)] V (fun en W'=>en = .returned (jg x)/\V.grownBy W' none) from by rw [<- hx]; exact zo m g vq ao cap L D0.2 V hV));unfold jg at cT;clear hm hx RX cS;go_wp2_with fail;refine (cT.o V1 HM.o.md).mono ?_;rintro e V2 ⟨rfl,h2⟩;have A2:=aW V2 (.cells #[.int .u8 x.kind,.int .i64 x.at_,.string (bs x.text),.int .i64 x.num,.int .i64 x.e] 69) none;have M3:=hid (HM.o.md.does.grown (ya h2 A2));have D3:=hid (D1.o.grown (ya h2 A2));clear h2 A2 cT;by_cases Mv:x.kind=43
 ·rw [if_pos Mv] at R;have e43:((x.kind:Int) == 43)=true:=by simp [Mv]
  clear Mv;go_wp2_with fail;generalize V2.alloc (.cells #[.int .u8 x.kind,.int .i64 x.at_,.string (bs x.text),.int .i64 x.num,.int .i64 x.e] 69)=V3 at *;refine (F5 m g vq ao cap L D0.2 V3 M3.o.1).mono ?_;rintro e V4 ⟨rfl,h4⟩;have M4:=hid (M3.o.after h4);clear h4 M3;go_wp2_with fail;refine (KL m g vq ao cap L (Rf.step L D0.2) 0 2047 V4 M4.o.1).mono ?_;rintro e V5 ⟨rfl,h5⟩;have M5:=hid (M4.o.after h5);have D5:=hid (D1.o.after (HM.o.kD (ts:=pO) M5.o ((Rf.jJ _ _ _ _).trans (Rf.iy _ _)) ((Ji _ _ _ _).trans (Gl _ _)) (by simp)) (fun t ht=>ht));clear h5 M4 M5;go_wp2;go_ret2;rw [R.o];exact ⟨rfl,D5.o⟩
 rw [if_neg Mv] at R;have e43:((x.kind:Int) == 43)=false:=by simp; omega
 by_cases Mw:x.kind=45
 ·rw [if_pos Mw] at R;have e45:((x.kind:Int) == 45)=true:=by simp [Mw]
  clear Mw;go_wp2_with fail;generalize V2.alloc (.cells #[.int .u8 x.kind,.int .i64 x.at_,.string (bs x.text),.int .i64 x.num,.int .i64 x.e] 69)=V3 at *;refine (F5 m g vq ao cap L D0.2 V3 M3.o.1).mono ?_;rintro e V4 ⟨rfl,h4⟩;have M4:=hid (M3.o.after h4);clear h4 M3;go_wp2_with fail;refine (KL m g vq ao cap L (Rf.step L D0.2) 0 2048 V4 M4.o.1).mono ?_;rintro e V5 ⟨rfl,h5⟩;have M5:=hid (M4.o.after h5);have D5:=hid (D1.o.after (HM.o.kD (ts:=pO) M5.o ((Rf.jJ _ _ _ _).trans (Rf.iy _ _)) ((Ji _ _ _ _).trans (Gl _ _)) (by simp)) (fun t ht=>ht));clear h5 M4 M5;have nb:=Oz (Yc HM.o.md.ok) 0 2048;generalize Rf.num L 0 2048 (Rf.step L D0.2)=N at *
  have wn:IntKind.i64.wrap (-N.1) = -N.1:=IntWalk.i64_in _ ⟨by omega,by omega⟩;go_wp2;go_ret2;rw [R.o];exact ⟨rfl,D5.o⟩
 rw [if_neg Mw] at R;have e45:((x.kind:Int) == 45)=false:=by simp; omega
 clear Mv Mw;go_wp2;go_ret2;rw [R.o];exact ⟨rfl,D3.o⟩
theorem Xg (B m g:Nat) (ao:Option Addr) (cap:Nat) (L:List Rf.Tk) (d:Rf.Ds) (W:World) (h:rJ B m g ao cap L d W) :
  Calls Tryz.prog 74 #[.pointer (some ⟨m,0,none⟩)] W fun en W'=>en = .returned (.tuple #[.int .i64 (Rf.added L d).1.1,.int .i64 (Rf.added L d).1.2])/\yO B m g ao cap L pO W (Rf.added L d).2 W':=by
 obtain ⟨vq,vt,vf,vd,va,vs,vr,h⟩:=h;exact (Xp B m g ao cap L d W vq vt vf vd va vs vr h).mono fun e W' k=>⟨k.1,k.2.does⟩
end Go.Proofs.YtnkkepfcpjllmaaGreatDoor
