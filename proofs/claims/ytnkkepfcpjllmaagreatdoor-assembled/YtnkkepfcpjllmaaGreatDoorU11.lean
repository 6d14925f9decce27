
import Derived.Test.YtnkkepfcpjllmaaGreatDoorU10
import Derived.KernelRfl
set_option maxHeartbeats 16000000
set_option maxRecDepth 100000
namespace Go.Proofs.YtnkkepfcpjllmaaGreatDoor
namespace Rf
def tC (L:List Tk) (d:Ds):Ds:=empty ((num L 0 4800 d).1.toNat / 4) (aH (decide (¬ (num L 0 4800 d).1 % 4=0)) 8 d.op (num L 0 4800 d).2)
def pE (L:List Tk) (d:Ds):Ds :=
 if d.ah=4 then bad 9 d.op d
 else if (tk L d).kind=119 then lay 1 (added L d).1.1 (added L d).1.2 [0] (added L d).2
 else lay 0 0 0 [Int.tmod ((num L (-2147483648) 4294967295 d).1+4294967296) 4294967296] (num L (-2147483648) 4294967295 d).2
def nI (L:List Tk) (b:Int) (d:Ds):Ds :=
 let r:=sym L d
 if r.2.fe=0 then
  if r.2.said.getD r.1 false then bad 14 (tk L d).at_ r.2
  else { r.2 with said:=r.2.said.set r.1 true,obj:={ r.2.obj with syms:=r.2.obj.syms.modify r.1 fun y=>⟨y.name,b,y.ah,y.off⟩ } }
 else r.2
def raise (k:Int) (d:Ds):Ds:=if d.obj.align.getD (d.ah - 1) 0 < k then { d with obj:={ d.obj with align:=d.obj.align.set (d.ah - 1) k } } else d
def gap (n per:Nat):Nat:=(per - n % per) % per
def fQ (k:Nat) (d:Ds):Ds :=
 if d.fe=0 then
  let d1:=raise k d
  if d.ah=1\/d.ah=2 then (if 2 < k then lay 6 0 (2 ^ k - 4) (List.replicate (2 ^ k / 4 - 1) 19) d1 else d1)
  else empty (gap (As.aA d.obj d.ah).toNat (2 ^ k / 4)) d1
 else d
def rT (L:List Tk) (d:Ds):Ds:=fQ (num L 2 4 d).1.toNat (num L 2 4 d).2
def directive (L:List Tk) (w:List UInt8) (d:Ds):Ds :=
 if w=[46,116,101,120,116] then { d with ah:=1 } else
 if w=[46,102,97,114] then { d with ah:=2 } else
 if w=[46,100,97,116,97] then { d with ah:=3 } else
 if w=[46,98,115,115] then { d with ah:=4 } else
 if w=[46,103,108,111,98,108] then nI L 1 d else
 if w=[46,119,101,97,107] then nI L 2 d else
 if w=[46,119,111,114,100] then pE L d else
 if w=[46,115,112,97,99,101] then tC L d else
 if w=[46,97,108,105,103,110] then rT L d else
 bad 6 d.op d
section
variable {s:List UInt8} {L:List Tk} {d:Ds} {st:As.St}
theorem lY (n:Nat) (d:Ds):aQ d (empty n d):=fun h=>by
 unfold empty;rw [if_neg h];exact ⟨rfl,rfl⟩
theorem vI (k:Nat) (d:Ds):aQ d (fQ k d):=fun h=>by
 unfold fQ;rw [if_neg h];exact ⟨rfl,rfl⟩
theorem xw (L:List Tk) (b:Int) (d:Ds):aQ d (nI L b d):=(jv L d).trans fun h=>by
 unfold nI;simp only;rw [if_neg h];exact ⟨rfl,rfl⟩
theorem rV (s:List UInt8) (b:Int) (st:As.St):aD st (As.bind s b st):=fun h=>by
 have q:=(jT s st).trans (eB (As.name s st).1 (As.name s st).2) h;have f:(As.name s st).2.fe≠0:=by rw [(jT s st h).1]; exact h
 have e:(As.au (As.name s st).1 (As.name s st).2).1.2=false:=by
  unfold As.au As.failed;rw [if_pos (by simp [f])]
 unfold As.bind;simp only;rw [e];exact q
theorem xU (b:Int) (hb:b≠0) (h:bM s L d st):bM s L (nI L b d) (As.bind s b st):=by
 by_cases hd:d.fe=0
 ·obtain ⟨q1,q2,q3⟩:=xV h;have w:=h.word hd;unfold nI As.bind;simp only;by_cases hf:(sym L d).2.fe=0
  ·rw [if_pos hf,q2 hf];have kw:(tk L d).kind=119:=by
    by_cases c:(tk L d).kind=119
    ·exact c
    ·have e:sym L d=(0,bad 3 (tk L d).at_ d):=by unfold sym; rw [if_neg c]
     rw [e] at hf;exact absurd hf (bH 3 _ (by decide) d)
   have tp:(As.name s st).1.pos=(tk L d).at_:=by
    have k1:=w.1.2 kw;have n:As.name s st=(st.tok,As.advance s (As.aP st.tok st)):=by unfold As.name; rw [if_pos (by simp [k1])]
    rw [n,w.2.2.2.2.2.1]
   generalize sym L d=R at *;generalize As.au (As.name s st).1 (As.name s st).2=R' at *;simp only [Bool.not_true,Bool.false_eq_true,if_false];have sd:=q1.said hf;have ob:=q1.obj hf;have sg:R.2.said.getD R.1 false=decide (((R.2.obj.syms[R.1]?).map (·.bind)).getD 0≠0):=by
    rw [sd,List.getD_eq_getElem?_getD,List.getElem?_map]
    cases R.2.obj.syms[R.1]? with
    | none=>rfl
    | some y=>rfl
   rw [sg,ob];by_cases c:((R.2.obj.syms[R.1]?).map (·.bind)).getD 0≠0
   ·rw [decide_eq_true c,if_pos rfl,if_pos c,tp];exact eZ 14 _ (by decide) q1
   ·rw [decide_eq_false c,if_neg (by decide),if_neg c];have p:=q1.put { R.2.obj with syms:=R.2.obj.syms.modify R.1 fun y=>⟨y.name,b,y.ah,y.off⟩ } (R.2.said.set R.1 true) (by simp; exact q1.syms hf) (q1.aj hf) (by
     rw [sd];apply List.ext_getElem?;intro i;rw [List.getElem?_set,List.getElem?_map,List.getElem?_map,List.getElem?_modify];by_cases e:R.1=i
     ·subst e
      cases g:R.2.obj.syms[R.1]? with
      | none=>simp [List.getElem?_eq_none_iff.1 g]
      | some y =>
       have lt:=(List.getElem?_eq_some_iff.1 g).1;simp [lt,hb]
     ·simp [e])
    unfold As.lH;rw [ob];exact p
  ·rw [if_neg hf,q3 hf];exact q1
 ·exact h.stays hd (rV _ _ _) (xw _ _ _)
theorem vC (n:Nat) (h:bM s L d st):bM s L (empty n d) (As.lay (List.replicate n 0) st):=by
 by_cases hd:d.fe=0
 ·unfold empty;rw [if_pos hd];by_cases c:d.ah=4
  ·rw [if_pos c];have hf:As.failed st=false:=by unfold As.failed; simp [h.fe,hd]
   have ho:=h.op hd;obtain ⟨p,tok,fe,fa,op,ah,obj⟩:=st;obtain rfl:obj=d.obj:=h.obj hd;obtain rfl:ah=d.ah:=h.ah hd;simp only at ho;unfold nothing As.lay;simp only;rw [hf,c,ho];have l4:As.limit 4=64:=rfl;have s4:As.aA d.obj 4=d.obj.bss:=rfl;rw [l4,s4,List.length_replicate];simp only [Bool.false_eq_true,if_false];by_cases c2:64 < d.obj.bss+n
   ·have e:aH (decide (64 < d.obj.bss+(n:Int))) 13 d.op d=bad 13 d.op d:=by unfold aH; rw [decide_eq_true c2]; rfl
    rw [e,if_neg (bH 13 _ (by decide) d),if_pos (by omega)];rw [c] at h;exact eZ 13 _ (by decide) h
   ·have e:aH (decide (64 < d.obj.bss+(n:Int))) 13 d.op d=d:=by unfold aH; rw [decide_eq_false c2]; rfl
    rw [e,if_pos hd,if_neg (by omega)];have a4:As.aB d.obj 4 (List.replicate n 0)={ d.obj with bss:=d.obj.bss+n }:=by
     unfold As.aB;simp
    rw [a4];rw [c] at h;exact h.put { d.obj with bss:=d.obj.bss+n } d.said (h.syms hd) (h.aj hd) (h.said hd)
  ·rw [if_neg c]
   have:=h.secs hd
   exact wu _ h (fun _=>by omega) 0 0
 ·exact h.stays hd (dw _ _) (lY _ _)
theorem xW (s:List UInt8) (st:As.St):aD st (As.space s st):=by
 unfold As.space;simp only;split
 ·exact (bW _ _ _ _).trans (dw _ _)
 ·exact (bW _ _ _ _).trans (bE _ _ _)
theorem Ec (e a:Nat) (d:Ds):(bad e a d).op=d.op:=by unfold bad; split <;> rfl
theorem xu (c:Bool) (e a:Nat) (d:Ds):(aH c e a d).op=d.op:=by unfold aH; split; exact Ec _ _ _; rfl
theorem Bt (L:List Tk) (d:Ds):(step L d).op=d.op:=by unfold step look; rw [xu]; split <;> rfl
theorem sM (L:List Tk) (neg:Bool) (pos:Nat) (lo hi:Int) (d:Ds):(bP L neg pos lo hi d).2.op=d.op:=by
 unfold bP;split
 ·exact (Bt _ _).trans (xu _ _ _ _)
 ·exact Ec _ _ _
theorem ER (L:List Tk) (lo hi:Int) (d:Ds):(num L lo hi d).2.op=d.op:=by
 unfold num;split
 ·exact (sM _ _ _ _ _ _).trans (Bt _ _)
 ·exact sM _ _ _ _ _ _
theorem nN (L:List Tk) (neg:Bool) (pos:Nat) (lo hi:Int) (d:Ds) (h:(bP L neg pos lo hi d).2.fe=0):lo<=(bP L neg pos lo hi d).1/\(bP L neg pos lo hi d).1<=hi:=by
 unfold bP at h ⊢;by_cases c:(tk L d).kind=110
 ·rw [if_pos c] at h ⊢;have f:=(dD L _).back h;generalize (if neg=true then -((tk L d).num:Int) else ((tk L d).num:Int))=v at *;by_cases e:v < lo\/hi < v
  ·rw [decide_eq_true e] at f;exact absurd f (bH 8 pos (by decide) d)
  ·exact ⟨by omega,by omega⟩
 ·rw [if_neg c] at h;exact absurd h (bH 3 _ (by decide) d)
theorem pX (L:List Tk) (lo hi:Int) (d:Ds) (h:(num L lo hi d).2.fe=0):lo<=(num L lo hi d).1/\(num L lo hi d).1<=hi:=by
 unfold num at h ⊢;split
 ·rw [if_pos (by assumption)] at h; exact nN _ _ _ _ _ _ h
 ·rw [if_neg (by assumption)] at h; exact nN _ _ _ _ _ _ h
theorem Df (h:bM s L d st):bM s L (tC L d) (As.space s st):=by
 have a:=kG 0 4800 h;have op:=ER L 0 4800 d;have rg:=pX L 0 4800 d;unfold tC As.space;simp only;rw [<- op];generalize num L 0 4800 d=A at *;generalize As.number s 0 4800 st=A' at *;by_cases hd:A.2.fe=0
 ·have e:=a.eq hd;have r:=rg hd;rw [<- e];by_cases c:A.1 % 4=0
  ·have z:aH (decide (¬ A.1 % 4=0)) 8 A.2.op A.2=A.2:=by unfold aH; rw [decide_eq_false (fun x=>x c)]; rfl
   rw [z,if_pos c,show (A.1 / 4).toNat=A.1.toNat / 4 by omega];exact vC _ a.jK
  ·have z:aH (decide (¬ A.1 % 4=0)) 8 A.2.op A.2=bad 8 A.2.op A.2:=by unfold aH; rw [decide_eq_true c]; rfl
   rw [z,if_neg c,a.jK.op hd];exact (eZ 8 _ (by decide) a.jK).stays (bH 8 _ (by decide) _) aD.refl (lY _ _)
 ·refine a.jK.stays hd ?_ ((gy _ _ _ _).trans (lY _ _));split
  ·exact dw _ _
  ·exact bE _ _ _
theorem tK (s:List UInt8) (st:As.St):aD st (As.word s st):=by
 unfold As.word;simp only;split
 ·exact (jL _ _).trans (eO _ _ _ _ _)
 ·exact (bW _ _ _ _).trans (dw _ _)
theorem y9 (L:List Tk) (d:Ds):aQ d (pE L d):=by
 unfold pE;split
 ·exact fP _ _ _
 split
 ·exact (jC _ _).trans (bY _ _ _ _ _)
 ·exact (iE _ _ _ _).trans (bY _ _ _ _ _)
theorem Fu (h:bM s L d st) (h4:d.fe=0->¬ d.ah=4):bM s L (pE L d) (As.word s st):=by
 by_cases hd:d.fe=0
 ·have w:=(h.word hd).1;have sc:=h.secs hd;have n4:=h4 hd;unfold pE As.word;rw [if_neg n4];by_cases c:(tk L d).kind=119
  ·have a:=mW h;have k1:=w.2 c;rw [if_pos c,if_pos (by simpa using k1)];refine Il 1 (by decide) _ _ _ _ _ _ a.jK (fun x=>by rw [jO]; omega) fun hd2=>?_
   rw [a.eq hd2];exact ⟨rfl,rfl,rfl⟩
  ·have a:=kG (-2147483648) 4294967295 h;have rg:=pX L (-2147483648) 4294967295 d;rw [if_neg c,if_neg (by simpa using fun x=>c (w.1 x))];refine Ai _ _ a.jK (fun x=>by rw [jU]; omega) 0 0 fun hd2=>?_
   have r:=rg hd2;rw [<- a.eq hd2];have e:Int.tmod ((num L (-2147483648) 4294967295 d).1+4294967296) 4294967296=(num L (-2147483648) 4294967295 d).1 % 4294967296:=by
    rw [Int.tmod_eq_emod_of_nonneg (by omega)];omega
   rw [e]
 ·exact h.stays hd (tK _ _) (y9 _ _)
end
end Rf
end Go.Proofs.YtnkkepfcpjllmaaGreatDoor

namespace Go.Proofs.YtnkkepfcpjllmaaGreatDoor
namespace Rf
section
variable {s:List UInt8} {L:List Tk} {d:Ds} {st:As.St}
theorem CO (k:Int) (h:bM s L d st):bM s L (raise k d) (As.aC k st):=by
 by_cases hd:d.fe=0
 ·obtain ⟨p,tok,fe,fa,op,ah,obj⟩:=st;obtain rfl:obj=d.obj:=h.obj hd;obtain rfl:ah=d.ah:=h.ah hd;unfold raise As.aC;simp only [List.getD_eq_getElem?_getD];split
  ·exact h.put { d.obj with align:=d.obj.align.set (d.ah - 1) k } d.said (h.syms hd) (h.aj hd) (h.said hd)
  ·exact h
 ·refine h.stays hd ?_ ?_
  ·unfold As.aC;exact aD.ite (fun _=>⟨rfl,rfl⟩) aD.refl
  ·unfold raise;exact aQ.ite (fun _=>⟨rfl,rfl⟩) aQ.refl
def up (ah:Nat) (k:Int) (o:Lk.Obj):Lk.Obj:=if (o.align[ah - 1]?).getD 0 < k then { o with align:=o.align.set (ah - 1) k } else o
theorem dN (k:Int) (st:As.St):As.aC k st={ st with obj:=up st.ah k st.obj }:=by
 unfold As.aC up;split <;> rfl
theorem wG (ah:Nat) (k:Int) (o:Lk.Obj):(up ah k o).text=o.text/\(up ah k o).far=o.far/\(up ah k o).data=o.data/\(up ah k o).bss=o.bss/\(up ah k o).syms=o.syms/\(up ah k o).aj=o.aj:=by
 unfold up;split <;> exact ⟨rfl,rfl,rfl,rfl,rfl,rfl⟩
theorem ny (ah:Nat) (k:Int) (o:Lk.Obj) (z:Nat):As.aA (up ah k o) z=As.aA o z:=by
 obtain ⟨a,b,c,e,-⟩:=wG ah k o;unfold As.aA;rw [a,b,c,e]
theorem up_add (ah:Nat) (k:Int) (o:Lk.Obj) (z:Nat) (ws:List Int):As.aB (up ah k o) z ws=up ah k (As.aB o z ws):=by
 unfold up As.aB;by_cases c:(o.align[ah - 1]?).getD 0 < k
 ·rw [if_pos c]
  (repeat' split) <;> first | rfl | (rename_i h; exact absurd c h)
 ·rw [if_neg c]
  (repeat' split) <;> first | rfl | (rename_i h; exact absurd h c)
theorem Iq (ah:Nat) (k:Int) (o:Lk.Obj) (q:List Lk.Rel):({ up ah k o with aj:=q }:Lk.Obj)=up ah k { o with aj:=q }:=by
 unfold up;simp only;split <;> rfl
theorem vg (e a:Nat) (k:Int) (st:As.St):As.refuse e a (As.aC k st)=As.aC k (As.refuse e a st):=by
 rw [dN,dN];unfold As.refuse As.failed;split <;> rfl
theorem Eu (ws:List Int) (k:Int) (st:As.St):As.lay ws (As.aC k st)=As.aC k (As.lay ws st):=by
 have r:=vg 13 st.op.pos k st;rw [dN k st] at r ⊢;unfold As.lay;simp only [ny];split
 ·exact r
 ·have hf:As.failed { st with obj:=up st.ah k st.obj }=As.failed st:=rfl;rw [hf];split
  ·rw [dN]
  ·rw [dN,up_add]
theorem zR (kind:Int) (sy:Nat) (add:Int) (ws:List Int) (k:Int) (st:As.St):As.bG kind sy add ws (As.aC k st)=As.aC k (As.bG kind sy add ws st):=by
 have r:=vg 12 st.op.pos k st;have l:=fun q=>Eu ws k { st with obj:={ st.obj with aj:=q } }
 have u:=wG st.ah k st.obj;unfold As.bG As.aJ;have e1:(As.aC k st).obj.aj=st.obj.aj:=by rw [dN]; exact u.2.2.2.2.2
 have e2:(As.aC k st).op=st.op:=by rw [dN]
 rw [e1,e2];by_cases c:32<=st.obj.aj.length
 ·rw [decide_eq_true c];simp only [if_true];have hf:As.failed (As.refuse 12 st.op.pos (As.aC k st))=As.failed (As.refuse 12 st.op.pos st):=by
   rw [r,dN];rfl
  have nf:As.failed (As.refuse 12 st.op.pos st)=true:=by
   unfold As.refuse As.failed;split
   ·assumption
   ·rfl
  rw [hf,nf];simp only [if_true];exact r
 ·rw [decide_eq_false c];simp only [Bool.false_eq_true,if_false];have hf:As.failed (As.aC k st)=As.failed st:=by rw [dN]; rfl
  rw [hf];split
  ·rfl
  ·rw [<- l]
   congr 1
   rw [dN,dN,ny];simp only;rw [Iq,u.2.2.2.2.2]
theorem rU (b:Nat) (k:Int) (st:As.St):As.dA b (As.aC k st)=As.aC k (As.dA b st):=by
 have e:(As.aC k st).ah=st.ah:=by rw [dN]
 have e2:As.aA (As.aC k st).obj st.ah=As.aA st.obj st.ah:=by rw [dN]; exact ny _ _ _ _
 unfold As.dA;rw [e,e2];split
 ·split
  ·exact zR _ _ _ _ _ _
  ·rfl
 ·exact Eu _ _ _
theorem Ac (k:Int) (d:Ds):(raise k d).ah=d.ah:=by unfold raise; split <;> rfl
theorem JU (n:Int) (k:Nat) (hn:0<=n) (hk:k=2\/k=3\/k=4):((((2 ^ k:Nat):Int) - 4 * n % ((2 ^ k:Nat):Int)) % ((2 ^ k:Nat):Int) / 4).toNat=gap n.toNat (2 ^ k / 4):=by
 unfold gap;rcases hk with rfl | rfl | rfl <;> simp only [Nat.reducePow,Nat.reduceDiv] <;> omega
theorem nR (o:Lk.Obj) (z:Nat) (hb:0<=o.bss):0<=As.aA o z:=by
 unfold As.aA
 (repeat' split) <;> omega
theorem xk (s:List UInt8) (st:As.St):aD st (As.align s st):=fun h=>by
 have q:=bW s 2 4 st h;unfold As.align;simp only;rw [if_pos (by unfold As.failed; simp [q.1,h])];exact q
theorem jJ (L:List Tk) (lo hi:Int) (d:Ds):(num L lo hi d).2.obj=d.obj:=by
 have b:∀ e a d,(bad e a d).obj=d.obj:=fun e a d=>by unfold bad; split <;> rfl
 have bi:∀ c e a d,(aH c e a d).obj=d.obj:=fun c e a d=>by unfold aH; split; exact b _ _ _; rfl
 have sp:∀ d,(step L d).obj=d.obj:=fun d=>by unfold step look; rw [bi]; split <;> rfl
 have nf:∀ neg pos d,(bP L neg pos lo hi d).2.obj=d.obj:=fun neg pos d=>by
  unfold bP;split
  ·exact (sp _).trans (bi _ _ _ _)
  ·exact b _ _ _
 unfold num;split
 ·exact (nf _ _ _).trans (sp _)
 ·exact nf _ _ _
theorem CX (hb:d.fe=0->0<=d.obj.bss) (h:bM s L d st):bM s L (rT L d) (As.align s st):=by
 have a:=kG 2 4 h;have rg:=pX L 2 4 d;have ob:=jJ L 2 4 d;have wy:=pz L 2 4 d;unfold rT As.align;simp only;by_cases hd:(num L 2 4 d).2.fe=0
 ·have e:=a.eq hd;have r:=rg hd;have b0:=hb (wy.st.back hd);rw [<- ob] at b0;generalize num L 2 4 d=A at *;generalize As.number s 2 4 st=A' at *;have hf:As.failed A'.2=false:=by unfold As.failed; simp [a.jK.fe,hd]
  rw [hf,<- e,<- rU];simp only [Bool.false_eq_true,if_false];obtain ⟨k,hk⟩:∃ k:Nat,A.1=k:=⟨A.1.toNat,by omega⟩
  rw [hk];have kk:k=2\/k=3\/k=4:=by omega
  have S:=CO (k:Int) a.jK;have rs:=Ac (k:Int) A.2;have Zp:(raise (k:Int) A.2).fe=0:=by unfold raise; split <;> exact hd
  have se:=S.ah Zp;have sl:As.aA (As.aC (k:Int) A'.2).obj A.2.ah=As.aA A.2.obj A.2.ah:=by rw [dN,ny,a.jK.obj hd]
  unfold fQ As.dA;rw [if_pos hd];simp only [Int.toNat_natCast];rw [se,rs,sl];by_cases c:A.2.ah=1\/A.2.ah=2
  ·have ic:As.gL A.2.ah=true:=by unfold As.gL; rcases c with c | c <;> simp [c]
   rw [ic,if_pos c];simp only [if_true];rcases kk with rfl | rfl | rfl
   ·exact S
   ·exact kF 6 (by decide) 0 4 [19] S (fun _=>by rw [rs]; omega)
   ·exact kF 6 (by decide) 0 12 [19,19,19] S (fun _=>by rw [rs]; omega)
  ·have sc:=a.jK.secs hd;have ic:As.gL A.2.ah=false:=by
    unfold As.gL;have h1:A.2.ah≠1:=fun x=>c (.inl x)
    have h2:A.2.ah≠2:=fun x=>c (.inr x)
    simp [h1,h2]
   rw [ic,if_neg c,JU _ k (nR _ _ b0) kk];simp only [Bool.false_eq_true,if_false];exact vC _ S
 ·generalize num L 2 4 d=A at *;generalize As.number s 2 4 st=A' at *;have hf:As.failed A'.2=true:=by unfold As.failed; simp [a.jK.fe,hd]
  rw [hf];exact a.jK.stays hd aD.refl (vI _ _)
end
end Rf
end Go.Proofs.YtnkkepfcpjllmaaGreatDoor

namespace Go.Proofs.YtnkkepfcpjllmaaGreatDoor
namespace As
theorem o8 (f:UInt8->Bool) (s:List UInt8) (p:Nat):p<=skip f s p:=by unfold skip; omega
theorem Ag (s:List UInt8) (p:Nat):p<=(gU s p).2.2:=by
 unfold gU;split
 ·simp
 split
 ·exact o8 _ _ _
 ·exact o8 _ _ _
theorem CF (s:List UInt8) (q:Nat):q<=(gN s q).2.2:=by
 unfold gN;split
 ·exact Nat.le_refl _
 split
 ·exact Nat.le_refl _
 split
 ·exact Ag s q
 split
 ·exact o8 _ _ _
 split
 ·exact Nat.le_succ _
 ·exact Nat.le_refl _
theorem Bh (s:List UInt8) (p:Nat):p<=(next s p).2.2:=Nat.le_trans (o8 _ s p) (CF s _)
theorem eG (e pos:Nat) (st:St):(refuse e pos st).p=st.p:=by unfold refuse; split <;> rfl
theorem jm (c:Bool) (e pos:Nat) (st:St):(aJ c e pos st).p=st.p:=by unfold aJ; split; exact eG _ _ _; rfl
theorem fH (s:List UInt8) (st:St):st.p<=(advance s st).p:=by
 unfold advance;split
 ·exact Nat.le_refl _
 split
 ·exact Bh s st.p
 ·rw [eG]; exact Bh s st.p
theorem qA (s:List UInt8) (st:St):st.p<=(aU s st).2.p:=by
 unfold aU;split
 ·exact fH s st
 ·exact Nat.le_refl _
theorem qj (t:Tok) (st:St):(aP t st).p=st.p:=by unfold aP; rw [jm,jm,jm]
theorem kL (t:Tok) (st:St):(au t st).2.p=st.p:=by
 unfold au;split
 ·rfl
 split
 ·rfl
 split
 ·exact eG _ _ _
 ·rfl
theorem Ht (t:Tok) (st:St):(label t st).p=st.p:=by
 unfold label;dsimp only;have h:=kL t (aP t st);rw [qj] at h;split
 ·exact h
 split
 ·rw [eG]; exact h
 ·exact h
theorem Bd (s:List UInt8) (st:St):st.p<=(name s st).2.p:=by
 unfold name;split
 ·have:=fH s (aP st.tok st); rw [qj] at this; exact this
 ·rw [eG]; exact Nat.le_refl _
theorem GH (s:List UInt8) (b:Int) (st:St):st.p<=(bind s b st).p:=by
 unfold bind;dsimp only;have h:=kL (name s st).1 (name s st).2;have h2:=Bd s st;split
 ·omega
 split
 ·rw [eG]; omega
 ·show _<=(au (name s st).1 (name s st).2).2.p; omega
theorem eu (s c:List UInt8) (st:St):st.p<=(sign s c st).p:=by
 unfold sign;split
 ·exact fH s st
 ·rw [eG]; exact Nat.le_refl _
theorem aY (s:List UInt8) (st:St):st.p<=(register s st).2.p:=by
 unfold register;split
 ·split
  ·rw [eG]; exact Nat.le_refl _
  ·exact fH s st
 ·rw [eG]; exact Nat.le_refl _
theorem nO (s:List UInt8) (neg:Bool) (pos:Nat) (lo hi:Int) (st:St):st.p<=(aN s neg pos lo hi st).2.p:=by
 unfold aN;generalize (if neg then -(st.tok.n:Int) else (st.tok.n:Int))=x;split
 ·by_cases h:x < lo\/hi < x
  ·rw [if_pos h,eG]; exact Nat.le_refl _
  ·rw [if_neg h]; exact fH s st
 ·rw [eG]; exact Nat.le_refl _
theorem fC (s:List UInt8) (lo hi:Int) (st:St):st.p<=(number s lo hi st).2.p:=by
 unfold number;split
 ·exact Nat.le_trans (fH s st) (nO _ _ _ _ _ _)
 ·exact nO _ _ _ _ _ _
theorem mY (s:List UInt8) (st:St):st.p<=(symbol s st).2.p:=by
 unfold symbol;dsimp only;rw [kL];exact Bd s st
theorem nu (s:List UInt8) (st:St):st.p<=(target s st).2.p:=by
 unfold target;dsimp only;have h:=mY s st;split
 ·exact Nat.le_trans h (Nat.le_trans (fH s _) (fC _ _ _ _))
 split
 ·exact Nat.le_trans h (Nat.le_trans (fH s _) (fC _ _ _ _))
 ·exact h
theorem sQ (s:List UInt8) (st:St):st.p<=(place s st).2.p :=
 Nat.le_trans (fC s _ _ st) (Nat.le_trans (eu s _ _) (Nat.le_trans (aY s _) (eu s _ _)))
theorem uW (ws:List Int) (st:St):(lay ws st).p=st.p:=by
 unfold lay;split
 ·exact eG _ _ _
 split <;> rfl
theorem jM (kind:Int) (sym:Nat) (addend:Int) (ws:List Int) (st:St):(bG kind sym addend ws st).p=st.p:=by
 unfold bG;dsimp only;split
 ·exact jm _ _ _ _
 ·rw [uW]; exact jm _ _ _ _
theorem gX (op rd bK dJ:Nat) (n:Int) (st:St):(dR op rd bK dJ n st).p=st.p:=uW _ _
theorem lC (reg op rd bK dJ:Nat) (n:Int) (sym:Nat) (addend:Int) (st:St):(bR reg op rd bK dJ n sym addend st).p=st.p:=by
 unfold bR; rw [jM,jm]
theorem kN {a b c:Nat} (h:a<=b) (k:b<=c):a<=c:=Nat.le_trans h k
theorem wE (s:List UInt8) (op:Nat) (st:St):st.p<=(bA s op st).p:=by
 unfold bA; dsimp only; rw [gX];exact kN (aY s st) (kN (eu s _ _) (kN (aY s _) (kN (eu s _ _) (aY s _))))
theorem uN (s:List UInt8) (op:Nat) (st:St):st.p<=(bC s op st).p:=by
 unfold bC; dsimp only; rw [gX];exact kN (aY s st) (kN (eu s _ _) (kN (aY s _) (kN (eu s _ _) (fC s _ _ _))))
theorem FJ (s:List UInt8) (st:St):st.p<=(upper s st).p:=by
 unfold upper; dsimp only; rw [gX];exact kN (aY s st) (kN (eu s _ _) (fC s _ _ _))
theorem Hw (s:List UInt8) (st:St):st.p<=(load s st).p:=by
 unfold load; dsimp only;split
 ·rw [lC]; exact kN (aY s st) (kN (eu s _ _) (nu s _))
 ·rw [gX]; exact kN (aY s st) (kN (eu s _ _) (sQ s _))
theorem FD (s:List UInt8) (st:St):st.p<=(store s st).p:=by
 unfold store; dsimp only;split
 ·rw [lC]; exact kN (aY s st) (kN (eu s _ _) (kN (nu s _) (kN (eu s _ _) (aY s _))))
 ·rw [gX]; exact kN (aY s st) (kN (eu s _ _) (sQ s _))
theorem sJ (s:List UInt8) (st:St):st.p<=(bS s st).p:=by
 unfold bS; dsimp only; rw [lC];exact kN (aY s st) (kN (eu s _ _) (nu s _))
theorem qK (s:List UInt8) (st:St):st.p<=(bN s st).p:=by
 unfold bN; dsimp only; rw [gX];exact kN (aY s st) (kN (eu s _ _) (sQ s _))
theorem JG (st:St):(bare st).p=st.p:=by
 unfold bare;split
 ·exact gX ..
 split
 ·exact gX ..
 split
 ·exact gX ..
 ·rfl
theorem Co (s:List UInt8) (op:Nat) (st:St):st.p<=(branch s op st).p:=by
 unfold branch; dsimp only; rw [jM];exact kN (aY s st) (kN (eu s _ _) (kN (aY s _) (kN (eu s _ _) (mY s _))))
theorem sH (s:List UInt8) (rd:Nat) (st:St):st.p<=(fE s rd st).p:=by
 unfold fE; dsimp only; rw [jM];exact mY s st
theorem xD (s:List UInt8) (st:St):st.p<=(eX s st).p:=by
 unfold eX; dsimp only;exact kN (aY s st) (kN (eu s _ _) (sH s _ _))
theorem H9 (s:List UInt8) (st:St):st.p<=(move s st).p:=by
 unfold move; dsimp only; rw [gX];exact kN (aY s st) (kN (eu s _ _) (aY s _))
theorem uo (s:List UInt8) (st:St):st.p<=(bZ s st).p:=by
 unfold bZ; dsimp only;split
 ·rw [gX]; exact kN (aY s st) (kN (eu s _ _) (fC s _ _ _))
 ·rw [uW]; exact kN (aY s st) (kN (eu s _ _) (fC s _ _ _))
theorem GL (s:List UInt8) (st:St):st.p<=(call s st).p:=by
 unfold call; dsimp only; rw [jM];exact mY s st
theorem CW (st:St):(dz st).p=st.p:=by
 unfold dz
 repeat' split
 all_goals rfl
theorem Ir (s:List UInt8) (st:St):st.p<=(word s st).p:=by
 unfold word; dsimp only;split
 ·rw [jM]; exact nu s st
 ·rw [uW]; exact fC s _ _ st
theorem Fw (s:List UInt8) (st:St):st.p<=(space s st).p:=by
 unfold space; dsimp only;split
 ·rw [uW]; exact fC s _ _ st
 ·rw [eG]; exact fC s _ _ st
theorem uG (k:Int) (st:St):(aC k st).p=st.p:=by unfold aC; split <;> rfl
theorem Cj (b:Nat) (st:St):(dA b st).p=st.p:=by
 unfold dA;split
 ·split
  ·exact jM _ _ _ _ _
  ·rfl
 ·exact uW _ _
theorem Eb (s:List UInt8) (st:St):st.p<=(align s st).p:=by
 unfold align; dsimp only;split
 ·exact fC s _ _ st
 ·rw [uG,Cj]; exact fC s _ _ st
theorem su (s:List UInt8) (shape op:Nat) (st:St):st.p<=(instruction s shape op st).p:=by
 unfold instruction;by_cases h:shape=1
 ·rw [if_pos h]; exact wE _ _ _
 rw [if_neg h];clear h;by_cases h:shape=2
 ·rw [if_pos h]; exact uN _ _ _
 rw [if_neg h];clear h;by_cases h:shape=3
 ·rw [if_pos h]; exact FJ _ _
 rw [if_neg h];clear h;by_cases h:shape=4
 ·rw [if_pos h]; exact Hw _ _
 rw [if_neg h];clear h;by_cases h:shape=5
 ·rw [if_pos h]; exact FD _ _
 rw [if_neg h];clear h;by_cases h:shape=6
 ·rw [if_pos h]; exact qK _ _
 rw [if_neg h];clear h;by_cases h:shape=7
 ·rw [if_pos h]; rw [JG]; exact Nat.le_refl _
 rw [if_neg h];clear h;by_cases h:shape=8
 ·rw [if_pos h]; exact Co _ _ _
 rw [if_neg h];clear h;by_cases h:shape=9
 ·rw [if_pos h]; exact xD _ _
 rw [if_neg h];clear h;by_cases h:shape=10
 ·rw [if_pos h]; exact sH _ _ _
 rw [if_neg h];clear h;by_cases h:shape=11
 ·rw [if_pos h]; exact H9 _ _
 rw [if_neg h];clear h;by_cases h:shape=12
 ·rw [if_pos h]; exact uo _ _
 rw [if_neg h];clear h;by_cases h:shape=13
 ·rw [if_pos h]; exact GL _ _
 rw [if_neg h];clear h;by_cases h:shape=14
 ·rw [if_pos h]; exact sJ _ _
 rw [if_neg h];clear h;exact Nat.le_refl _
theorem vN (s:List UInt8) (shape:Nat) (st:St):st.p<=(directive s shape st).p:=by
 unfold directive;split
 ·rw [CW]; exact Nat.le_refl _
 split
 ·exact Ir _ _
 split
 ·exact Fw _ _
 split
 ·exact Eb _ _
 split
 ·exact GH _ _ _
 ·exact Nat.le_refl _
theorem vW (s:List UInt8) (t:Tok) (st:St):st.p<=(operation s t st).p:=by
 unfold operation;split
 ·rw [eG]; exact Nat.le_refl _
 split
 ·rw [eG]; exact Nat.le_refl _
 split
 ·exact su _ _ _ { st with op:=t }
 ·exact vN _ _ { st with op:=t }
theorem uY (s:List UInt8) (t:Tok) (st:St):st.p<=(gM s t st).p:=by
 unfold gM; dsimp only;have h:st.p<=(if t.kind == 1 then operation s t st else st).p:=by
  split
  ·exact vW _ _ _
  ·exact Nat.le_refl _
 generalize (if t.kind == 1 then operation s t st else st)=x at h ⊢;split
 ·exact h
 ·rw [eG]; exact h
theorem A9 (s:List UInt8) (st:St):st.p<=(line s st).p:=by
 unfold line; dsimp only;have h:=kN (fH s st) (qA s (advance s st));split
 ·refine kN h (kN (Nat.le_of_eq (Ht _ _).symm) (kN (fH s _) (kN (qA s _) (uY _ _ _))))
 ·exact kN h (uY _ _ _)
theorem qw (s:List UInt8) (st:St) (h:(bO s st).1=true):st.p < (bO s st).2.p/\(bO s st).2.p<=s.length:=by
 unfold bO at h ⊢;split at h
 ·cases h
 ·rename_i hf;rw [if_neg hf];have k:=o8 bF s st.p;unfold lineEnd at h ⊢;split at h
  ·rename_i hl;rw [if_pos hl];exact ⟨by show st.p < skip bF s st.p+1; omega,by show skip bF s st.p+1<=s.length; omega⟩
  ·cases h
end As
end Go.Proofs.YtnkkepfcpjllmaaGreatDoor

namespace Go.Proofs.YtnkkepfcpjllmaaGreatDoor
namespace As
structure Tm (o:Lk.Obj):Prop where
 text:o.text.length<=1200
 far:o.far.length<=1200
 data:o.data.length<=64
 bss:0<=o.bss/\o.bss<=64
 names:∀ y∈o.syms,y.name.length<=6
 uy:∀ r∈o.aj,r.off<=4800
theorem CV {o:Lk.Obj} (h:Tm o) (ah:Nat):aA o ah<=1200:=by
 have h1:=h.text;have h2:=h.far;have h3:=h.data;have h4:=h.bss;unfold aA
 repeat' split
 all_goals omega
theorem cu (e pos:Nat) (st:St):(refuse e pos st).obj=st.obj:=by unfold refuse; split <;> rfl
theorem je (c:Bool) (e pos:Nat) (st:St):(aJ c e pos st).obj=st.obj:=by unfold aJ; split; exact cu _ _ _; rfl
theorem dV (s:List UInt8) (st:St):(advance s st).obj=st.obj:=by
 unfold advance;split
 ·rfl
 split
 ·rfl
 ·rw [cu]
theorem lK (s:List UInt8) (st:St):(aU s st).2.obj=st.obj:=by
 unfold aU;split
 ·exact dV s st
 ·rfl
theorem nJ (t:Tok) (st:St):(aP t st).obj=st.obj:=by unfold aP; rw [je,je,je]
theorem xJ (s:List UInt8) (st:St):(name s st).2.obj=st.obj:=by
 unfold name;split
 ·show (advance s _).obj=_; rw [dV,nJ]
 ·exact cu _ _ _
theorem dG (s c:List UInt8) (st:St):(sign s c st).obj=st.obj:=by
 unfold sign;split
 ·exact dV s st
 ·exact cu _ _ _
theorem aT (s:List UInt8) (st:St):(register s st).2.obj=st.obj:=by
 unfold register;split
 ·split
  ·exact cu _ _ _
  ·exact dV _ _
 ·exact cu _ _ _
theorem mD (s:List UInt8) (neg:Bool) (pos:Nat) (lo hi:Int) (st:St):(aN s neg pos lo hi st).2.obj=st.obj:=by
 unfold aN;generalize (if neg=true then -(st.tok.n:Int) else (st.tok.n:Int))=v;split
 ·split
  ·exact cu _ _ _
  ·exact dV _ _
 ·exact cu _ _ _
theorem eY (s:List UInt8) (lo hi:Int) (st:St):(number s lo hi st).2.obj=st.obj:=by
 unfold number;split
 ·rw [mD,dV]
 ·rw [mD]
theorem pY (s:List UInt8) (st:St):(place s st).2.obj=st.obj:=by
 unfold place; dsimp only;rw [dG,aT,dG,eY]
theorem ug (e pos:Nat) (he:e≠0) (st:St):failed (refuse e pos st)=true:=by
 unfold refuse;split
 ·assumption
 ·simp [failed,he]
theorem gJ (c:Bool) (e pos:Nat) (st:St) (h:failed (aJ c e pos st)=false):failed st=false:=by
 unfold aJ at h;split at h
 ·unfold refuse at h;split at h
  ·exact h
  ·rename_i hf; simpa using hf
 ·exact h
theorem mG (c:Bool) (e pos:Nat) (he:e≠0) (st:St) (h:failed (aJ c e pos st)=false):c=false:=by
 unfold aJ at h;split at h
 ·rw [ug e pos he] at h; cases h
 ·rename_i hc; simpa using hc
theorem rY (s:List UInt8) (st:St) (h:failed (advance s st)=false):failed st=false:=by
 unfold advance at h;split at h
 ·exact h
 ·rename_i hf; simpa using hf
theorem jI (t:Tok) (st:St) (h:failed (aP t st)=false):t.text.length<=6:=by
 unfold aP at h
 have:=mG _ _ _ (by decide) _ (gJ _ _ _ _ h)
 simpa using this
theorem Bc (s:List UInt8) (st:St) (h:failed (name s st).2=false):(name s st).1.text.length<=6:=by
 unfold name at h ⊢;split at h
 ·rename_i hk;rw [if_pos hk];exact jI _ _ (rY s _ h)
 ·rename_i hk;rw [if_neg hk];exact Nat.zero_le _
theorem j4 (t:Tok) (st:St) (h:Tm st.obj) (ht:failed st=false->t.text.length<=6):Tm (au t st).2.obj:=by
 unfold au;split
 ·exact h
 rename_i hf;have hf':failed st=false:=by simpa using hf
 split
 ·exact h
 split
 ·show Tm (refuse _ _ _).obj; rw [cu]; exact h
 ·refine ⟨h.text,h.far,h.data,h.bss,fun y hy=>?_,h.uy⟩;rcases List.mem_append.1 hy with hy | hy
  ·exact h.names y hy
  ·simp at hy; subst hy; exact ht hf'
theorem mem_modify {α:Type} (l:List α) (i:Nat) (f:α->α) (y:α) (h:y∈l.modify i f):∃ x∈l,y=x\/y=f x:=by
 obtain ⟨j,hj,rfl⟩:=List.getElem_of_mem h;rw [List.getElem_modify];refine ⟨l[j]'(by simpa using hj),List.getElem_mem _,?_⟩;split
 ·exact .inr rfl
 ·exact .inl rfl
theorem vw (st:St) (i:Nat) (f:Lk.Sym->Lk.Sym) (h:Tm st.obj) (hf:∀ y,(f y).name=y.name):Tm (lH st i f).obj:=by
 refine ⟨h.text,h.far,h.data,h.bss,fun y hy=>?_,h.uy⟩;obtain ⟨x,hx,rfl | rfl⟩:=mem_modify _ _ _ _ hy
 ·exact h.names _ hx
 ·rw [hf]; exact h.names _ hx
theorem Et (t:Tok) (st:St) (h:Tm st.obj):Tm (label t st).obj:=by
 unfold label; dsimp only;have k:=j4 t (aP t st) (by rw [nJ]; exact h) (jI t st);split
 ·exact k
 split
 ·rw [cu]; exact k
 ·exact vw _ _ _ k fun _=>rfl
theorem Gz (s:List UInt8) (binding:Int) (st:St) (h:Tm st.obj):Tm (bind s binding st).obj:=by
 unfold bind; dsimp only;have k:=j4 (name s st).1 (name s st).2 (by rw [xJ]; exact h) (Bc s st);split
 ·exact k
 split
 ·rw [cu]; exact k
 ·exact vw _ _ _ k fun _=>rfl
theorem mX (s:List UInt8) (st:St) (h:Tm st.obj):Tm (symbol s st).2.obj:=j4 (name s st).1 (name s st).2 (by rw [xJ]; exact h) (Bc s st)
theorem nk (s:List UInt8) (st:St) (h:Tm st.obj):Tm (target s st).2.obj:=by
 unfold target; dsimp only;have k:=mX s st h;split
 ·rw [eY,dV]; exact k
 split
 ·rw [eY,dV]; exact k
 ·exact k
theorem xg (o:Lk.Obj) (ah:Nat) (ws:List Int) (h:Tm o) (hl:¬ 4 * limit ah < 4 * aA o ah+4 * (ws.length:Int)):Tm (aB o ah ws):=by
 unfold limit aA at hl;have h4:=h.bss;unfold aB;split
 ·rename_i e; subst e;simp at hl;exact ⟨by simp; omega,h.far,h.data,h.bss,h.names,h.uy⟩
 split
 ·rename_i e; subst e;simp at hl;exact ⟨h.text,by simp; omega,h.data,h.bss,h.names,h.uy⟩
 split
 ·rename_i e; subst e;simp at hl;exact ⟨h.text,h.far,by simp; omega,h.bss,h.names,h.uy⟩
 split
 ·rename_i e; subst e;simp at hl;exact ⟨h.text,h.far,h.data,by simp; omega,h.names,h.uy⟩
 ·exact h
theorem pV (ws:List Int) (st:St) (h:Tm st.obj):Tm (lay ws st).obj:=by
 unfold lay;split
 ·rw [cu]; exact h
 split
 ·exact h
 ·rename_i hl _;exact xg _ _ _ h hl
theorem jk (kind:Int) (sym:Nat) (addend:Int) (ws:List Int) (st:St) (h:Tm st.obj):Tm (bG kind sym addend ws st).obj:=by
 unfold bG; dsimp only;have k:Tm (aJ (decide (32<=st.obj.aj.length)) 12 st.op.pos st).obj:=by rw [je]; exact h
 split
 ·exact k
 ·refine pV _ _ ⟨k.text,k.far,k.data,k.bss,k.names,fun r hr=>?_⟩;rcases List.mem_append.1 hr with hr | hr
  ·exact k.uy r hr
  ·simp at hr; subst hr
   have:=CV k (aJ (decide (32<=st.obj.aj.length)) 12 st.op.pos st).ah
   show 4 * _<=(4800:Int)
   omega
theorem fV (op rd bK dJ:Nat) (n:Int) (st:St) (h:Tm st.obj):Tm (dR op rd bK dJ n st).obj:=pV _ _ h
theorem kI (reg op rd bK dJ:Nat) (n:Int) (sym:Nat) (addend:Int) (st:St) (h:Tm st.obj):Tm (bR reg op rd bK dJ n sym addend st).obj:=by
 unfold bR;exact jk _ _ _ _ _ (by rw [je]; exact h)
theorem fB {c:Prop} [Decidable c] {a b:St} (ha:Tm a.obj) (hb:Tm b.obj):Tm (if c then a else b).obj:=by
 by_cases h:c
 ·rw [if_pos h]; exact ha
 ·rw [if_neg h]; exact hb
section
variable (s:List UInt8) (op:Nat) (st:St) (h:Tm st.obj)
include h
theorem wD:Tm (bA s op st).obj:=by unfold bA; dsimp only; refine fV _ _ _ _ _ _ ?_; rw [aT,dG,aT,dG,aT]; exact h
theorem uM:Tm (bC s op st).obj:=by unfold bC; dsimp only; refine fV _ _ _ _ _ _ ?_; rw [eY,dG,aT,dG,aT]; exact h
theorem FI:Tm (upper s st).obj:=by unfold upper; dsimp only; refine fV _ _ _ _ _ _ ?_; rw [eY,dG,aT]; exact h
theorem Hu:Tm (load s st).obj:=by
 unfold load; dsimp only;refine fB ?_ ?_
 ·refine kI _ _ _ _ _ _ _ _ _ (nk s _ ?_); rw [dG,aT]; exact h
 ·refine fV _ _ _ _ _ _ ?_; rw [pY,dG,aT]; exact h
theorem FC:Tm (store s st).obj:=by
 unfold store; dsimp only;refine fB ?_ ?_
 ·refine kI _ _ _ _ _ _ _ _ _ ?_; rw [aT,dG]; refine nk s _ ?_; rw [dG,aT]; exact h
 ·refine fV _ _ _ _ _ _ ?_; rw [pY,dG,aT]; exact h
theorem qJ:Tm (bN s st).obj:=by unfold bN; dsimp only; refine fV _ _ _ _ _ _ ?_; rw [pY,dG,aT]; exact h
theorem Gy:Tm (bare st).obj:=by
 unfold bare;exact fB (fV _ _ _ _ _ _ h) (fB (fV _ _ _ _ _ _ h) (fB (fV _ _ _ _ _ _ h) h))
theorem Cn:Tm (branch s op st).obj:=by unfold branch; dsimp only; refine jk _ _ _ _ _ (mX s _ ?_); rw [dG,aT,dG,aT]; exact h
theorem sG (rd:Nat):Tm (fE s rd st).obj:=by unfold fE; dsimp only; exact jk _ _ _ _ _ (mX s _ h)
theorem Hz:Tm (move s st).obj:=by unfold move; dsimp only; refine fV _ _ _ _ _ _ ?_; rw [aT,dG,aT]; exact h
theorem um:Tm (bZ s st).obj:=by
 unfold bZ; dsimp only;refine fB ?_ ?_
 ·refine fV _ _ _ _ _ _ ?_; rw [eY,dG,aT]; exact h
 ·refine pV _ _ ?_; rw [eY,dG,aT]; exact h
theorem GJ:Tm (call s st).obj:=by unfold call; dsimp only; exact jk _ _ _ _ _ (mX s _ h)
theorem sI:Tm (bS s st).obj:=by unfold bS; dsimp only; refine kI _ _ _ _ _ _ _ _ _ (nk s _ ?_); rw [dG,aT]; exact h
end
theorem xC (s:List UInt8) (st:St) (h:Tm st.obj):Tm (eX s st).obj:=by unfold eX; dsimp only; refine sG s _ ?_ _; rw [dG,aT]; exact h
theorem sj (s:List UInt8) (shape op:Nat) (st:St) (h:Tm st.obj):Tm (instruction s shape op st).obj:=by
 unfold instruction;exact fB (wD s op st h) (fB (uM s op st h) (fB (FI s st h) (fB (Hu s st h) (fB (FC s st h) (fB (qJ s st h) (fB (Gy st h) (fB (Cn s op st h) (fB (xC s st h) (fB (sG s st h 0) (fB (Hz s st h) (fB (um s st h) (fB (GJ s st h) (fB (sI s st h) h)))))))))))))
theorem xS (st:St):(dz st).obj=st.obj:=by unfold dz; (repeat' split) <;> rfl
theorem vM (s:List UInt8) (shape:Nat) (st:St) (h:Tm st.obj):Tm (directive s shape st).obj:=by
 unfold directive;split
 ·rw [xS]; exact h
 split
 ·unfold word; dsimp only;split
  ·exact jk _ _ _ _ _ (nk s _ h)
  ·refine pV _ _ ?_; rw [eY]; exact h
 split
 ·unfold space; dsimp only;split
  ·refine pV _ _ ?_; rw [eY]; exact h
  ·rw [cu,eY]; exact h
 split
 ·unfold align; dsimp only;have k:Tm (number s 2 4 st).2.obj:=by rw [eY]; exact h
  split
  ·exact k
  ·have k2:Tm (dA (2 ^ (number s 2 4 st).1.toNat) (number s 2 4 st).2).obj:=by
    unfold dA;split
    ·split
     ·exact jk _ _ _ _ _ k
     ·exact k
    ·exact pV _ _ k
   unfold aC;split
   ·exact ⟨k2.text,k2.far,k2.data,k2.bss,k2.names,k2.uy⟩
   ·exact k2
 split
 ·unfold binding; exact Gz s _ _ h
 ·exact h
theorem vV (s:List UInt8) (t:Tok) (st:St) (h:Tm st.obj):Tm (operation s t st).obj:=by
 unfold operation;split
 ·rw [cu]; exact h
 split
 ·rw [cu]; exact h
 split
 ·exact sj s _ _ _ h
 ·exact vM s _ _ h
theorem uX (s:List UInt8) (t:Tok) (st:St) (h:Tm st.obj):Tm (gM s t st).obj:=by
 unfold gM; dsimp only;have k:Tm (if t.kind == 1 then operation s t st else st).obj:=fB (vV s t st h) h;exact fB k (by rw [cu]; exact k)
theorem A8 (s:List UInt8) (st:St) (h:Tm st.obj):Tm (line s st).obj:=by
 unfold line; dsimp only;split
 ·refine uX s _ _ ?_;rw [lK,dV];refine Et _ _ ?_;rw [lK,dV]; exact h
 ·refine uX s _ _ ?_;rw [lK,dV]; exact h
theorem vU (s:List UInt8) (st:St):(bO s st).2.obj=st.obj:=by unfold bO; split <;> rfl
theorem Ev (s:List UInt8) (n:Nat) (st:St) (h:Tm st.obj):Tm (lines s n st).obj:=by
 induction n generalizing st with
 | zero=>exact h
 | succ n ih =>
  unfold lines; dsimp only;have k:Tm (bO s (line s st)).2.obj:=by rw [vU]; exact A8 s st h
  split
  ·exact ih _ k
  ·exact k
theorem tF:Tm start.obj:=⟨by decide,by decide,by decide,by decide,by simp [start],by simp [start]⟩
end As
end Go.Proofs.YtnkkepfcpjllmaaGreatDoor

namespace Go.Proofs.YtnkkepfcpjllmaaGreatDoor
namespace Rf
def pJ:List (List UInt8):=[[97,100,100],[115,117,98],[115,108,116],[115,108,116,117],[120,111,114],[111,114],[97,110,100],[97,100,100,105],[115,108,116,105],[120,111,114,105],[111,114,105],[97,110,100,105],[98,101,113],[98,110,101],[98,108,116],[98,103,101],[98,108,116,117],[98,103,101,117],[108,117,105],[106,97,108],[106,97,108,114],[108,105],[108,97],[109,118],[99,97,108,108],[116,97,105,108],[106],[101,99,97,108,108],[110,111,112],[114,101,116],[108,119],[115,119]]
def uL (L:List Tk) (d:Ds) (op:Nat):Ds:=after (aS L 0 0 r3 ⟨[],0,0,0⟩ d) fun g=>lay 0 g.sym g.add [(As.enc op (g.rs.getD 0 0) (g.rs.getD 1 0) (g.rs.getD 2 0) 0:Int)]
def Al (L:List Tk) (d:Ds) (op:Nat):Ds:=after (aS L (-2048) 2047 [114,44,114,44,110] ⟨[],0,0,0⟩ d) fun g=>lay 0 g.sym g.add [(As.enc op (g.rs.getD 0 0) (g.rs.getD 1 0) 0 g.num:Int)]
def wO (L:List Tk) (d:Ds) (op:Nat):Ds:=after (aS L 0 0 [114,44,114,44,115] ⟨[],0,0,0⟩ d) fun g=>lay 2 g.sym g.add [(As.enc op 0 (g.rs.getD 0 0) (g.rs.getD 1 0) 0:Int)]
def instr (L:List Tk) (d:Ds):Nat->Ds
 | 0=>uL L d 18
 | 1=>uL L d 19
 | 2=>uL L d 20
 | 3=>uL L d 21
 | 4=>uL L d 22
 | 5=>uL L d 23
 | 6=>uL L d 24
 | 7=>Al L d 13
 | 8=>Al L d 14
 | 9=>Al L d 15
 | 10=>Al L d 16
 | 11=>Al L d 17
 | 12=>wO L d 5
 | 13=>wO L d 6
 | 14=>wO L d 7
 | 15=>wO L d 8
 | 16=>wO L d 9
 | 17=>wO L d 10
 | 18=>after (aS L 0 1048575 [114,44,110] ⟨[],0,0,0⟩ d) fun g=>lay 0 g.sym g.add [(As.enc 1 (g.rs.getD 0 0) 0 0 g.num:Int)]
 | 19=>after (aS L 0 0 [114,44,115] ⟨[],0,0,0⟩ d) fun g=>lay 3 g.sym g.add [(As.enc 3 (g.rs.getD 0 0) 0 0 0:Int)]
 | 20=>after (aS L (-2048) 2047 [114,44,112] ⟨[],0,0,0⟩ d) fun g=>lay 0 g.sym g.add [(As.enc 4 (g.rs.getD 0 0) (g.rs.getD 1 0) 0 g.num:Int)]
 | 21=>after (aS L (-2147483648) 2147483647 [114,44,110] ⟨[],0,0,0⟩ d) fun g=>lay 0 g.sym g.add (vS (g.rs.getD 0 0) g.num)
 | 22=>after (aS L 0 0 [114,44,97] ⟨[],0,0,0⟩ d) fun g=>address (g.rs.getD 0 0) g (As.enc 13 (g.rs.getD 0 0) (g.rs.getD 0 0) 0 0:Int)
 | 23=>after (aS L 0 0 [114,44,114] ⟨[],0,0,0⟩ d) fun g=>lay 0 g.sym g.add [(As.enc 13 (g.rs.getD 0 0) (g.rs.getD 1 0) 0 0:Int)]
 | 24=>after (aS L 0 0 [115] ⟨[],0,0,0⟩ d) fun g=>lay 4 g.sym g.add [(As.enc 2 1 0 0 0:Int),(As.enc 4 1 1 0 0:Int)]
 | 25=>after (aS L 0 0 [115] ⟨[],0,0,0⟩ d) fun g=>lay 4 g.sym g.add [(As.enc 2 6 0 0 0:Int),(As.enc 4 0 6 0 0:Int)]
 | 26=>after (aS L 0 0 [115] ⟨[],0,0,0⟩ d) fun g=>lay 3 g.sym g.add [(As.enc 3 0 0 0 0:Int)]
 | 27=>after (aS L 0 0 [] ⟨[],0,0,0⟩ d) fun g=>lay 0 g.sym g.add [(As.enc 25 0 0 0 0:Int)]
 | 28=>after (aS L 0 0 [] ⟨[],0,0,0⟩ d) fun g=>lay 0 g.sym g.add [(As.enc 13 0 0 0 0:Int)]
 | 29=>after (aS L 0 0 [] ⟨[],0,0,0⟩ d) fun g=>lay 0 g.sym g.add [(As.enc 4 0 1 0 0:Int)]
 | 30=>lw L d
 | 31=>sw L d
 | _=>d
def operation (L:List Tk) (w:List UInt8) (d:Ds):Ds :=
 if w.headD 0=46 then directive L w d
 else match pJ.findIdx? (· == w) with
  | none=>bad 6 d.op d
  | some i=>if d.ah=1\/d.ah=2 then instr L d i else bad 9 d.op d
section
variable {s:List UInt8} {L:List Tk} {d:Ds} {st:As.St}
theorem CZ (t:As.Tok) (i:Nat) (hi:pJ[i]?=some t.text) (hc:code d) (h:bM s L d { st with op:=t }):bM s L (instr L d i) (As.instruction s (As.shapeOf t.text) (As.named t.text) { st with op:=t }):=by
 have lt:i < 32:=(List.getElem?_eq_some_iff.1 hi).1;rcases (show i=0\/i=1\/i=2\/i=3\/i=4\/i=5\/i=6\/i=7\/i=8\/i=9\/i=10\/i=11\/i=12\/i=13\/i=14\/i=15\/i=16\/i=17\/i=18\/i=19\/i=20\/i=21\/i=22\/i=23\/i=24\/i=25\/i=26\/i=27\/i=28\/i=29\/i=30\/i=31 by omega) with rfl | rfl | rfl | rfl | rfl | rfl | rfl | rfl | rfl | rfl | rfl | rfl | rfl | rfl | rfl | rfl | rfl | rfl | rfl | rfl | rfl | rfl | rfl | rfl | rfl | rfl | rfl | rfl | rfl | rfl | rfl | rfl
 ·have ht:t.text=[97,100,100]:=(Option.some.inj hi).symm;rw [ht,show As.shapeOf [97,100,100]=1 by kernel_rfl,show As.named [97,100,100]=18 by kernel_rfl,show instr L d 0=uL L d 18 by kernel_rfl,show As.instruction s 1 18 { st with op:=t }=As.bA s 18 { st with op:=t } by kernel_rfl];unfold uL;exact jq 18 hc h
 ·have ht:t.text=[115,117,98]:=(Option.some.inj hi).symm;rw [ht,show As.shapeOf [115,117,98]=1 by kernel_rfl,show As.named [115,117,98]=19 by kernel_rfl,show instr L d 1=uL L d 19 by kernel_rfl,show As.instruction s 1 19 { st with op:=t }=As.bA s 19 { st with op:=t } by kernel_rfl];unfold uL;exact jq 19 hc h
 ·have ht:t.text=[115,108,116]:=(Option.some.inj hi).symm;rw [ht,show As.shapeOf [115,108,116]=1 by kernel_rfl,show As.named [115,108,116]=20 by kernel_rfl,show instr L d 2=uL L d 20 by kernel_rfl,show As.instruction s 1 20 { st with op:=t }=As.bA s 20 { st with op:=t } by kernel_rfl];unfold uL;exact jq 20 hc h
 ·have ht:t.text=[115,108,116,117]:=(Option.some.inj hi).symm;rw [ht,show As.shapeOf [115,108,116,117]=1 by kernel_rfl,show As.named [115,108,116,117]=21 by kernel_rfl,show instr L d 3=uL L d 21 by kernel_rfl,show As.instruction s 1 21 { st with op:=t }=As.bA s 21 { st with op:=t } by kernel_rfl];unfold uL;exact jq 21 hc h
 ·have ht:t.text=[120,111,114]:=(Option.some.inj hi).symm;rw [ht,show As.shapeOf [120,111,114]=1 by kernel_rfl,show As.named [120,111,114]=22 by kernel_rfl,show instr L d 4=uL L d 22 by kernel_rfl,show As.instruction s 1 22 { st with op:=t }=As.bA s 22 { st with op:=t } by kernel_rfl];unfold uL;exact jq 22 hc h
 ·have ht:t.text=[111,114]:=(Option.some.inj hi).symm;rw [ht,show As.shapeOf [111,114]=1 by kernel_rfl,show As.named [111,114]=23 by kernel_rfl,show instr L d 5=uL L d 23 by kernel_rfl,show As.instruction s 1 23 { st with op:=t }=As.bA s 23 { st with op:=t } by kernel_rfl];unfold uL;exact jq 23 hc h
 ·have ht:t.text=[97,110,100]:=(Option.some.inj hi).symm;rw [ht,show As.shapeOf [97,110,100]=1 by kernel_rfl,show As.named [97,110,100]=24 by kernel_rfl,show instr L d 6=uL L d 24 by kernel_rfl,show As.instruction s 1 24 { st with op:=t }=As.bA s 24 { st with op:=t } by kernel_rfl];unfold uL;exact jq 24 hc h
 ·have ht:t.text=[97,100,100,105]:=(Option.some.inj hi).symm;rw [ht,show As.shapeOf [97,100,100,105]=2 by kernel_rfl,show As.named [97,100,100,105]=13 by kernel_rfl,show instr L d 7=Al L d 13 by kernel_rfl,show As.instruction s 2 13 { st with op:=t }=As.bC s 13 { st with op:=t } by kernel_rfl];unfold Al;exact jZ 13 hc h
 ·have ht:t.text=[115,108,116,105]:=(Option.some.inj hi).symm;rw [ht,show As.shapeOf [115,108,116,105]=2 by kernel_rfl,show As.named [115,108,116,105]=14 by kernel_rfl,show instr L d 8=Al L d 14 by kernel_rfl,show As.instruction s 2 14 { st with op:=t }=As.bC s 14 { st with op:=t } by kernel_rfl];unfold Al;exact jZ 14 hc h
 ·have ht:t.text=[120,111,114,105]:=(Option.some.inj hi).symm;rw [ht,show As.shapeOf [120,111,114,105]=2 by kernel_rfl,show As.named [120,111,114,105]=15 by kernel_rfl,show instr L d 9=Al L d 15 by kernel_rfl,show As.instruction s 2 15 { st with op:=t }=As.bC s 15 { st with op:=t } by kernel_rfl];unfold Al;exact jZ 15 hc h
 ·have ht:t.text=[111,114,105]:=(Option.some.inj hi).symm;rw [ht,show As.shapeOf [111,114,105]=2 by kernel_rfl,show As.named [111,114,105]=16 by kernel_rfl,show instr L d 10=Al L d 16 by kernel_rfl,show As.instruction s 2 16 { st with op:=t }=As.bC s 16 { st with op:=t } by kernel_rfl];unfold Al;exact jZ 16 hc h
 ·have ht:t.text=[97,110,100,105]:=(Option.some.inj hi).symm;rw [ht,show As.shapeOf [97,110,100,105]=2 by kernel_rfl,show As.named [97,110,100,105]=17 by kernel_rfl,show instr L d 11=Al L d 17 by kernel_rfl,show As.instruction s 2 17 { st with op:=t }=As.bC s 17 { st with op:=t } by kernel_rfl];unfold Al;exact jZ 17 hc h
 ·have ht:t.text=[98,101,113]:=(Option.some.inj hi).symm;rw [ht,show As.shapeOf [98,101,113]=8 by kernel_rfl,show As.named [98,101,113]=5 by kernel_rfl,show instr L d 12=wO L d 5 by kernel_rfl,show As.instruction s 8 5 { st with op:=t }=As.branch s 5 { st with op:=t } by kernel_rfl];unfold wO;exact jo 5 hc h
 ·have ht:t.text=[98,110,101]:=(Option.some.inj hi).symm;rw [ht,show As.shapeOf [98,110,101]=8 by kernel_rfl,show As.named [98,110,101]=6 by kernel_rfl,show instr L d 13=wO L d 6 by kernel_rfl,show As.instruction s 8 6 { st with op:=t }=As.branch s 6 { st with op:=t } by kernel_rfl];unfold wO;exact jo 6 hc h
 ·have ht:t.text=[98,108,116]:=(Option.some.inj hi).symm;rw [ht,show As.shapeOf [98,108,116]=8 by kernel_rfl,show As.named [98,108,116]=7 by kernel_rfl,show instr L d 14=wO L d 7 by kernel_rfl,show As.instruction s 8 7 { st with op:=t }=As.branch s 7 { st with op:=t } by kernel_rfl];unfold wO;exact jo 7 hc h
 ·have ht:t.text=[98,103,101]:=(Option.some.inj hi).symm;rw [ht,show As.shapeOf [98,103,101]=8 by kernel_rfl,show As.named [98,103,101]=8 by kernel_rfl,show instr L d 15=wO L d 8 by kernel_rfl,show As.instruction s 8 8 { st with op:=t }=As.branch s 8 { st with op:=t } by kernel_rfl];unfold wO;exact jo 8 hc h
 ·have ht:t.text=[98,108,116,117]:=(Option.some.inj hi).symm;rw [ht,show As.shapeOf [98,108,116,117]=8 by kernel_rfl,show As.named [98,108,116,117]=9 by kernel_rfl,show instr L d 16=wO L d 9 by kernel_rfl,show As.instruction s 8 9 { st with op:=t }=As.branch s 9 { st with op:=t } by kernel_rfl];unfold wO;exact jo 9 hc h
 ·have ht:t.text=[98,103,101,117]:=(Option.some.inj hi).symm;rw [ht,show As.shapeOf [98,103,101,117]=8 by kernel_rfl,show As.named [98,103,101,117]=10 by kernel_rfl,show instr L d 17=wO L d 10 by kernel_rfl,show As.instruction s 8 10 { st with op:=t }=As.branch s 10 { st with op:=t } by kernel_rfl];unfold wO;exact jo 10 hc h
 ·have ht:t.text=[108,117,105]:=(Option.some.inj hi).symm;rw [ht,show As.shapeOf [108,117,105]=3 by kernel_rfl,show instr L d 18=after (aS L 0 1048575 [114,44,110] ⟨[],0,0,0⟩ d) fun g=>lay 0 g.sym g.add [(As.enc 1 (g.rs.getD 0 0) 0 0 g.num:Int)] by kernel_rfl,show As.instruction s 3 (As.named [108,117,105]) { st with op:=t }=As.upper s { st with op:=t } by kernel_rfl];exact Dh hc h
 ·have ht:t.text=[106,97,108]:=(Option.some.inj hi).symm;rw [ht,show As.shapeOf [106,97,108]=9 by kernel_rfl,show instr L d 19=after (aS L 0 0 [114,44,115] ⟨[],0,0,0⟩ d) fun g=>lay 3 g.sym g.add [(As.enc 3 (g.rs.getD 0 0) 0 0 0:Int)] by kernel_rfl,show As.instruction s 9 (As.named [106,97,108]) { st with op:=t }=As.eX s { st with op:=t } by kernel_rfl];exact Im hc h
 ·have ht:t.text=[106,97,108,114]:=(Option.some.inj hi).symm;rw [ht,show As.shapeOf [106,97,108,114]=6 by kernel_rfl,show instr L d 20=after (aS L (-2048) 2047 [114,44,112] ⟨[],0,0,0⟩ d) fun g=>lay 0 g.sym g.add [(As.enc 4 (g.rs.getD 0 0) (g.rs.getD 1 0) 0 g.num:Int)] by kernel_rfl,show As.instruction s 6 (As.named [106,97,108,114]) { st with op:=t }=As.bN s { st with op:=t } by kernel_rfl];exact Fh hc h
 ·have ht:t.text=[108,105]:=(Option.some.inj hi).symm;rw [ht,show As.shapeOf [108,105]=12 by kernel_rfl,show instr L d 21=after (aS L (-2147483648) 2147483647 [114,44,110] ⟨[],0,0,0⟩ d) fun g=>lay 0 g.sym g.add (vS (g.rs.getD 0 0) g.num) by kernel_rfl,show As.instruction s 12 (As.named [108,105]) { st with op:=t }=As.bZ s { st with op:=t } by kernel_rfl];exact Ku hc h
 ·have ht:t.text=[108,97]:=(Option.some.inj hi).symm;rw [ht,show As.shapeOf [108,97]=14 by kernel_rfl,show instr L d 22=after (aS L 0 0 [114,44,97] ⟨[],0,0,0⟩ d) fun g=>address (g.rs.getD 0 0) g (As.enc 13 (g.rs.getD 0 0) (g.rs.getD 0 0) 0 0:Int) by kernel_rfl,show As.instruction s 14 (As.named [108,97]) { st with op:=t }=As.bS s { st with op:=t } by kernel_rfl];exact Kt hc h
 ·have ht:t.text=[109,118]:=(Option.some.inj hi).symm;rw [ht,show As.shapeOf [109,118]=11 by kernel_rfl,show instr L d 23=after (aS L 0 0 [114,44,114] ⟨[],0,0,0⟩ d) fun g=>lay 0 g.sym g.add [(As.enc 13 (g.rs.getD 0 0) (g.rs.getD 1 0) 0 0:Int)] by kernel_rfl,show As.instruction s 11 (As.named [109,118]) { st with op:=t }=As.move s { st with op:=t } by kernel_rfl];exact Fp hc h
 ·have ht:t.text=[99,97,108,108]:=(Option.some.inj hi).symm;rw [ht,show As.shapeOf [99,97,108,108]=13 by kernel_rfl,show instr L d 24=after (aS L 0 0 [115] ⟨[],0,0,0⟩ d) fun g=>lay 4 g.sym g.add [(As.enc 2 1 0 0 0:Int),(As.enc 4 1 1 0 0:Int)] by kernel_rfl,show As.instruction s 13 (As.named [99,97,108,108]) { st with op:=t }=As.call s { st with op:=t } by kernel_rfl];exact Fg hc h (by show (t.text == _)=false; rw [ht]; rfl)
 ·have ht:t.text=[116,97,105,108]:=(Option.some.inj hi).symm;rw [ht,show As.shapeOf [116,97,105,108]=13 by kernel_rfl,show instr L d 25=after (aS L 0 0 [115] ⟨[],0,0,0⟩ d) fun g=>lay 4 g.sym g.add [(As.enc 2 6 0 0 0:Int),(As.enc 4 0 6 0 0:Int)] by kernel_rfl,show As.instruction s 13 (As.named [116,97,105,108]) { st with op:=t }=As.call s { st with op:=t } by kernel_rfl];exact Fq hc h (by show (t.text == _)=true; rw [ht]; rfl)
 ·have ht:t.text=[106]:=(Option.some.inj hi).symm;rw [ht,show As.shapeOf [106]=10 by kernel_rfl,show instr L d 26=after (aS L 0 0 [115] ⟨[],0,0,0⟩ d) fun g=>lay 3 g.sym g.add [(As.enc 3 0 0 0 0:Int)] by kernel_rfl,show As.instruction s 10 (As.named [106]) { st with op:=t }=As.fE s 0 { st with op:=t } by kernel_rfl];exact Om hc h
 ·have ht:t.text=[101,99,97,108,108]:=(Option.some.inj hi).symm;rw [ht,show As.shapeOf [101,99,97,108,108]=7 by kernel_rfl,show instr L d 27=after (aS L 0 0 [] ⟨[],0,0,0⟩ d) fun g=>lay 0 g.sym g.add [(As.enc 25 0 0 0 0:Int)] by kernel_rfl,show As.instruction s 7 (As.named [101,99,97,108,108]) { st with op:=t }=As.bare { st with op:=t } by kernel_rfl];have e:As.bare { st with op:=t }=As.lay [(As.enc 25 0 0 0 0:Int)] { st with op:=t }:=by
   unfold As.bare As.dR;show (if t.text=[101,99,97,108,108] then _ else if t.text=[114,101,116] then _ else if t.text=[110,111,112] then _ else _)=_;rw [ht,if_pos rfl]
  rw [e];exact sZ _ hc h
 ·have ht:t.text=[110,111,112]:=(Option.some.inj hi).symm;rw [ht,show As.shapeOf [110,111,112]=7 by kernel_rfl,show instr L d 28=after (aS L 0 0 [] ⟨[],0,0,0⟩ d) fun g=>lay 0 g.sym g.add [(As.enc 13 0 0 0 0:Int)] by kernel_rfl,show As.instruction s 7 (As.named [110,111,112]) { st with op:=t }=As.bare { st with op:=t } by kernel_rfl];have e:As.bare { st with op:=t }=As.lay [(As.enc 13 0 0 0 0:Int)] { st with op:=t }:=by
   unfold As.bare As.dR;show (if t.text=[101,99,97,108,108] then _ else if t.text=[114,101,116] then _ else if t.text=[110,111,112] then _ else _)=_;rw [ht,if_neg (by decide),if_neg (by decide),if_pos rfl]
  rw [e];exact sZ _ hc h
 ·have ht:t.text=[114,101,116]:=(Option.some.inj hi).symm;rw [ht,show As.shapeOf [114,101,116]=7 by kernel_rfl,show instr L d 29=after (aS L 0 0 [] ⟨[],0,0,0⟩ d) fun g=>lay 0 g.sym g.add [(As.enc 4 0 1 0 0:Int)] by kernel_rfl,show As.instruction s 7 (As.named [114,101,116]) { st with op:=t }=As.bare { st with op:=t } by kernel_rfl];have e:As.bare { st with op:=t }=As.lay [(As.enc 4 0 1 0 0:Int)] { st with op:=t }:=by
   unfold As.bare As.dR;show (if t.text=[101,99,97,108,108] then _ else if t.text=[114,101,116] then _ else if t.text=[110,111,112] then _ else _)=_;rw [ht,if_neg (by decide),if_pos rfl]
  rw [e];exact sZ _ hc h
 ·have ht:t.text=[108,119]:=(Option.some.inj hi).symm;rw [ht,show As.shapeOf [108,119]=4 by kernel_rfl,show instr L d 30=lw L d by kernel_rfl,show As.instruction s 4 (As.named [108,119]) { st with op:=t }=As.load s { st with op:=t } by kernel_rfl];exact Kv hc h
 ·have ht:t.text=[115,119]:=(Option.some.inj hi).symm;rw [ht,show As.shapeOf [115,119]=5 by kernel_rfl,show instr L d 31=sw L d by kernel_rfl,show As.instruction s 5 (As.named [115,119]) { st with op:=t }=As.store s { st with op:=t } by kernel_rfl];exact Kw hc h
end
end Rf
end Go.Proofs.YtnkkepfcpjllmaaGreatDoor

namespace Go.Proofs.YtnkkepfcpjllmaaGreatDoor
namespace Rf
section
variable {s:List UInt8} {L:List Tk} {d:Ds} {st:As.St}
theorem qO (s:List UInt8) (op:Nat) (st:As.St):aD st (As.bA s op st):=((((aO _ _).trans (bL _ _ _)).trans (aO _ _)).trans (bL _ _ _)).trans ((aO _ _).trans (dw _ _))
theorem qd (s:List UInt8) (op:Nat) (st:As.St):aD st (As.bC s op st):=((((aO _ _).trans (bL _ _ _)).trans (aO _ _)).trans (bL _ _ _)).trans ((bW _ _ _ _).trans (dw _ _))
theorem y8 (s:List UInt8) (st:As.St):aD st (As.upper s st):=(((aO _ _).trans (bL _ _ _)).trans (bW _ _ _ _)).trans (dw _ _)
theorem zT (s:List UInt8) (st:As.St):aD st (As.load s st):=((aO _ _).trans (bL _ _ _)).trans (qp s st)
theorem xX (s:List UInt8) (st:As.St):aD st (As.store s st):=((aO _ _).trans (bL _ _ _)).trans (pq s st)
theorem nY (s:List UInt8) (st:As.St):aD st (As.bN s st):=(((aO _ _).trans (bL _ _ _)).trans (mF _ _)).trans (dw _ _)
theorem zH (st:As.St):aD st (As.bare st):=aD.ite (dw _ _) (aD.ite (dw _ _) (aD.ite (dw _ _) aD.refl))
theorem vJ (s:List UInt8) (op:Nat) (st:As.St):aD st (As.branch s op st):=by
 unfold As.branch;simp only;exact ((((aO _ _).trans (bL _ _ _)).trans (aO _ _)).trans (bL _ _ _)).trans ((iG _ _).trans (eO _ _ _ _ _))
theorem nK (s:List UInt8) (rd:Nat) (st:As.St):aD st (As.fE s rd st):=(iG _ _).trans (eO _ _ _ _ _)
theorem sF (s:List UInt8) (st:As.St):aD st (As.eX s st):=((aO _ _).trans (bL _ _ _)).trans (nK _ _ _)
theorem zU (s:List UInt8) (st:As.St):aD st (As.move s st):=(((aO _ _).trans (bL _ _ _)).trans (aO _ _)).trans (dw _ _)
theorem pW (s:List UInt8) (st:As.St):aD st (As.bZ s st):=(((aO _ _).trans (bL _ _ _)).trans (bW _ _ _ _)).trans (aD.ite (dw _ _) (dw _ _))
theorem zK (s:List UInt8) (st:As.St):aD st (As.call s st):=(iG _ _).trans (eO _ _ _ _ _)
theorem oO (s:List UInt8) (st:As.St):aD st (As.bS s st):=(((aO _ _).trans (bL _ _ _)).trans (jL _ _)).trans (iD _ _ _ _ _ _ _ _ _)
theorem oM (s:List UInt8) (shape op:Nat) (st:As.St):aD st (As.instruction s shape op st) :=
 aD.ite (qO _ _ _) (aD.ite (qd _ _ _) (aD.ite (y8 _ _) (aD.ite (zT _ _) (aD.ite (xX _ _) (aD.ite (nY _ _) (aD.ite (zH _) (aD.ite (vJ _ _ _) (aD.ite (sF _ _) (aD.ite (nK _ _ _) (aD.ite (zU _ _) (aD.ite (pW _ _) (aD.ite (zK _ _) (aD.ite (oO _ _) aD.refl)))))))))))))
theorem uH (st:As.St):aD st (As.dz st):=by
 unfold As.dz;exact aD.ite (fun _=>⟨rfl,rfl⟩) (aD.ite (fun _=>⟨rfl,rfl⟩) (aD.ite (fun _=>⟨rfl,rfl⟩) (aD.ite (fun _=>⟨rfl,rfl⟩) aD.refl)))
theorem qI (s:List UInt8) (shape:Nat) (st:As.St):aD st (As.directive s shape st) :=
 aD.ite (uH _) (aD.ite (tK _ _) (aD.ite (xW _ _) (aD.ite (xk _ _) (aD.ite (rV _ _ _) aD.refl))))
theorem qL (s:List UInt8) (t:As.Tok) (st:As.St):aD st (As.operation s t st):=by
 have o:aD st { st with op:=t }:=fun _=>⟨rfl,rfl⟩
 exact aD.ite (bE _ _ _) (aD.ite (bE _ _ _) (aD.ite (o.trans (oM _ _ _ _)) (o.trans (qI _ _ _))))
theorem bM.sec (h:bM s L d st) (z:Nat) (hz:1<=z/\z<=4):bM s L { d with ah:=z } { st with ah:=z }:=⟨h.fe,h.fa,h.tok,h.obj,fun _=>rfl,h.op,h.k,h.more,h.last,h.syms,h.aj,fun _=>hz,h.said⟩
theorem bM.at (h:bM s L d st) (t:As.Tok):bM s L { d with op:=t.pos } { st with op:=t }:=⟨h.fe,h.fa,h.tok,h.obj,h.ah,fun _=>rfl,h.k,h.more,h.last,h.syms,h.aj,h.secs,h.said⟩
theorem vB (w:List UInt8) (h:w.headD 0=46):As.shapeOf w=As.eU w:=by
 unfold As.shapeOf
 iterate 32 rw [if_neg (by rintro rfl; exact absurd h (by decide))]
theorem sW (w:List UInt8) (h:¬ w.headD 0=46) (hn:w ∉ pJ):As.shapeOf w=0:=by
 unfold As.shapeOf As.eU
 iterate 32 rw [if_neg (by rintro rfl; exact hn (by decide))]
 iterate 9 rw [if_neg (by rintro rfl; exact h rfl)]
theorem Ah:∀ w∈pJ,As.shapeOf w≠0/\As.shapeOf w<=14:=by decide +kernel
theorem uI (t:As.Tok) (hw:t.text.headD 0=46) (hd:d.fe=0) (hb:0<=d.obj.bss) (h:bM s L d { st with op:=t }) (ho:d.op=t.pos):bM s L (directive L t.text d) (As.operation s t st):=by
 have sc:=h.secs hd;have se:st.ah=d.ah:=h.ah hd;have h0:bM s L d { st with op:=t }:=h;have dn:∀ e,e≠0->bM s L (bad e d.op d) (As.refuse e t.pos st):=fun e he=>by
  have q:=eZ e d.op he h0;have f:=bH e d.op he d;have e2:As.refuse e t.pos st={ st with fe:=e,fa:=t.pos,tok:=As.Tok.nil }:=by
   have z:st.fe=0:=h.fe.trans hd;unfold As.refuse As.failed;rw [if_neg (by simp [z])]
  have e1:bad e d.op d={ d with fe:=e,fa:=d.op }:=by unfold bad; rw [if_pos hd]
  rw [e1,e2];exact bM.down rfl he ho.symm
 unfold As.operation;rw [vB _ hw];unfold directive As.eU;by_cases c1:t.text=[46,116,101,120,116]
 ·rw [c1];have e:As.directive s 15 { st with op:=t }={ st with op:=t,ah:=1 }:=by show As.dz { st with op:=t }=_; unfold As.dz; rw [if_pos c1]
  show bM s L { d with ah:=1 } (As.directive s 15 { st with op:=t });rw [e];exact h.sec 1 (by omega)
 rw [if_neg c1,if_neg c1];by_cases c2:t.text=[46,102,97,114]
 ·rw [c2];have e:As.directive s 15 { st with op:=t }={ st with op:=t,ah:=2 }:=by show As.dz { st with op:=t }=_; unfold As.dz; rw [if_neg c1,if_pos c2]
  show bM s L { d with ah:=2 } (As.directive s 15 { st with op:=t });rw [e];exact h.sec 2 (by omega)
 rw [if_neg c2,if_neg c2];by_cases c3:t.text=[46,100,97,116,97]
 ·rw [c3];have e:As.directive s 15 { st with op:=t }={ st with op:=t,ah:=3 }:=by show As.dz { st with op:=t }=_; unfold As.dz; rw [if_neg c1,if_neg c2,if_pos c3]
  show bM s L { d with ah:=3 } (As.directive s 15 { st with op:=t });rw [e];exact h.sec 3 (by omega)
 rw [if_neg c3,if_neg c3];by_cases c4:t.text=[46,98,115,115]
 ·rw [c4];have e:As.directive s 15 { st with op:=t }={ st with op:=t,ah:=4 }:=by show As.dz { st with op:=t }=_; unfold As.dz; rw [if_neg c1,if_neg c2,if_neg c3,if_pos c4]
  show bM s L { d with ah:=4 } (As.directive s 15 { st with op:=t });rw [e];exact h.sec 4 (by omega)
 rw [if_neg c4,if_neg c4];by_cases c5:t.text=[46,103,108,111,98,108]
 ·rw [c5];have e:As.directive s 19 { st with op:=t }=As.bind s 1 { st with op:=t }:=by show As.binding s { st with op:=t }=_; unfold As.binding; rw [if_pos c5]
  show bM s L (nI L 1 d) (As.directive s 19 { st with op:=t });rw [e];exact xU 1 (by decide) h
 rw [if_neg c5];by_cases c6:t.text=[46,119,101,97,107]
 ·rw [c6];have e:As.directive s 19 { st with op:=t }=As.bind s 2 { st with op:=t }:=by show As.binding s { st with op:=t }=_; unfold As.binding; rw [if_neg c5]
  show bM s L (nI L 2 d) (As.directive s 19 { st with op:=t });rw [e];exact xU 2 (by decide) h
 rw [if_neg c6];by_cases c7:t.text=[46,119,111,114,100]
 ·rw [c7];show bM s L (pE L d) (if !As.dX 16 st.ah then As.refuse 9 t.pos st else As.word s { st with op:=t });by_cases z:d.ah=4
  ·rw [if_pos (by rw [se,z]; rfl)];have e:pE L d=bad 9 d.op d:=by unfold pE; rw [if_pos z]
   rw [e];exact dn 9 (by decide)
  ·rw [if_neg (by rw [se]; unfold As.dX; simp [z])];exact Fu h fun _=>z
 rw [if_neg c7,if_neg c7];by_cases c8:t.text=[46,115,112,97,99,101]
 ·rw [c8];show bM s L (tC L d) (if !As.dX 17 st.ah then As.refuse 9 t.pos st else As.space s { st with op:=t });rw [if_neg (by unfold As.dX; simp)];exact Df h
 rw [if_neg c8,if_neg c8];by_cases c9:t.text=[46,97,108,105,103,110]
 ·rw [c9];show bM s L (rT L d) (if !As.dX 18 st.ah then As.refuse 9 t.pos st else As.align s { st with op:=t });rw [if_neg (by unfold As.dX; simp)];exact CX (fun _=>hb) h
 rw [if_neg c9,if_neg c9,if_neg c5,if_neg c6];exact dn 6 (by decide)
end
end Rf
end Go.Proofs.YtnkkepfcpjllmaaGreatDoor
