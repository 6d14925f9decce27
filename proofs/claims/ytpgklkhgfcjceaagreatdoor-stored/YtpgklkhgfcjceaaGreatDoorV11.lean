
import Derived.Test.YtpgklkhgfcjceaaGreatDoorV10
import Derived.Maps.AppendAt
import Derived.BigQuiet
set_option maxHeartbeats 16000000
set_option maxRecDepth 100000
namespace Go.Proofs.YtpgklkhgfcjceaaGreatDoor
open Go.RowKit
def AQ (w:World) (ao:Option Addr) (fs:List (List UInt8)):Prop :=
 0 < fs.length->∃ g off,ao=some ⟨g,off,none⟩/\∀ i (h:i < fs.length),w.cell? ⟨g,off+i,none⟩=some (.string (bs fs[i]))
theorem AQ.kept {w w':World} {ao:Option Addr} {fs:List (List UInt8)} (h:AQ w ao fs) (hg:w.grownBy w' none):AQ w' ao fs:=by
 intro hp;obtain ⟨g,off,e,hc⟩:=h hp;exact ⟨g,off,e,fun i hi=>yd (hc i hi) hg⟩
theorem Tryz.Cb:(Tryz.prog.info? 117).map (fun i=>(i.zero,i.size,i.bytes))=some (some (.agg #[.bool false,.slice none 0 0]),2,32):=by kernel_rfl
structure FR where
 a:Bool
 mg:Nat
 n:Nat
 cap:Nat
def Lb (r:FR):List Value:=[.bool r.a,.slice (some ⟨r.mg,0,none⟩) r.n r.cap]
def zk (W:World) (r:FR) (x:Bool×List Lk.Obj):Prop:=r.a=x.1/\r.n=x.2.length/\∃ gs,rR W r.mg gs (pK x.2)/\x.2.length<=r.cap/\r.cap<=maxLen
structure Gt (W:World) (B:Nat) (v:Value) (fl:List FR) (xs:List (Bool×List Lk.Obj)):Prop where
 len:fl.length=xs.length
 row:W.ownsRow B 117 2 v xs.length (fl.flatMap Lb)
 at_:∀ i (h:i < xs.length),zk W (fl[i]'(by rw [len]; exact h)) xs[i]
 pair:fl.Pairwise (fun r s=>r.mg < s.mg)
 bnd:∀ r∈fl,B<=r.mg/\r.mg < W.heap.size
section
variable {W W' w3:World} {B:Nat} {v v':Value} {r:FR} {fl:List FR} {xs:List (Bool×List Lk.Obj)} {x:Bool×List Lk.Obj}
theorem zk.frame {ts:List TypeId} (h:zk W r x) (hf:nC ts W W') (h0:159 ∉ ts) (h1:71 ∉ ts) (h2:3 ∉ ts) (h3:100 ∉ ts) (h4:102 ∉ ts):zk W' r x:=by
 obtain ⟨q0,q1,gs,q2,q3⟩:=h;exact ⟨q0,q1,gs,q2.frame hf h0 h1 h2 h3 h4,q3⟩
theorem zk.IU {ts:List TypeId} {mg:Nat} (h:zk W r x) (hf:uj ts mg W W') (hne:r.mg≠mg) (hO:∀ g o,yu W g o->yu W' g o) (h0:159 ∉ ts):zk W' r x:=by
 obtain ⟨q0,q1,gs,q2,q3⟩:=h;obtain ⟨cur,hb,hc⟩:=q2.row;exact ⟨q0,q1,gs,⟨q2.len,⟨cur,hf _ _ _ hb h0 hne,hc⟩,fun i hi=>hO _ _ (q2.objs i hi),q2.syms⟩,q3⟩
theorem uj.frame {ts:List TypeId} {mg:Nat} {cur:Array Value} {t0:TypeId} (hf:uj ts mg W W') (hb:yc W mg cur t0):nC (t0 :: ts) W W':=fun k cs t hk ht=>hf k cs t hk (fun c=>ht (List.mem_cons_of_mem _ c)) (by
 rintro rfl
 have:=hb.symm.trans hk
 simp at this;exact ht (by rw [this.2]; exact List.mem_cons_self))
theorem zk.kept (h:zk W r x) (hg:W.grownBy W' none):zk W' r x:=h.frame (ts:=[]) (nC.grown hg) (by simp) (by simp) (by simp) (by simp) (by simp)
theorem Gt.kept (h:Gt W B v fl xs) (hg:W.grownBy W' none):Gt W' B v fl xs :=
 ⟨h.len,h.row.kept hg (by cases v.ownBlock <;> simp),fun i hi=>(h.at_ i hi).kept hg,h.pair,fun m hm=>⟨(h.bnd m hm).1,Nat.lt_of_lt_of_le (h.bnd m hm).2 hg.size⟩⟩
theorem Gt.more (h:Gt W B v fl xs) (hf:zk W r x) (hmg:∀ q∈fl,q.mg < r.mg) (hB:B<=r.mg) (hmw:r.mg < W.heap.size) (hown:w3.ownsRow B 117 2 v' (xs.length+1) (fl.flatMap Lb ++ Lb r)) (hg:W.grownBy w3 v.ownBlock):Gt w3 B v' (fl ++ [r]) (xs ++ [x]):=by
 have FR:nC [117] W w3:=nC.row hg (bR.own h.row) (by simp);refine ⟨by simp [h.len],by simpa using hown,fun i hi=>?_,?_,fun m hm=>?_⟩
 ·by_cases hlt:i < xs.length
  ·rw [List.getElem_append_left (by rw [h.len]; exact hlt),List.getElem_append_left hlt];exact (h.at_ i hlt).frame FR (by decide) (by decide) (by decide) (by decide) (by decide)
  ·have hi2:i=xs.length:=by simp at hi; omega
   subst hi2;have e2:(fl ++ [r])[xs.length]'(by simp [h.len])=r:=by simp [<- h.len]
   have e3:(xs ++ [x])[xs.length]=x:=by simp
   rw [e2,e3];exact hf.frame FR (by decide) (by decide) (by decide) (by decide) (by decide)
 ·rw [List.pairwise_append];exact ⟨h.pair,List.pairwise_singleton _ _,fun y hy z hz=>by simp at hz; subst hz; exact hmg y hy⟩
 ·rcases List.mem_append.1 hm with hm | hm
  ·exact ⟨(h.bnd m hm).1,Nat.lt_of_lt_of_le (h.bnd m hm).2 hg.size⟩
  ·simp at hm; subst hm; exact ⟨hB,Nat.lt_of_lt_of_le hmw hg.size⟩
end
theorem ysp (U:World) (b:Bool) (Sn:Value):∀ j u,[Value.bool b,Sn][j]?=some u->(U.alloc (.cells #[.bool b,Sn] 117)).cell? ((⟨U.heap.size,0,none⟩:Addr).add j)=some u:=by
 intro j u hu;have e:(⟨U.heap.size,0,none⟩:Addr).add j=⟨U.heap.size,j,none⟩:=by
  unfold Addr.add;by_cases h0:j=0
  ·subst h0; simp
  ·simp [h0]
 rw [e,(yc.new U #[.bool b,Sn] 117).cell j];simpa using hu
def ynv (W0:World) (bt bf bd:Int) (fs:List (List UInt8)) (e:Ending) (w':World):Prop :=
 (∃ f:Ln.qN,f.e≠0/\e = .returned (.tuple #[.pointer none,fQ f]) /\
  (f=pO bt bf bd \/
  (pO bt bf bd=Ln.ok/\(fs.length < 1\/8 < fs.length)/\f=⟨31,0,[]⟩) \/
  (pO bt bf bd=Ln.ok/\1<=fs.length/\fs.length<=8/\∃ i,∃ h:i < fs.length,f=⟨32,i,[]⟩/\NJ fs[i]/\∀ j (hj:j < i),∃ a os,uG (fs[j]'(by omega)) a os))) \/
 (pO bt bf bd=Ln.ok/\1<=fs.length/\fs.length<=8/\∃ (xs:List (Bool×List Lk.Obj)) (hx:xs.length=fs.length) (P:Nat) (vm:Value) (bl gl:List Nat),(∀ i (h:i < fs.length),uG fs[i] (xs[i]'(by omega)).1 (xs[i]'(by omega)).2)/\e = .returned (.tuple #[aW P,fQ Ln.ok])/\pJ W0 P bt bf bd vm bl gl (Ln.bQ xs) w')
theorem uo {w:World} {g:Nat} {cs:Array Value} {t:TypeId} (h:yc w g cs t):yc w.drew g cs t:=h.drewN 1
theorem yql (bt bf bd:Int) (f:Ln.qN) (h:f=pO bt bf bd) (he:f.e=0):f=Ln.ok:=by
 subst h;unfold pO at he ⊢;by_cases h1:¬ Im.Base bt
 ·rw [if_pos h1] at he; cases he
 rw [if_neg h1] at he ⊢;by_cases h2:¬ Im.Base bf
 ·rw [if_pos h2] at he; cases he
 rw [if_neg h2] at he ⊢;by_cases h3:¬ Im.Base bd
 ·rw [if_pos h3] at he; cases he
 rw [if_neg h3]
theorem ymA (bt bf bd:Int) (af:Option Addr) (cf:Nat) (fs:List (List UInt8)) (w:World) (hin:AQ w af fs) (hsz:∀ f∈fs,f.length<=1048576) (ht:dQ w) (hn:fs.length<=1048576) :
  Calls Tryz.prog 37 #[.slice af fs.length cf,.agg #[.int .i64 bt,.int .i64 bf,.int .i64 bd]] w fun e w'=>ynv w bt bf bd fs e w'/\w.grownBy w' none:=by
 have cB:=hid (fun W=>yhJ bt bf bd W);have hs1:(w.alloc (.cells #[.int .i64 bt,.int .i64 bf,.int .i64 bd] 33)).heap.size=w.heap.size+1:=Array.size_push _;have A1:=aJ (w.alloc (.cells #[.int .i64 bt,.int .i64 bf,.int .i64 bd] 33)) (.cells #[.int .i64 0,.int .i64 0,.string ⟨#[]⟩] 45) none;have G1:=hid (ya (aJ w (.cells #[.int .i64 bt,.int .i64 bf,.int .i64 bd] 33) none) A1);have BB:=hid ((yc.new w #[.int .i64 bt,.int .i64 bf,.int .i64 bd] 33).grown A1 (by simp));have BF:=hid (yc.new (w.alloc (.cells #[.int .i64 bt,.int .i64 bf,.int .i64 bd] 33)) #[.int .i64 0,.int .i64 0,.string ⟨#[]⟩] 45);rw [hs1] at BF
 have HI:=hid hin;have HT:=hid ht;clear hs1 A1 hin ht;obtain ⟨f,hf⟩:∃ f,f=pO bt bf bd:=⟨_,rfl⟩
 rw [<- hf] at cB;have Eo:=hid hf;clear hf;unfold fQ at cB;go_enter Tryz.func37,Tryz.ntmps37;go_wp2_with fail;refine (cB.o _).mono ?_;rintro e W2 ⟨rfl,h2⟩;have G2:=hid (ya G1.o h2);have Z5:=hid (BB.o.grown h2 (by simp));have vU:=hid (BF.o.grown h2 (by simp));clear h2 cB BB BF G1;have z0:W2.cell? ⟨w.heap.size+1,0,none⟩=some (.int .i64 0):=vU.o.cell 0;have z1:W2.cell? ⟨w.heap.size+1,1,none⟩=some (.int .i64 0):=vU.o.cell 1;have z2:W2.cell? ⟨w.heap.size+1,2,none⟩=some (.string ⟨#[]⟩):=vU.o.cell 2;have f0:=vU.o.free 0;have f1:=vU.o.free 1;have f2:=vU.o.free 2;have hlF:=vU.o.lt;have hnF:w.heap.size+1≠W2.heap.size:=by omega
 by_cases he:f.e=0
 case neg =>
  have d1:(f.e == 0)=false:=by simpa using he
  have HE:=hid he;go_wp2;have BX:=hid (yc.new W2 #[.int .i64 f.e,.int .i64 f.at_,.string (bs f.name)] 45);have AX:=hid (aJ W2 (.cells #[.int .i64 f.e,.int .i64 f.at_,.string (bs f.name)] 45) none);have wB:=hid (vU.o.grown AX.o (by simp));have G3:=hid (ya G2.o AX.o);clear z0 z1 z2 f0 f1 f2;generalize hV:W2.alloc (.cells #[.int .i64 f.e,.int .i64 f.at_,.string (bs f.name)] 45)=V at *;generalize hX:W2.heap.size=X at *;have z0:V.cell? ⟨w.heap.size+1,0,none⟩=some (.int .i64 0):=wB.o.cell 0;have z1:V.cell? ⟨w.heap.size+1,1,none⟩=some (.int .i64 0):=wB.o.cell 1;have z2:V.cell? ⟨w.heap.size+1,2,none⟩=some (.string ⟨#[]⟩):=wB.o.cell 2
  have f0:=wB.o.free 0;have f1:=wB.o.free 1;have f2:=wB.o.free 2;have x0:V.cell? ⟨X,0,none⟩=some (.int .i64 f.e):=BX.o.cell 0;have x1:V.cell? ⟨X,1,none⟩=some (.int .i64 f.at_):=BX.o.cell 1;have x2:V.cell? ⟨X,2,none⟩=some (.string (bs f.name)):=BX.o.cell 2
  go_region_held3 (fun w'=>w'.cell? ⟨X,0,none⟩=some (.int .i64 f.e)/\w'.cell? ⟨X,1,none⟩=some (.int .i64 f.at_)/\w'.cell? ⟨X,2,none⟩=some (.string (bs f.name)))
   (go_keep)
   (fail)
  go_wp2;have F:=uo (((wB.o.set 0 (.int .i64 f.e)).set 1 (.int .i64 f.at_)).set 2 (.string (bs f.name)));have h0:=F.cell 0;have h1:=F.cell 1;have h2:=F.cell 2;simp only [gu,fZ,gq,bI,bN,bK] at h0 h1 h2;refine bodyPost_ret (v:=.tuple #[.pointer none,fQ f]) ?_ rfl ⟨.inl ⟨f,HE.o,rfl,.inl Eo.o⟩,yh (yz G3.o _ (by omega) _ _ _)⟩;clear F z0 z1 z2 f0 f1 f2 x0 x1 x2 wB BX;generalize World.drew _=WF at *;simp [results,Tryz.results37,go_sem,fQ,h0,h1,h2]
 case pos =>
  have hok:f=Ln.ok:=yql bt bf bd f Eo.o he;subst hok;by_cases hc:1<=fs.length/\fs.length<=8
  case neg =>
   have FIN:=hid (show (fs.length < 1\/8 < fs.length) by omega);unfold Ln.ok;by_cases h1:fs.length < 1
   ·have d2:decide ((fs.length:Int) < 1)=true:=by simp; omega
    go_wp2;have F:=(((vU.o.set 0 (.int .i64 31)).set 1 (.int .i64 0)).set 2 (.string ⟨#[]⟩)).grown (aJ _ (.cells #[.int .i64 0,.int .i64 0,.string (bs [])] 45) none) (by simp);have h0:=F.cell 0;have h1:=F.cell 1;have h2:=F.cell 2;simp only [gu,fZ,gq,bI,bN,bK] at h0 h1 h2;refine bodyPost_ret (v:=.tuple #[.pointer none,fQ ⟨31,0,[]⟩]) ?_ rfl ⟨.inl ⟨⟨31,0,[]⟩,by decide,rfl,.inr (.inl ⟨Eo.o.symm,FIN.o,rfl⟩)⟩,ya (yz G2.o _ (by omega) _ _ _) (aJ _ _ none)⟩;clear F z0 z1 z2 f0 f1 f2;generalize World.alloc _ _=WF at *;simp [results,Tryz.results37,go_sem,fQ,bs,h0,h1,h2]
   ·have d2:decide ((fs.length:Int) < 1)=false:=by simp; omega
    have d3:decide ((8:Int) < (fs.length:Int))=true:=by simp; omega
    go_wp2;have F:=(((vU.o.set 0 (.int .i64 31)).set 1 (.int .i64 0)).set 2 (.string ⟨#[]⟩)).grown (aJ _ (.cells #[.int .i64 0,.int .i64 0,.string (bs [])] 45) none) (by simp);have h0:=F.cell 0;have h1:=F.cell 1;have h2:=F.cell 2;simp only [gu,fZ,gq,bI,bN,bK] at h0 h1 h2;refine bodyPost_ret (v:=.tuple #[.pointer none,fQ ⟨31,0,[]⟩]) ?_ rfl ⟨.inl ⟨⟨31,0,[]⟩,by decide,rfl,.inr (.inl ⟨Eo.o.symm,FIN.o,rfl⟩)⟩,ya (yz G2.o _ (by omega) _ _ _) (aJ _ _ none)⟩;clear F z0 z1 z2 f0 f1 f2;generalize World.alloc _ _=WF at *;simp [results,Tryz.results37,go_sem,fQ,bs,h0,h1,h2]
  case pos =>
   have d2:decide ((fs.length:Int) < 1)=false:=by simp; omega
   have d3:decide ((8:Int) < (fs.length:Int))=false:=by simp; omega
   have AX:=hid (aJ W2 (.cells #[.int .i64 0,.int .i64 0,.string (bs [])] 45) none);have wB:=hid (vU.o.grown AX.o (by simp));have Z6:=hid (Z5.o.grown AX.o (by simp));have G3:=hid (ya G2.o AX.o);have hs3:(W2.alloc (.cells #[.int .i64 0,.int .i64 0,.string (bs [])] 45)).heap.size=W2.heap.size+1:=Array.size_push _;have HS3:=hid hs3;clear hs3 z0 z1 z2 f0 f1 f2;obtain ⟨i0,hi,hz0,hz1,hz2⟩:=info_parts Tryz.Cb;unfold Ln.ok;go_wp2;generalize W2.alloc (.cells #[.int .i64 0,.int .i64 0,.string (bs [])] 45)=W3 at *
   go_loopw [7,32] (fun vl i wr=>∃ (k:Nat) (fl:List FR) (xs:List (Bool×List Lk.Obj)),k<=fs.length/\i = .int .i64 k/\xs.length=k/\(∀ j (h:j < k) (h1:j < fs.length) (h2:j < xs.length),uG fs[j] xs[j].1 xs[j].2)/\Gt wr w.heap.size vl fl xs/\yc wr w.heap.size #[.int .i64 bt,.int .i64 bf,.int .i64 bd] 33/\yc wr (w.heap.size+1) #[.int .i64 0,.int .i64 0,.string ⟨#[]⟩] 45/\w.grownBy wr none) (fun _ i _=>fs.length - (intOf i).toNat)
   case atStart=>exact ⟨0,[],[],Nat.zero_le _,rfl,rfl,fun j h=>by omega,⟨rfl,World.ownsRow_nil _ _ _ _,fun i h=>by simp at h,List.Pairwise.nil,fun m hm=>by simp at hm⟩,Z6.o,wB.o,G3.o⟩
   case round =>
    obtain ⟨k,fl,xs,hk,rfl,hxl,hfi,hfa,hbb,hbf,hgw⟩:=hrel;obtain ⟨al,cl,rfl⟩:=yi hfa.row;have N9:=hid hfi;have N8:=hid hfa;have nY:=hid hbb;have wE:=hid hbf;have zo:=hid hgw;clear hfi hfa hbb hbf hgw;by_cases hlt:k < fs.length
    ·obtain ⟨sg,off,hsg,hsc⟩:=HI.o.kept zo.o (by omega);have ck:=hsc k hlt;have cR:=hid (ykl (bs fs[k]) wr (HT.o.grown zo.o) (by rw [zh]; exact hsz _ (iq hlt)));rw [Gx] at cR;have g1:(k:Int) < (fs.length:Int):=by omega
     generalize WJ:fs[k]=fk at *;have Vf:=hid WJ;clear hsc WJ;subst hsg;go_wp2_with fail;refine cR.o.mono ?_;rintro e U5 ⟨RJ,h5⟩;rcases RJ with ⟨v,a,os,q1,rfl,mg,cap,gs,rfl,q2,q3,q4,q5⟩ | ⟨q1,rfl⟩
     ·have FM:=hid (show zk U5 ⟨a,mg,os.length,cap⟩ (a,os) from ⟨rfl,rfl,gs,q3,q4,q5⟩);have QI:=hid q1;have hmU:mg < U5.heap.size:=by
       obtain ⟨cur,hb,-⟩:=q3.row;exact hb.lt
      have hsz5:=h5.size;have UZ:=hid (N8.o.kept h5);have UH:=hid (nY.o.grown h5 (by simp));have AY:=hid (wE.o.grown h5 (by simp));have Kl:=hid (ya zo.o h5);have BN:=hid (fun (q:FR) (hq:q∈fl)=>show q.mg < (⟨a,mg,os.length,cap⟩:FR).mg from Nat.lt_of_lt_of_le (N8.o.bnd q hq).2 q2);have hwl:=zo.o.size;clear q1 q3 h5 cR ck N8 nY wE zo;have A1:=hid (aJ U5 (.cells #[.bool a,.slice (some ⟨mg,0,none⟩) os.length cap] 117) none);have VK:(U5.alloc (.cells #[.bool a,.slice (some ⟨mg,0,none⟩) os.length cap] 117)).heap.size=U5.heap.size+1:=Array.size_push _;have A2:=hid (aJ (U5.alloc (.cells #[.bool a,.slice (some ⟨mg,0,none⟩) os.length cap] 117)) (.cells #[.bool a,.slice (some ⟨mg,0,none⟩) os.length cap] 117) none)
      have CN:=hid (ysp (U5.alloc (.cells #[.bool a,.slice (some ⟨mg,0,none⟩) os.length cap] 117)) a (.slice (some ⟨mg,0,none⟩) os.length cap));rw [VK] at CN;have Qt:=hid (UZ.o.kept (ya A1.o A2.o));have DW:=hid Qt.o.row;have hcl:=qU DW.o;have Ww:w.heap.size<=((U5.alloc (.cells #[.bool a,.slice (some ⟨mg,0,none⟩) os.length cap] 117)).alloc (.cells #[.bool a,.slice (some ⟨mg,0,none⟩) os.length cap] 117)).heap.size:=Nat.le_trans Kl.o.size (ya A1.o A2.o).size;have HB6:=hid Ww;rw [hxl] at DW hcl;have STEP:=hid (fun (v':Value) (w3:World) (hown':w3.ownsRow w.heap.size 117 2 v' (k+1) (fl.flatMap Lb ++ [.bool a,.slice (some ⟨mg,0,none⟩) os.length cap])) (hgrow:((U5.alloc (.cells #[.bool a,.slice (some ⟨mg,0,none⟩) os.length cap] 117)).alloc (.cells #[.bool a,.slice (some ⟨mg,0,none⟩) os.length cap] 117)).grownBy w3 (Value.ownBlock (.slice al k cl)))=>show Gt w3 w.heap.size v' (fl ++ [⟨a,mg,os.length,cap⟩]) (xs ++ [(a,os)])/\yc w3 w.heap.size #[.int .i64 bt,.int .i64 bf,.int .i64 bd] 33/\yc w3 (w.heap.size+1) #[.int .i64 0,.int .i64 0,.string ⟨#[]⟩] 45/\w.grownBy w3 none by
       have A:=ya A1.o A2.o;have RT:=bR.own DW.o;refine ⟨?_,yF (UH.o.grown A (by simp)) hgrow RT (by decide),yF (AY.o.grown A (by simp)) hgrow RT (by decide),yO (ya Kl.o A) hgrow (fun b e=>(DW.o.lt b e).1)⟩;refine Gt.more Qt.o (FM.o.kept A) BN.o (show w.heap.size<=mg by omega) (show mg < _ from Nat.lt_of_lt_of_le hmU A.size) (by rw [hxl]; exact hown') (by rw [hxl]; exact hgrow))
      clear VK Ww UZ UH AY Kl FM BN Qt;have En:=hid (show ∀ j (h:j < k+1) (h1:j < fs.length) (h2:j < (xs ++ [(a,os)]).length),uG fs[j] (xs ++ [(a,os)])[j].1 (xs ++ [(a,os)])[j].2 from fun j h h1 h2=>by
       by_cases hj:j < k
       ·rw [List.getElem_append_left (by omega)];exact N9.o j hj h1 (by omega)
       ·obtain rfl:j=k:=by omega
        have e1:(xs ++ [(a,os)])[j]=(a,os):=by simp [<- hxl]
        rw [e1,Vf.o];exact QI.o)
      rw [hxl];go_wp2_with (at_builtin; refine OT _ rfl _ _ 114 rfl w.heap.size 117 i0 (.agg #[.bool false,.slice none 0 0]) 2 32 Tryz.underlying114 hi hz0 hz1 hz2 rfl (by decide) _ _ _ rfl DW.o ⟨U5.heap.size+1,0,none⟩ 1 1 [.bool a,.slice (some ⟨mg,0,none⟩) os.length cap] rfl rfl CN.o (by intro u hu; simp at hu; rcases hu with rfl | rfl <;> rfl) (by unfold maxLen; omega) (by omega) HB6.o ?_; intro v' w3 hown' hgrow hblk; obtain ⟨oh,cv',rfl⟩:=yi hown'; obtain ⟨r1,r2,r3,r4⟩:=STEP.o _ _ hown' hgrow; have Q1:=hid r1; have Q2:=hid r2; have Q3:=hid r3; have Q4:=hid r4; clear hgrow hown' r1 r2 r3 r4 hblk)
      go_roundw
      case rel=>exact ⟨k+1,_,_,by omega,by go_num,by simp [hxl],En.o,Q1.o,Q2.o,Q3.o,Q4.o⟩
      case measure=>simp [intOf]; omega
     ·have N:=hid q1;have AY:=hid (wE.o.grown h5 (by simp));have G5:=hid (ya zo.o h5);have hR5:=AY.o.lt;have hRn:w.heap.size+1≠U5.heap.size:=by omega
      have z0:U5.cell? ⟨w.heap.size+1,0,none⟩=some (.int .i64 0):=AY.o.cell 0;have z1:U5.cell? ⟨w.heap.size+1,1,none⟩=some (.int .i64 0):=AY.o.cell 1;have z2:U5.cell? ⟨w.heap.size+1,2,none⟩=some (.string ⟨#[]⟩):=AY.o.cell 2;have f0:=AY.o.free 0;have f1:=AY.o.free 1;have f2:=AY.o.free 2;clear q1 h5 cR ck;go_wp2;have F:=(((AY.o.set 0 (.int .i64 32)).set 1 (.int .i64 k)).set 2 (.string ⟨#[]⟩)).grown (aJ _ (.cells #[.bool false,.slice none 0 0] 117) none) (by simp);have h0:=F.cell 0;have h1:=F.cell 1;have h2:=F.cell 2;simp only [gu,fZ,gq,bI,bN,bK] at h0 h1 h2;refine bodyPost_ret (v:=.tuple #[.pointer none,fQ ⟨32,k,[]⟩]) ?_ rfl ⟨.inl ⟨⟨32,k,[]⟩,(show (32:Int)≠0 by decide),rfl,.inr (.inr ⟨Eo.o.symm,hc.1,hc.2,k,hlt,rfl,by rw [Vf.o]; exact N.o,fun j hj=>⟨_,_,N9.o j hj (by omega) (by omega)⟩⟩)⟩,ya (yz G5.o _ (by omega) _ _ _) (aJ _ _ none)⟩
      clear F z0 z1 z2 f0 f1 f2;generalize World.alloc _ _=WF at *;simp [results,Tryz.results37,go_sem,fQ,bs,h0,h1,h2]
    ·obtain rfl:k=fs.length:=by omega
     have g3:decide ((fs.length:Int) < (fs.length:Int))=false:=by simp
     have b0:wr.cell? ⟨w.heap.size,0,none⟩=some (.int .i64 bt):=nY.o.cell 0;have b1:wr.cell? ⟨w.heap.size,1,none⟩=some (.int .i64 bf):=nY.o.cell 1;have b2:wr.cell? ⟨w.heap.size,2,none⟩=some (.int .i64 bd):=nY.o.cell 2;have AP:=hid (aJ wr (.cells #[.int .i64 bt,.int .i64 bf,.int .i64 bd,.slice none 0 0,.pointer none,.int .i64 0,.int .i64 0,.int .i64 0] 125) none);have BP:=hid (yc.new wr #[.int .i64 bt,.int .i64 bf,.int .i64 bd,.slice none 0 0,.pointer none,.int .i64 0,.int .i64 0,.int .i64 0] 125);have hwr:=zo.o.size;have GA0:=hid (show pJ w wr.heap.size bt bf bd (.slice none 0 0) [] [] [] (wr.alloc (.cells #[.int .i64 bt,.int .i64 bf,.int .i64 bd,.slice none 0 0,.pointer none,.int .i64 0,.int .i64 0,.int .i64 0] 125)) from ⟨BP.o,World.ownsRow_nil _ _ _ _,rfl,rfl,fun i h=>by simp at h,fun i h=>by simp at h,by simp,fun o ho=>by simp at ho,hwr,fun b hb=>by simp at hb,ya zo.o AP.o,List.nodup_nil⟩)
     have Lf:=hid (N8.o.kept AP.o);have Z7:=hid (wE.o.grown AP.o (by simp));have LN:=hid (show ∀ i (h:i < xs.length),xs[i].2.length<=6 from fun i h=>by
      rcases N9.o i (by omega) (by omega) h with ⟨-,-,e⟩ | ⟨-,-,ms,e,e2⟩
      ·rw [e]; simp
      ·rw [e2]; simpa using e.1.2)
     rw [hxl];go_wp2;generalize wr.alloc (.cells #[.int .i64 bt,.int .i64 bf,.int .i64 bd,.slice none 0 0,.pointer none,.int .i64 0,.int .i64 0,.int .i64 0] 125)=W4 at *;generalize Wz:wr.heap.size=P at *;have HPP:=hid Wz;clear Wz b0 b1 b2
     go_loopw [56] (fun i wr2=>∃ (k:Nat) (bl gl:List Nat) (vm:Value),k<=xs.length/\i = .int .i64 k/\pJ w P bt bf bd vm bl gl (Ln.bQ (xs.take k)) wr2/\bl.length<=6 * k/\(∀ i (h1:i < fl.length) (h:i < xs.length),k<=i->zk wr2 fl[i] xs[i])/\wr2.ownsRow w.heap.size 117 2 (.slice al xs.length cl) xs.length (fl.flatMap Lb)/\yc wr2 (w.heap.size+1) #[.int .i64 0,.int .i64 0,.string ⟨#[]⟩] 45) (fun i _=>xs.length - (intOf i).toNat)
     case atStart=>exact ⟨0,[],[],_,Nat.zero_le _,rfl,GA0.o,Nat.le_refl _,fun i h1 h _=>Lf.o.at_ i h,Lf.o.row,Z7.o⟩
     case round =>
      obtain ⟨k,bl,gl,vm,hk2,rfl,hga,hbl,hfr,hrw,hbf⟩:=hrel;have Vg:=hid hga;have Km:=hid hfr;have HRW:=hid hrw;have wE:=hid hbf;clear hga hfr hrw hbf;by_cases hlt:k < xs.length
      ·have hkl:k < fl.length:=by rw [Lf.o.len]; exact hlt
       obtain ⟨sg,hsg⟩:∃ sg,al=some ⟨sg,0,none⟩:=by
        rcases HRW.o.2 with ⟨h1,h2⟩ | ⟨g,cap',cur,hv,_⟩
        ·simp at h1; omega
        ·simp only [Value.slice.injEq] at hv;exact ⟨g,hv.1⟩
       subst hsg;have q:=fun j (hj:j < 2)=>(HRW.o.cellAt (k * 2+j) (by omega)).trans (KW Lb 2 (fun _=>rfl) fl k j hkl hj)
       have m0:wr.cell? ⟨sg,k * 2,none⟩=some (.bool fl[k].a):=q 0 (by omega);have m1:wr.cell? ⟨sg,k * 2+1,none⟩=some (.slice (some ⟨fl[k].mg,0,none⟩) fl[k].n fl[k].cap):=q 1 (by omega);clear q;obtain ⟨e0,e1,gs,hm,hcm⟩:=Km.o k hkl hlt (Nat.le_refl _);rw [e0] at m0;rw [e1] at m1;have HL:=LN.o k hlt;have TK:=hid (show Ln.bQ (xs.take (k+1))=Ln.gG (Ln.bQ (xs.take k)) xs[k] by
        unfold Ln.bQ;rw [List.take_succ_eq_append_getElem hlt,List.foldl_append];rfl)
       have Z9:=Lf.o.bnd _ (iq hkl);have NE:=hid (show ∀ i (h1:i < fl.length),k+1<=i->fl[i].mg≠fl[k].mg from fun i h1 hi=>by
        have:=(List.pairwise_iff_getElem.1 Lf.o.pair) k i hkl h1 (by omega)
        omega)
       generalize hr:fl[k]=r at *;generalize hx:xs[k]=x at *;obtain ⟨ra,WS,rn,M8⟩:=r;obtain ⟨xa,xo⟩:=x;dsimp only at *;subst e0 e1;have AL:=hid (aJ wr (.cells #[.bool ra,.slice (some ⟨WS,0,none⟩) xo.length M8] 117) none);have cT:=hid (ykC w P bt bf bd vm bl gl (Ln.bQ (xs.take k)) WS M8 gs ra xo _ (Vg.o.kept AL.o) (hm.kept AL.o) (by omega) Z9.1 hcm);have HM:=hid (hm.kept AL.o);clear hm;have g1:(k:Int) < (xs.length:Int):=by omega
       have hcm2:=hcm.2;unfold maxLen at hcm2;unfold aW at cT;go_wp2_with fail;refine cT.o.mono ?_;rintro e W7 ⟨rfl,⟨WU,b7,g7,h7,l7⟩,f7⟩;have Lv:=hid h7;obtain ⟨cur,hcb,-⟩:=HM.o.row;have NT:=f7.frame hcb;have Lp:=hid (show ∀ i (h1:i < fl.length) (h:i < xs.length),k+1<=i->zk W7 fl[i] xs[i] from fun i h1 h hi=>((Km.o i h1 h (by omega)).kept AL.o).IU f7 (NE.o i h1 hi) (fun g o ho=>NT.obj ho (by decide) (by decide) (by decide) (by decide)) (by decide));have RW7:=hid (NT.own (HRW.o.kept AL.o (Decidable.em _)) (by decide));have Z8:=hid (NT _ _ _ (wE.o.grown AL.o (by simp)) (by decide));clear h7 f7 cT m0 m1 NT
       go_wp2
       go_roundw
       case rel=>exact ⟨k+1,_,_,_,by omega,by go_num,by rw [TK.o]; exact Lv.o,by omega,Lp.o,RW7.o,Z8.o⟩
       case measure=>simp [intOf]; omega
      ·obtain rfl:k=xs.length:=by omega
       have g3:decide ((xs.length:Int) < (xs.length:Int))=false:=by simp
       have z0:wr.cell? ⟨w.heap.size+1,0,none⟩=some (.int .i64 0):=wE.o.cell 0;have z1:wr.cell? ⟨w.heap.size+1,1,none⟩=some (.int .i64 0):=wE.o.cell 1;have z2:wr.cell? ⟨w.heap.size+1,2,none⟩=some (.string ⟨#[]⟩):=wE.o.cell 2;have f0:=wE.o.free 0;have f1:=wE.o.free 1;have f2:=wE.o.free 2;have hR:=wE.o.lt;go_wp2;have c0:=wE.o.set 0 (.int .i64 0);have c1:=c0.set 1 (.int .i64 0);have F:=c1.set 2 (.string ⟨#[]⟩);have Kn:∀ b,some (w.heap.size+1)=some b->w.heap.size<=b:=fun b e=>by simp at e; omega
       have GF:=(((Vg.o.ty (ye _ _ 0 (.int .i64 0)) (bR.blk wE.o) Kn (by decide) (by decide) (by decide) (by decide) (by decide) (by decide) (by decide)).ty (ye _ _ 1 (.int .i64 0)) (bR.blk c0) Kn (by decide) (by decide) (by decide) (by decide) (by decide) (by decide) (by decide)).ty (ye _ _ 2 (.string ⟨#[]⟩)) (bR.blk c1) Kn (by decide) (by decide) (by decide) (by decide) (by decide) (by decide) (by decide))
       have h0:=F.cell 0;have h1:=F.cell 1;have h2:=F.cell 2;simp only [gu,fZ,gq,bI,bN,bK] at h0 h1 h2;refine bodyPost_ret (v:=.tuple #[aW P,fQ Ln.ok]) ?_ rfl ⟨.inr ⟨Eo.o.symm,hc.1,hc.2,xs,hxl,P,vm,bl,gl,fun i h=>N9.o i h h (by omega),rfl,by have:=GF; rw [List.take_length] at this; exact this⟩,GF.gr⟩;clear F GF z0 z1 z2 f0 f1 f2 c0 c1;generalize World.setCell _ _ _=WF at *;simp [results,Tryz.results37,go_sem,fQ,Ln.ok,aW,bs,h0,h1,h2]
def AU (bl:List Nat) (s:Ln.gM):List Value:=[.pointer (nH bl s.mod),.int .i64 s.ah,.int .i64 s.off]
def yD (W:World) (bl:List Nat) (b g:Nat) (m:Ln.Mod):Prop :=
 ∃ vm vs vt vf,yc W b #[aW g,vm,vs,vt,vf,.int .i64 m.data,.int .i64 m.bss] 130/\yu W g m.obj /\
  W.ownsRow 0 123 3 vm m.means.length (m.means.flatMap (AU bl))/\W.ownsRow 0 4 1 vs m.short.length (m.short.map Value.bool) /\
  W.ownsRow 0 3 1 vt m.text.length (m.text.map (Value.int .i64))/\W.ownsRow 0 3 1 vf m.far.length (m.far.map (Value.int .i64)) /\
  (m.means=[]->vm = .slice none 0 0)/\(m.short=[]->vs = .slice none 0 0)
structure ProgAt (W0:World) (P:Nat) (bt bf bd:Int) (vm:Value) (bl gl:List Nat) (ms:List Ln.Mod) (st:Ln.gM) (no:Int) (W:World):Prop where
 blk:yc W P #[.int .i64 bt,.int .i64 bf,.int .i64 bd,vm,.pointer (nH bl st.mod),.int .i64 st.ah,.int .i64 st.off,.int .i64 no] 125
 row:W.ownsRow W0.heap.size 121 1 vm bl.length (bl.map aW)
 iQ:gl.length=bl.length
 gK:ms.length=bl.length
 mods:∀ i (h:i < bl.length),yD W bl bl[i] (gl[i]'(by rw [iQ]; exact h)) (ms[i]'(by rw [gK]; exact h))
 few:bl.length<=4096
 syms:∀ m∈ms,m.obj.syms.length<=65535
 lo:W0.heap.size<=P
 los:∀ b∈bl,W0.heap.size<=b
 gr:W0.grownBy W none
 nd:bl.Nodup
theorem JN {W:World} {B size n:Nat} {e:TypeId} {v:Value} {xs:List Value} (h:W.ownsRow B e size v n xs):W.ownsRow 0 e size v n xs:=by
 refine ⟨h.1,?_⟩;rcases h.2 with q | ⟨g,cap,cur,hv,_,r⟩
 ·exact .inl q
 ·exact .inr ⟨g,cap,cur,hv,Nat.zero_le _,r⟩
theorem ypB {l:List Nat} (h:l.Nodup) {i j:Nat} (hi:i < l.length) (hj:j < l.length) (hne:i≠j):l[i]≠l[j]:=by
 rcases Nat.lt_or_gt_of_ne hne with q | q
 ·exact List.pairwise_iff_getElem.1 h i j hi hj q
 ·exact fun c=>List.pairwise_iff_getElem.1 h j i hj hi q c.symm
section
variable {W0 W W':World} {P:Nat} {bt bf bd:Int} {vm:Value} {bl gl:List Nat} {ms:List Ln.Mod} {st:Ln.gM} {no:Int} {b g:Nat} {m:Ln.Mod}
theorem yD.kept (h:yD W bl b g m) (hg:W.grownBy W' none):yD W' bl b g m:=by
 obtain ⟨v1,v2,v3,v4,q0,q1,q2,q3,q4,q5,q6⟩:=h;have k:∀ (v:Value),v.ownBlock=none\/v.ownBlock≠none:=fun v=>Decidable.em _
 exact ⟨v1,v2,v3,v4,q0.grown hg (by simp),q1.kept hg,q2.kept hg (k _),q3.kept hg (k _),q4.kept hg (k _),q5.kept hg (k _),q6⟩
theorem yD.ty {row:Option Nat} {e:TypeId} (h:yD W bl b g m) (hg:W.grownBy W' row) (hr:bR W row e) (h1:130≠e) (h2:71≠e) (h3:3≠e) (h4:100≠e) (h5:102≠e) (h6:123≠e) (h7:4≠e):yD W' bl b g m:=by
 obtain ⟨v1,v2,v3,v4,q0,q1,q2,q3,q4,q5,q6⟩:=h;exact ⟨v1,v2,v3,v4,yF q0 hg hr h1,um q1 hg hr h2 h3 h4 h5,yA q2 hg hr h6,yA q3 hg hr h7,yA q4 hg hr h3,yA q5 hg hr h3,q6⟩
theorem yD.other {k:Nat} {cur:Array Value} (h:yD W bl b g m) (hg:W.grownBy W' (some k)) (hr:yc W k cur 130) (hne:b≠k):yD W' bl b g m:=by
 obtain ⟨v1,v2,v3,v4,q0,q1,q2,q3,q4,q5,q6⟩:=h;have R:=bR.blk hr;exact ⟨v1,v2,v3,v4,q0.grown hg (by simp; omega),um q1 hg R (by decide) (by decide) (by decide) (by decide),yA q2 hg R (by decide),yA q3 hg R (by decide),yA q4 hg R (by decide),yA q5 hg R (by decide),q6⟩
theorem ProgAt.kept (h:ProgAt W0 P bt bf bd vm bl gl ms st no W) (hg:W.grownBy W' none):ProgAt W0 P bt bf bd vm bl gl ms st no W' :=
 ⟨h.blk.grown hg (by simp),h.row.kept hg (by cases vm.ownBlock <;> simp),h.iQ,h.gK,fun i hi=>(h.mods i hi).kept hg,h.few,h.syms,h.lo,h.los,ya h.gr hg,h.nd⟩
theorem ProgAt.ty {row:Option Nat} {e:TypeId} (h:ProgAt W0 P bt bf bd vm bl gl ms st no W) (hg:W.grownBy W' row) (hr:bR W row e) (hlo:∀ k,row=some k->W0.heap.size<=k) (h0:125≠e) (h00:121≠e) (h1:130≠e) (h2:71≠e) (h3:3≠e) (h4:100≠e) (h5:102≠e) (h6:123≠e) (h7:4≠e):ProgAt W0 P bt bf bd vm bl gl ms st no W' :=
 ⟨yF h.blk hg hr h0,yA h.row hg hr h00,h.iQ,h.gK,fun i hi=>(h.mods i hi).ty hg hr h1 h2 h3 h4 h5 h6 h7,h.few,h.syms,h.lo,h.los,yO h.gr hg hlo,h.nd⟩
theorem ProgAt.upd {k:Nat} {m':Ln.Mod} (h:ProgAt W0 P bt bf bd vm bl gl ms st no W) (hk:k < bl.length) (hk':k < ms.length) (hg:W.grownBy W' (some bl[k])) (hm:yD W' bl bl[k] (gl[k]'(by rw [h.iQ]; exact hk)) m') (ho:m'.obj=ms[k].obj):ProgAt W0 P bt bf bd vm bl gl (ms.set k m') st no W':=by
 obtain ⟨v1,v2,v3,v4,q0,-⟩:=h.mods k hk;have R:=bR.blk q0;refine ⟨yF h.blk hg R (by decide),yA h.row hg R (by decide),h.iQ,by rw [List.length_set]; exact h.gK,fun i hi=>?_,h.few,fun x hx=>?_,h.lo,h.los,yO h.gr hg (by intro j e; simp at e; subst e; exact h.los _ (iq hk)),h.nd⟩
 ·by_cases e:i=k
  ·subst e;rw [List.getElem_set_self];exact hm
  ·rw [List.getElem_set_ne (by omega)];exact (h.mods i hi).other hg q0 (fun c=>ypB h.nd hi hk e c)
 ·rcases List.mem_or_eq_of_mem_set hx with q | rfl
  ·exact h.syms x q
  ·rw [ho]; exact h.syms _ (iq hk')
theorem ProgAt.jk {am:Option Addr} {cm:Nat} (h:ProgAt W0 P bt bf bd (.slice am bl.length cm) bl gl ms st no W):uH W am bl (ms.map Ln.Mod.obj):=by
 refine ⟨fun hp=>?_,by rw [rW,h.gK],fun i h1 h2=>?_,by rw [rW,h.gK]; exact h.few,fun o ho=>?_⟩
 ·obtain ⟨sg,hs,-,-,-,hc⟩:=JV h.row hp;refine ⟨sg,0,hs,fun i hi=>?_⟩;rw [Nat.zero_add,hc i hi,List.getElem?_map,j3 hi];rfl
 ·obtain ⟨v1,v2,v3,v4,q0,q1,-⟩:=h.mods i h1;refine ⟨_,q0.cell 0,?_⟩;rw [List.getElem_map];exact q1
 ·obtain ⟨x,hx,rfl⟩:=List.mem_map.1 ho;exact h.syms x hx
theorem ProgAt.spot {st':Ln.gM} (h:ProgAt W0 P bt bf bd vm bl gl ms st no W):ProgAt W0 P bt bf bd vm bl gl ms st' no (((W.setCell ⟨P,4,none⟩ (.pointer (nH bl st'.mod))).setCell ⟨P,5,none⟩ (.int .i64 st'.ah)).setCell ⟨P,6,none⟩ (.int .i64 st'.off)):=by
 have c1:=h.blk.set 4 (.pointer (nH bl st'.mod));have c2:=c1.set 5 (.int .i64 st'.ah);have c3:=c2.set 6 (.int .i64 st'.off);have g1:=ye W P 4 (.pointer (nH bl st'.mod));have g2:=ye (W.setCell ⟨P,4,none⟩ (.pointer (nH bl st'.mod))) P 5 (.int .i64 st'.ah);have g3:=ye ((W.setCell ⟨P,4,none⟩ (.pointer (nH bl st'.mod))).setCell ⟨P,5,none⟩ (.int .i64 st'.ah)) P 6 (.int .i64 st'.off);have G:=World.grownBy.trans (World.grownBy.trans g1 g2) g3;have R:=bR.blk h.blk;refine ⟨?_,yA h.row G R (by decide),h.iQ,h.gK,fun i hi=>(h.mods i hi).ty G R (by decide) (by decide) (by decide) (by decide) (by decide) (by decide) (by decide),h.few,h.syms,h.lo,h.los,yO h.gr G (by intro j e; simp at e; have:=h.lo; omega),h.nd⟩
 simpa using c3
theorem ProgAt.nought {no':Int} (h:ProgAt W0 P bt bf bd vm bl gl ms st no W):ProgAt W0 P bt bf bd vm bl gl ms st no' (W.setCell ⟨P,7,none⟩ (.int .i64 no')):=by
 have c1:=h.blk.set 7 (.int .i64 no');have G:=ye W P 7 (.int .i64 no');have R:=bR.blk h.blk;refine ⟨?_,yA h.row G R (by decide),h.iQ,h.gK,fun i hi=>(h.mods i hi).ty G R (by decide) (by decide) (by decide) (by decide) (by decide) (by decide) (by decide),h.few,h.syms,h.lo,h.los,yO h.gr G (by intro j e; simp at e; have:=h.lo; omega),h.nd⟩;simpa using c1
end
namespace Ln
def bare (o:Lk.Obj):Mod:=⟨o,[],[],[],[],0,0⟩
def ko (os:List Lk.Obj) (i:Nat) (m:Mod):Mod:={ m with means:=m.obj.syms.map (meaning os i) }
def dB (os:List Lk.Obj) (ms:List Mod):List Mod:=ms.mapIdx (ko os)
end Ln
theorem pJ.prog {W0 W:World} {P:Nat} {bt bf bd:Int} {vm:Value} {bl gl:List Nat} {os:List Lk.Obj} (h:pJ W0 P bt bf bd vm bl gl os W):ProgAt W0 P bt bf bd vm bl gl (os.map Ln.bare) Ln.none_ 0 W :=
 ⟨h.blk,h.row,h.iQ,by rw [rW]; exact h.gK,fun i hi=>by
  rw [List.getElem_map];exact ⟨_,_,_,_,h.mods i hi,h.objs i hi,World.ownsRow_nil _ _ _ _,World.ownsRow_nil _ _ _ _,World.ownsRow_nil _ _ _ _,World.ownsRow_nil _ _ _ _,fun _=>rfl,fun _=>rfl⟩,h.few,fun m hm=>by
  obtain ⟨o,ho,rfl⟩:=List.mem_map.1 hm;exact h.syms o ho,h.lo,h.los,h.gr,h.nd⟩
theorem P9 {α:Type} (xs ys:List α) (k:Nat) (hx:k < xs.length) (hy:k < ys.length) (_hl:ys.length=xs.length):(ys.take k ++ xs.drop k).set k ys[k]=ys.take (k+1) ++ xs.drop (k+1):=by
 rw [List.set_append_right _ _ (by rw [List.length_take]; omega)];have e:k - (ys.take k).length=0:=by rw [List.length_take]; omega
 rw [e,lV hx,gq,List.take_succ_eq_append_getElem hy,List.append_assoc,List.singleton_append]
theorem KU {α:Type} (xs ys:List α) (k:Nat) (hx:k < xs.length) (_hy:k<=ys.length) (h:k < (ys.take k ++ xs.drop k).length):(ys.take k ++ xs.drop k)[k]=xs[k]:=by
 rw [List.getElem_append_right (by rw [List.length_take]; omega)];simp [List.length_take,Nat.min_eq_left _hy]
structure yU (Wf W0:World) (P:Nat) (bt bf bd:Int) (vm:Value) (bl gl:List Nat) (ms:List Ln.Mod) (st:Ln.gM) (no:Int) (W:World):Prop extends ProgAt W0 P bt bf bd vm bl gl ms st no W where
 kf:∀ k cs,yc Wf k cs 45->yc W k cs 45
 le:W0.heap.size<=Wf.heap.size
 sz:Wf.heap.size<=W.heap.size
section
variable {Wf W0 W W':World} {P:Nat} {bt bf bd:Int} {vm:Value} {bl gl:List Nat} {ms:List Ln.Mod} {st:Ln.gM} {no:Int}
theorem ProgAt.f (h:ProgAt W0 P bt bf bd vm bl gl ms st no W):yU W W0 P bt bf bd vm bl gl ms st no W:=⟨h,fun _ _ q=>q,h.gr.size,Nat.le_refl _⟩
theorem yU.kept (h:yU Wf W0 P bt bf bd vm bl gl ms st no W) (hg:W.grownBy W' none):yU Wf W0 P bt bf bd vm bl gl ms st no W' :=
 ⟨h.toProgAt.kept hg,fun k cs q=>(h.kf k cs q).grown hg (by simp),h.le,Nat.le_trans h.sz hg.size⟩
theorem yU.upd {k:Nat} {m':Ln.Mod} (h:yU Wf W0 P bt bf bd vm bl gl ms st no W) (hk:k < bl.length) (hk':k < ms.length) (hg:W.grownBy W' (some bl[k])) (hm:yD W' bl bl[k] (gl[k]'(by rw [h.iQ]; exact hk)) m') (ho:m'.obj=ms[k].obj):yU Wf W0 P bt bf bd vm bl gl (ms.set k m') st no W':=by
 obtain ⟨v1,v2,v3,v4,q0,-⟩:=h.mods k hk;exact ⟨h.toProgAt.upd hk hk' hg hm ho,fun k cs q=>yF (h.kf k cs q) hg (bR.blk q0) (by decide),h.le,Nat.le_trans h.sz hg.size⟩
theorem yU.spot {st':Ln.gM} (h:yU Wf W0 P bt bf bd vm bl gl ms st no W):yU Wf W0 P bt bf bd vm bl gl ms st' no (((W.setCell ⟨P,4,none⟩ (.pointer (nH bl st'.mod))).setCell ⟨P,5,none⟩ (.int .i64 st'.ah)).setCell ⟨P,6,none⟩ (.int .i64 st'.off)):=by
 have G:=World.grownBy.trans (World.grownBy.trans (ye W P 4 (.pointer (nH bl st'.mod))) (ye _ P 5 (.int .i64 st'.ah))) (ye _ P 6 (.int .i64 st'.off));exact ⟨h.toProgAt.spot,fun k cs q=>yF (h.kf k cs q) G (bR.blk h.blk) (by decide),h.le,Nat.le_trans h.sz G.size⟩
theorem yU.nought {no':Int} (h:yU Wf W0 P bt bf bd vm bl gl ms st no W):yU Wf W0 P bt bf bd vm bl gl ms st no' (W.setCell ⟨P,7,none⟩ (.int .i64 no')) :=
 ⟨h.toProgAt.nought,fun k cs q=>yF (h.kf k cs q) (ye W P 7 (.int .i64 no')) (bR.blk h.blk) (by decide),h.le,Nat.le_trans h.sz (ye W P 7 (.int .i64 no')).size⟩
end
def DC (vs:List Value):Prop:=vs.Pairwise fun u v=>∀ k,u.ownBlock=some k->v.ownBlock≠some k
def jw (b:Nat):Value:=.slice (some ⟨b,0,none⟩) 0 0
structure rT (B:Nat) (W:World) (b g:Nat) (o:Lk.Obj) (vt vf vd va vs vr:Value):Prop where
 blk:yc W g #[vt,vf,vd,.int .i64 o.bss,va,vs,vr] 71
 text:W.ownsRow B 3 1 vt o.text.length (o.text.map (Value.int .i64))
 far:W.ownsRow B 3 1 vf o.far.length (o.far.map (Value.int .i64))
 data:W.ownsRow B 3 1 vd o.data.length (o.data.map (Value.int .i64))
 align:W.ownsRow B 3 1 va o.align.length (o.align.map (Value.int .i64))
 syms:W.ownsRow B 100 4 vs o.syms.length (o.syms.flatMap ig)
 aj:W.ownsRow B 102 5 vr o.aj.length (o.aj.flatMap iN)
 apart:DC [jw b,jw g,vt,vf,vd,va,vs,vr]
structure xL (t:As.Tok):Prop where
 kind:t.kind<=4
 pos:t.pos<=1000
 text:t.text.length<=1000
 n:t.n<=9999999999
structure jE (s:ByteArray) (st:As.St):Prop where
 size:s.size<=1000
 p:st.p<=s.size
 tok:xL st.tok
 fe:st.fe<=99
 fa:st.fa<=1000
 op:xL st.op
 ah:1<=st.ah/\st.ah<=4
 text:st.obj.text.length<=1200
 far:st.obj.far.length<=1200
 data:st.obj.data.length<=64
 bss:0<=st.obj.bss/\st.obj.bss<=64
 align:st.obj.align.length=4
 syms:st.obj.syms.length<=16
 aj:st.obj.aj.length<=32
def fV (t:As.Tok):Value:=.agg #[.int .i64 t.kind,.int .i64 t.pos,.string (bs t.text),.int .i64 t.n]
def yE (s:ByteArray) (g:Nat) (st:As.St):Array Value :=
 #[.string s,.int .i64 st.p,.int .i64 st.tok.kind,.int .i64 st.tok.pos,.string (bs st.tok.text),.int .i64 st.tok.n,.int .i64 st.fe,.int .i64 st.fa,.string ⟨#[]⟩,
  .int .i64 st.op.kind,.int .i64 st.op.pos,.string (bs st.op.text),.int .i64 st.op.n,.int .i64 st.ah,.pointer (some ⟨g,0,none⟩)]
structure yl (B:Nat) (s:ByteArray) (b g:Nat) (st:As.St) (W:World):Prop where
 blk:yc W b (yE s g st) 67
 own:∃ vt vf vd va vs vr,rT B W b g st.obj vt vf vd va vs vr
 lo:3<=B/\B<=b/\B<=g/\b≠g
 ok:jE s st
 tabs:dQ W
section
variable {B:Nat} {s:ByteArray} {b g:Nat} {st:As.St} {W W':World} {o:Lk.Obj} {vt vf vd va vs vr:Value}
theorem Nl {e:TypeId} {size n:Nat} {v:Value} {xs:List Value} (h:W.ownsRow B e size v n xs) (hk:∀ k,v.ownBlock=some k->W'.heap[k]?=W.heap[k]?):W'.ownsRow B e size v n xs:=by
 refine ⟨h.1,?_⟩;rcases h.2 with hn | ⟨g,cap,cur,rfl,hb,hgg,rest⟩
 ·exact .inl hn
 ·exact .inr ⟨g,cap,cur,rfl,hb,(hk g rfl).trans hgg,rest⟩
theorem rT.keep (h:rT B W b g o vt vf vd va vs vr) (hk:∀ k,k≠b->k < W.heap.size->W'.heap[k]?=W.heap[k]?):rT B W' b g o vt vf vd va vs vr:=by
 have ap:=h.apart;unfold DC at ap;simp only [List.pairwise_cons,List.mem_cons,List.mem_nil_iff,or_false,forall_eq_or_imp,forall_eq] at ap;have ne:∀ v:Value,(∀ k,Value.ownBlock (jw b)=some k->v.ownBlock≠some k)->∀ k,v.ownBlock=some k->k≠b:=fun v hv k hk' hb=>hv b rfl (by rw [hk',hb])
 obtain ⟨⟨ag,at_,af,ad,aa,gy,ar⟩,-⟩:=ap;have row:∀ {e:TypeId} {size n:Nat} {v:Value} {xs:List Value},W.ownsRow B e size v n xs->(∀ k,Value.ownBlock (jw b)=some k->v.ownBlock≠some k)->W'.ownsRow B e size v n xs :=
  fun h hv=>Nl h fun k hk'=>hk k (ne _ hv k hk') (h.lt k hk').2
 have hg:g≠b:=ne (jw g) ag g rfl;exact ⟨(hk g hg h.blk.lt).trans h.blk,row h.text at_,row h.far af,row h.data ad,row h.align aa,row h.syms gy,row h.aj ar,h.apart⟩
theorem yl.grown (h:yl B s b g st W) (hg:W.grownBy W' none):yl B s b g st W':=by
 obtain ⟨vt,vf,vd,va,vs,vr,ho⟩:=h.own;exact ⟨h.blk.grown hg (by simp),⟨vt,vf,vd,va,vs,vr,ho.keep fun k _ hk=>hg.block k hk (by simp)⟩,h.lo,h.ok,h.tabs.grown hg⟩
theorem yl.put (h:yl B s b g st W) (st':As.St) (hb:yc W' b (yE s g st') 67) (hg:W.grownBy W' (some b)) (sW:st'.obj=st.obj) (hok:jE s st'):yl B s b g st' W':=by
 obtain ⟨vt,vf,vd,va,vs,vr,ho⟩:=h.own;refine ⟨hb,⟨vt,vf,vd,va,vs,vr,?_⟩,h.lo,hok,h.tabs.sV hg (by have:=h.lo; omega)⟩;rw [sW];exact ho.keep fun k hk hlt=>hg.block k hlt (by simpa using hk)
theorem yl.size (h:yl B s b g st W):B<=W.heap.size:=by have:=h.blk.lt; have:=h.lo; omega
theorem yl.below (h:yl B s b g st W) {row:Option Nat} (hg:W.grownBy W' row) (hr:∀ k,row=some k->B<=k):Below B W W':=(Below.refl B W).grown hg h.size hr
theorem yl.IB (h:yl B s b g st W) (hg:W.grownBy W' none):Below B W W':=h.below hg (by simp)
theorem yl.Iz (h:yl B s b g st W) (hg:W.grownBy W' (some b)):Below B W W':=h.below hg (by intro k hk; simp at hk; have:=h.lo; omega)
end
def sets (W:World) (b:Nat) (l:List (Nat×Value)):World:=l.foldl (fun w q=>w.setCell ⟨b,q.1,none⟩ q.2) W
def uy (cs:Array Value) (l:List (Nat×Value)):Array Value:=l.foldl (fun a q=>a.setIfInBounds q.1 q.2) cs
theorem D8 {W:World} {b:Nat} {cs:Array Value} {t:TypeId} (l:List (Nat×Value)) (h:yc W b cs t):yc (sets W b l) b (uy cs l) t:=by
 induction l generalizing W cs with
 | nil=>exact h
 | cons q l ih=>exact ih (h.set q.1 q.2)
theorem Ea (W:World) (b:Nat) (l:List (Nat×Value)):W.grownBy (sets W b l) (some b):=by
 induction l generalizing W with
 | nil=>exact World.grownBy.refl _ _
 | cons q l ih=>exact ya (ye W b q.1 q.2) (ih _)
def yS (B:Nat) (s:ByteArray) (b g:Nat) (W:World) (st':As.St) (W':World):Prop:=yl B s b g st' W'/\W.grownBy W' (some b)
def zl (W W':World):Prop:=∀ k cs t,t≠67->t≠71->t≠3->t≠100->t≠102->yc W k cs t->yc W' k cs t
theorem zl.refl (W:World):zl W W:=fun _ _ _ _ _ _ _ _ h=>h
theorem zl.trans {a b c:World} (h:zl a b) (k:zl b c):zl a c:=fun i cs t h1 h2 h3 h4 h5 hb=>k i cs t h1 h2 h3 h4 h5 (h i cs t h1 h2 h3 h4 h5 hb)
theorem zl.none {W W':World} (h:W.grownBy W' none):zl W W':=fun _ _ _ _ _ _ _ _ hb=>hb.grown h (by simp)
def Does (B:Nat) (s:ByteArray) (b g:Nat) (W:World) (st':As.St) (W':World):Prop:=yl B s b g st' W'/\Below B W W'/\zl W W'
section
variable {B:Nat} {s:ByteArray} {b g:Nat} {st st':As.St} {W V V':World}
theorem zl.row (h:yl B s b g st W) (hg:W.grownBy V (some b)):zl W V:=by
 intro k cs t h1 _ _ _ _ hb;refine hb.grown hg ?_;intro e;obtain rfl:k=b:=by simpa using e
 have:=hb.symm.trans h.blk
 simp at this;exact h1 this.2
theorem yS.does (k:yS B s b g W st' V) (h:yl B s b g st W):Does B s b g W st' V:=⟨k.1,h.Iz k.2,zl.row h k.2⟩
theorem yS.grown (h:yS B s b g W st V) (hg:V.grownBy V' none):yS B s b g W st V':=⟨h.1.grown hg,ya h.2 (ynS hg)⟩
theorem yS.alloc (h:yS B s b g W st V) (o:Obj):yS B s b g W st (V.alloc o):=h.grown (aJ V o none)
theorem yS.drewN (h:yS B s b g W st V) (n:Nat):yS B s b g W st (V.drewN n):=h.grown (yf (World.grownBy.refl _ _) n)
theorem yS.after (h:yS B s b g W st V) (k:yS B s b g V st' V'):yS B s b g W st' V':=⟨k.1,ya h.2 k.2⟩
theorem yS.sets (h:yS B s b g W st V) (l:List (Nat×Value)) (st':As.St) (hc:uy (yE s g st) l=yE s g st') (sW:st'.obj=st.obj) (hok:jE s st'):yS B s b g W st' (sets V b l) :=
 ⟨h.1.put st' (by rw [<- hc]; exact D8 l h.1.blk) (Ea V b l) sW hok,ya h.2 (Ea V b l)⟩
theorem yl.jU (h:yl B s b g st W):yS B s b g W st W:=⟨h,World.grownBy.refl _ _⟩
theorem yl.does (h:yl B s b g st W):Does B s b g W st W:=⟨h,Below.refl _ _,zl.refl _⟩
theorem Does.grown (h:Does B s b g W st V) (hg:V.grownBy V' none):Does B s b g W st V':=⟨h.1.grown hg,h.2.1.trans (h.1.IB hg),h.2.2.trans (zl.none hg)⟩
theorem Does.alloc (h:Does B s b g W st V) (o:Obj):Does B s b g W st (V.alloc o):=h.grown (aJ V o none)
theorem Does.drewN (h:Does B s b g W st V) (n:Nat):Does B s b g W st (V.drewN n):=h.grown (yf (World.grownBy.refl _ _) n)
theorem Does.after (h:Does B s b g W st V) (k:Does B s b g V st' V'):Does B s b g W st' V':=⟨k.1,h.2.1.trans k.2.1,h.2.2.trans k.2.2⟩
theorem Does.aN (h:Does B s b g W st V) (k:yS B s b g V st' V'):Does B s b g W st' V':=h.after (k.does h.1)
end
def uO (t:TypeId):Prop:=t≠67/\t≠71/\t≠3/\t≠100/\t≠102
section
variable {B:Nat} {s:ByteArray} {b g r:Nat} {st st':As.St} {W V V':World} {cs:Array Value} {t:TypeId} {o:Lk.Obj} {vt vf vd va vs vr:Value}
theorem KF {e:TypeId} {size n:Nat} {v:Value} {xs:List Value} (h:W.ownsRow B e size v n xs) (hr:yc W r cs t) (ht:t≠e) (l:List (Nat×Value)):(sets W r l).ownsRow B e size v n xs:=by
 refine Nl h fun k hk=>?_
 refine (Ea W r l).block k (h.lt k hk).2 ?_;intro e';obtain rfl:k=r:=by simpa using e'
 rcases h.2 with ⟨rfl,_⟩ | ⟨g',cap,cur,rfl,_,hg,_⟩
 ·simp [Value.ownBlock] at hk
 ·obtain rfl:g'=k:=by simpa [Value.ownBlock] using hk
  have:=hg.symm.trans hr
  simp at this;exact ht this.2.symm
theorem yl.local (h:yl B s b g st V) (hr:yc V r cs t) (ht:uO t) (hB:B<=r) (l:List (Nat×Value)):yl B s b g st (Proofs.YtpgklkhgfcjceaaGreatDoor.sets V r l):=by
 obtain ⟨t1,t2,t3,t4,t5⟩:=ht;obtain ⟨vt,vf,vd,va,vs,vr,ho⟩:=h.own;have other:∀ {k:Nat} {cs':Array Value} {t':TypeId},yc V k cs' t'->t≠t'->yc (Proofs.YtpgklkhgfcjceaaGreatDoor.sets V r l) k cs' t':=fun hb hne=>hb.grown (Ea V r l) (by
  intro e;have e':=Option.some.inj e;subst e'
  have:=hb.symm.trans hr
  simp at this;exact hne this.2.symm)
 refine ⟨other h.blk t1,⟨vt,vf,vd,va,vs,vr,other ho.blk t2,KF ho.text hr t3 l,KF ho.far hr t3 l,KF ho.data hr t3 l,KF ho.align hr t3 l,KF ho.syms hr t4 l,KF ho.aj hr t5 l,ho.apart⟩,h.lo,h.ok,h.tabs.sV (Ea V r l) (by have:=h.lo; omega)⟩
theorem yS.local (h:yS B s b g W st V) (hr:yc V r cs t) (ht:uO t) (hB:B<=W.heap.size) (hw:W.heap.size<=r) (l:List (Nat×Value)):yS B s b g W st (Proofs.YtpgklkhgfcjceaaGreatDoor.sets V r l):=by
 refine ⟨h.1.local hr ht (by omega) l,?_⟩;have g:=Ea V r l;exact ⟨g.os.trans h.2.os,g.tape.trans h.2.tape,g.output.trans h.2.output,Nat.le_trans h.2.size g.size,fun i hi hne=>(g.block i (Nat.lt_of_lt_of_le hi h.2.size) (by simp; omega)).trans (h.2.block i hi hne)⟩
theorem Does.local (h:Does B s b g W st V) (hr:yc V r cs t) (ht:uO t) (hB:B<=W.heap.size) (hw:W.heap.size<=r) (l:List (Nat×Value)):Does B s b g W st (Proofs.YtpgklkhgfcjceaaGreatDoor.sets V r l):=by
 have g:=Ea V r l;have hV:B<=V.heap.size:=Nat.le_trans hB h.2.1.size;refine ⟨h.1.local hr ht (by omega) l,h.2.1.trans ((Below.refl B V).grown g hV (by intro k hk; simp at hk; omega)),fun k cs t' h1 h2 h3 h4 h5 hb=>(h.2.2 k cs t' h1 h2 h3 h4 h5 hb).grown g ?_⟩;intro e
 have:=hb.lt
 have e':=Option.some.inj e;omega
end
theorem jE.tok' {s:ByteArray} {st:As.St} (h:jE s st) (t:As.Tok) (ht:xL t) (fe fa:Nat) (h1:fe<=99) (h2:fa<=1000):jE s { st with tok:=t,fe:=fe,fa:=fa } :=
 ⟨h.size,h.p,ht,h1,h2,h.op,h.ah,h.text,h.far,h.data,h.bss,h.align,h.syms,h.aj⟩
theorem KN:xL As.Tok.nil:=⟨by decide,by decide,by decide,by decide⟩
theorem D9 (B:Nat) (s:ByteArray) (b g:Nat) (st:As.St) (W:World) (h:yl B s b g st W) :
  Calls Tryz.prog 33 #[.pointer (some ⟨b,0,none⟩)] W fun e W'=>e = .returned (.bool (As.failed st))/\W'=W:=by
 have k:=h.blk.cell 6;simp only [yE,bI,bN,bK] at k;clear h;have e:(!((st.fe:Int) == 0))=As.failed st:=by unfold As.failed; congr 1; rw [Bool.eq_iff_iff]; simp
 go_enter Tryz.func33,Tryz.ntmps33;go_wp2;go_ret;exact ⟨by rw [<- e]; rfl,rfl⟩
theorem yL {B:Nat} {s:ByteArray} {b g:Nat} {st:As.St} {W:World} (h:yl B s b g st W) (i:Nat):W.cell? ⟨b,i,none⟩=(yE s g st)[i]?:=h.blk.cell i
theorem yK (B:Nat) (s:ByteArray) (b g:Nat) (st:As.St) (e pos:Nat) (W:World) (h:yl B s b g st W) (he:e<=99) (hp:pos<=1000) :
  Calls Tryz.prog 54 #[.pointer (some ⟨b,0,none⟩),.int .i64 e,.int .i64 pos] W fun en W'=>en = .returned (.tuple #[])/\yS B s b g W (As.refuse e pos st) W':=by
 have cF:=hid (D9 B s b g st W h);have H:=hid h;clear h
 cases hf:As.failed st
 ·have R:=hid (show As.refuse e pos st={ st with fe:=e,fa:=pos,tok:=As.Tok.nil } by unfold As.refuse; rw [hf]; rfl);rw [hf] at cF;clear hf;have k2:=H.o.blk.free 2;have k3:=H.o.blk.free 3;have k4:=H.o.blk.free 4;have k5:=H.o.blk.free 5;have k6:=H.o.blk.free 6;have k7:=H.o.blk.free 7;have k8:=H.o.blk.free 8;have c2:=yL H.o 2;have c3:=yL H.o 3;have c4:=yL H.o 4;have c5:=yL H.o 5;have c6:=yL H.o 6;have c7:=yL H.o 7;have c8:=yL H.o 8;simp only [yE,bI,bN,bK] at c2 c3 c4 c5 c6 c7 c8;go_enter Tryz.func54,Tryz.ntmps54;go_wp2_with fail;refine cF.o.mono ?_;rintro e w1 ⟨rfl,rfl⟩;go_wp2
  go_end0
  rw [R.o];exact ⟨rfl,H.o.jU.sets [(6,.int .i64 e),(7,.int .i64 pos),(8,.string ⟨#[]⟩),(2,.int .i64 0),(3,.int .i64 0),(4,.string ⟨#[]⟩),(5,.int .i64 0)] _ (by simp only [uy,yE,lu,lW,gu,fZ,gq]; rfl) rfl (H.o.ok.tok' _ KN _ _ he hp)⟩
 ·have R:=hid (show As.refuse e pos st=st by unfold As.refuse; rw [hf]; rfl);rw [hf] at cF;clear hf;go_enter Tryz.func54,Tryz.ntmps54;go_wp2_with fail;refine cF.o.mono ?_;rintro e w1 ⟨rfl,rfl⟩;go_wp2
  (try simp only [Exit.inBlock,Exit.then]); refine bodyPost_ret (results_none rfl _ _ _) rfl ?_
  rw [R.o];exact ⟨rfl,H.o.jU⟩
theorem yno {e:Ending} {P:Prop} {x:Bool} (h:yg e P) (k:x=true↔P):e = .returned (.bool x):=by
 obtain ⟨y,rfl,h2⟩:=h
 have:y=x:=by rw [Bool.eq_iff_iff,h2,k]
 rw [this]
theorem yqm (c:UInt8):qM (c.toNat:Int)↔((97<=c.toNat/\c.toNat<=122)\/c.toNat=95\/(48<=c.toNat/\c.toNat<=57)):=by unfold qM; omega
theorem TH (c:UInt8) (w:World) :
  Calls Tryz.prog 132 #[.int .u8 c.toNat] w fun e w'=>e = .returned (.bool (As.aX c))/\w'=w:=by
 have cM:=hid (XV (c.toNat:Int) w (by omega));have hI:=hid (yqm c);by_cases c1:c.toNat=46
 ·have N:=hid (show As.aX c=true from by unfold As.aX As.bA; simp [c1]);have hN:¬ qM (c.toNat:Int):=by unfold qM; omega
  have d:((c.toNat:Int) == 46)=true:=by simp; omega
  clear c1;go_enter Tryz.func132,Tryz.ntmps132;go_wp2_with fail;refine cM.o.mono ?_;rintro e w1 ⟨t1,rfl⟩;obtain rfl:=yno (x:=false) t1 (by simp [hN]);go_wp2;go_ret;exact ⟨by rw [N.o]; rfl,rfl⟩
 ·have N:=hid (show As.aX c=true↔qM (c.toNat:Int) from by
   rw [hI.o];unfold As.aX As.bA;simp only [Bool.or_eq_true,Bool.and_eq_true,decide_eq_true_eq,beq_iff_eq];omega)
  have d:((c.toNat:Int) == 46)=false:=by simp; omega
  clear c1;go_enter Tryz.func132,Tryz.ntmps132;go_wp2_with fail;refine cM.o.mono ?_;rintro e w1 ⟨t1,rfl⟩;rcases t1.split with ⟨rfl,p1⟩ | ⟨rfl,p1⟩ <;> clear t1 cM
  ·have P:=hid (show As.aX c=false from by rw [<- Bool.not_eq_true,N.o]; exact p1.o);go_wp2;go_ret;exact ⟨by rw [P.o]; rfl,rfl⟩
  ·have P:=hid (show As.aX c=true from N.o.2 p1.o);go_wp2;go_ret;exact ⟨by rw [P.o]; rfl,rfl⟩
theorem ymE (c:UInt8) (w:World) :
  Calls Tryz.prog 134 #[.int .u8 c.toNat] w fun e w'=>e = .returned (.bool (As.j6 c))/\w'=w:=by
 have N:=hid (show As.j6 c=(c.toNat == 44 || c.toNat == 58 || c.toNat == 40 || c.toNat == 41 || c.toNat == 43 || c.toNat == 45) from rfl);generalize As.j6 c=x at *;generalize hc:c.toNat=n at *;clear hc;have dec:∀ m:Nat,((n:Int) == (m:Int))=(n == m):=fun m=>by rw [Bool.eq_iff_iff,beq_iff_eq,beq_iff_eq]; omega
 have d1:=dec 44;have d2:=dec 58;have d3:=dec 40;have d4:=dec 41;have d5:=dec 43;have d6:=dec 45;clear dec;simp only [Int.cast_ofNat_Int] at d1 d2 d3 d4 d5 d6;generalize (n == 44)=b1 at *;generalize (n == 58)=b2 at *;generalize (n == 40)=b3 at *;generalize (n == 41)=b4 at *;generalize (n == 43)=b5 at *;generalize (n == 45)=b6 at *
 cases b1
 ·cases b2
  ·cases b3
   ·cases b4
    ·cases b5
     ·go_enter Tryz.func134,Tryz.ntmps134;go_wp2;go_ret;exact ⟨by rw [N.o]; rfl,rfl⟩
     ·go_enter Tryz.func134,Tryz.ntmps134;go_wp2;go_ret;exact ⟨by rw [N.o]; rfl,rfl⟩
    ·go_enter Tryz.func134,Tryz.ntmps134;go_wp2;go_ret;exact ⟨by rw [N.o]; rfl,rfl⟩
   ·go_enter Tryz.func134,Tryz.ntmps134;go_wp2;go_ret;exact ⟨by rw [N.o]; rfl,rfl⟩
  ·go_enter Tryz.func134,Tryz.ntmps134;go_wp2;go_ret;exact ⟨by rw [N.o]; rfl,rfl⟩
 ·go_enter Tryz.func134,Tryz.ntmps134;go_wp2;go_ret;exact ⟨by rw [N.o]; rfl,rfl⟩
theorem PN (c:UInt8) (w:World) :
  Calls Tryz.prog 130 #[.int .u8 c.toNat] w fun e w'=>e = .returned (.bool (As.bA c))/\w'=w:=by
 by_cases h:48<=c.toNat/\c.toNat<=57
 ·have e:As.bA c=true:=by unfold As.bA; simp [h]
  rw [e];exact Tj _ w (by omega) (by omega)
 ·have e:As.bA c=false:=by unfold As.bA; simp; omega
  rw [e];exact KQ _ w (by omega)
def fG (s:ByteArray) (b:Nat) (tail:List Value) (p:Nat) (W:World):Prop:=yc W b (.string s :: .int .i64 p :: tail).toArray 67
section
variable {s:ByteArray} {b:Nat} {tail:List Value} {p:Nat} {W W':World}
theorem fG.c0 (h:fG s b tail p W):W.cell? ⟨b,0,none⟩=some (.string s):=by rw [yc.cell h]; simp
theorem fG.c1 (h:fG s b tail p W):W.cell? ⟨b,1,none⟩=some (.int .i64 p):=by rw [yc.cell h]; simp
theorem fG.f1 (h:fG s b tail p W):W.frozen? ⟨b,1,none⟩=false:=yc.free h 1
theorem fG.drewN (h:fG s b tail p W) (n:Nat):fG s b tail p (W.drewN n):=yc.drewN h n
theorem fG.set (h:fG s b tail p W) (q:Nat):fG s b tail q (W.setCell ⟨b,1,none⟩ (.int .i64 q)):=by
 have:=yc.set h 1 (.int .i64 q)
 simpa [fG] using this
theorem fG.grown (h:fG s b tail p W) (hg:W.grownBy W' none):fG s b tail p W':=yc.grown h hg (by simp)
theorem fG.step (h:fG s b tail p W) (n:Nat) (q:Nat):fG s b tail q ((W.drewN n).setCell ⟨b,1,none⟩ (.int .i64 q)):=(h.drewN n).set q
end
theorem Nk {w W:World} {b:Nat} (h:w.grownBy W (some b)) (n:Nat) (v:Value):w.grownBy ((W.drewN n).setCell ⟨b,1,none⟩ v) (some b) :=
 ya (yf h n) (ye _ _ _ _)
def DT (b:Nat) (W:World):Nat:=match W.cell? ⟨b,1,none⟩ with
 | some (.int _ i)=>i.toNat
 | _=>0
theorem fG.pos {s:ByteArray} {b:Nat} {tail:List Value} {p:Nat} {W:World} (h:fG s b tail p W):DT b W=p:=by unfold DT; rw [h.c1]; simp
theorem Nq {s:ByteArray} {b:Nat} {tail:List Value} {k:Nat} {W:World} (h:fG s b tail k W) (n:Nat) (hlt:k < s.size):s.size - DT b ((W.drewN n).setCell ⟨b,1,none⟩ (.int .i64 ((k:Int)+1))) < s.size - DT b W:=by
 rw [h.pos,show ((k:Int)+1)=((k+1:Nat):Int) from by omega,(h.step n (k+1)).pos]; omega
theorem Nz {f:UInt8->Bool} {s:List UInt8} {k:Nat} (h:k < s.length) (hf:f s[k]=true):As.skip f s k=As.skip f s (k+1):=by
 unfold As.skip;rw [lV h,List.takeWhile_cons_of_pos hf];simp; omega
theorem PZ {f:UInt8->Bool} {s:List UInt8} {k:Nat} (h:k < s.length) (hf:f s[k]=false):As.skip f s k=k:=by
 unfold As.skip;rw [lV h,List.takeWhile_cons_of_neg (by simp [hf])];simp
theorem Qe {f:UInt8->Bool} {s:List UInt8} {k:Nat} (h:s.length<=k):As.skip f s k=k:=by
 unfold As.skip;rw [List.drop_eq_nil_of_le h];simp
theorem NC {f:UInt8->Bool} {s:List UInt8} {k:Nat} (h:k<=s.length):As.skip f s k<=s.length:=by
 unfold As.skip;have h1:=(List.takeWhile_prefix f (l:=s.drop k)).length_le;rw [List.length_drop] at h1;omega
theorem Ny (f:UInt8->Bool) (s:List UInt8) (k:Nat):k<=As.skip f s k:=by unfold As.skip; omega
theorem yqQ {f:UInt8->Bool} {s:List UInt8} {k:Nat} (h:As.skip f s k < s.length):f (s[As.skip f s k])=false:=by
 generalize hn:s.length - k=n
 induction n generalizing k with
 | zero =>
  have:As.skip f s k=k:=Qe (by omega)
  omega
 | succ n ih =>
  by_cases hk:k < s.length
  ·cases hf:f s[k]
   ·have e:=PZ hk hf;simp only [e]; exact hf
   ·have e:=Nz hk hf;simp only [e] at h ⊢;exact ih h (by omega)
  ·omega
theorem Ql (s:ByteArray) (k:Nat) (h:k < s.size):(sl s)[k]'(by rw [yq]; exact h)=s[k]:=rfl
theorem yhU (s:ByteArray) (b:Nat) (tail:List Value) (p:Nat) (w:World) (h:fG s b tail p w) (hs:s.size<=1000) (hp:p<=s.size) :
  Calls Tryz.prog 128 #[.pointer (some ⟨b,0,none⟩)] w fun e w'=>e = .returned (.tuple #[])/\fG s b tail (As.skip As.blank (sl s) p) w'/\w.grownBy w' (some b):=by
 have H:=hid h;clear h;have SL:=hid (yq s);go_enter Tryz.func128,Tryz.ntmps128;go_wp2
 go_loopw [] (fun wr=>∃ k:Nat,k<=s.size/\fG s b tail k wr/\As.skip As.blank (sl s) k=As.skip As.blank (sl s) p/\w.grownBy wr (some b)) (fun wr=>s.size - DT b wr)
 case atStart=>exact ⟨p,hp,H.o,rfl,World.grownBy.refl _ _⟩
 case round =>
  obtain ⟨k,hk,hsc,hsk,hgr⟩:=hrel;have c0:=hsc.c0;have c1:=hsc.c1;have f1:=hsc.f1;have HS:=hid hsc;have HK:=hid hsk;have HG:=hid hgr;have HP:=hid hsc.pos;clear hsc hsk hgr;by_cases hlt:k < s.size
  ·have d:decide ((k:Int) < (s.size:Int))=true:=by simp; omega
   have g1:(0:Int)<=(k:Int):=by omega
   have g2:(k:Int) < (s.size:Int):=by omega
   have HL:=hid (show k < (sl s).length by rw [SL.o]; exact hlt);have GET:=hid (Ql s k hlt);by_cases e1:(s[k]'hlt).toNat=32
   ·have d1:(((s[k]'hlt).toNat:Int) == 32)=true:=by simp; omega
    have E:=hid (Nz (f:=As.blank) HL.o (by rw [GET.o]; unfold As.blank; rw [e1]; rfl));clear e1;go_wp2
    go_quiet (fail)
    go_wp2
    go_roundw
    case rel=>exact ⟨k+1,by omega,HS.o.step _ (k+1),by rw [<- E.o,HK.o],Nk HG.o _ _⟩
    case measure=>exact Nq HS.o _ hlt
   ·by_cases e2:(s[k]'hlt).toNat=9
    ·have d1:(((s[k]'hlt).toNat:Int) == 32)=false:=by simp; omega
     have d2:(((s[k]'hlt).toNat:Int) == 9)=true:=by simp; omega
     have E:=hid (Nz (f:=As.blank) HL.o (by rw [GET.o]; unfold As.blank; rw [e2]; rfl));clear e1 e2;go_wp2
     go_quiet (fail)
     go_wp2
     go_roundw
     case rel=>exact ⟨k+1,by omega,HS.o.step _ (k+1),by rw [<- E.o,HK.o],Nk HG.o _ _⟩
     case measure=>exact Nq HS.o _ hlt
    ·have d1:(((s[k]'hlt).toNat:Int) == 32)=false:=by simp; omega
     have d2:(((s[k]'hlt).toNat:Int) == 9)=false:=by simp; omega
     have E:=hid (PZ (f:=As.blank) HL.o (by rw [GET.o]; unfold As.blank; rw [Bool.or_eq_false_iff,beq_eq_false_iff_ne,beq_eq_false_iff_ne]; exact ⟨e1,e2⟩));clear e1 e2;go_wp2
     go_quiet (fail)
     go_wp2
     go_end0
     exact ⟨rfl,by rw [<- HK.o,E.o]; exact HS.o.drewN _,yf HG.o _⟩
  ·have d:decide ((k:Int) < (s.size:Int))=false:=by simp; omega
   have E:=hid (Qe (f:=As.blank) (s:=sl s) (k:=k) (by rw [SL.o]; omega));go_wp2
   go_quiet (fail)
   go_wp2
   go_end0
   exact ⟨rfl,by rw [<- HK.o,E.o]; exact HS.o.drewN _,yf HG.o _⟩
theorem ykf (s:ByteArray) (b:Nat) (tail:List Value) (p:Nat) (w:World) (h:fG s b tail p w) (hs:s.size<=1000) (hp:p<=s.size) :
  Calls Tryz.prog 133 #[.pointer (some ⟨b,0,none⟩)] w fun e w'=>e = .returned (.tuple #[])/\fG s b tail (As.skip As.aX (sl s) p) w'/\w.grownBy w' (some b):=by
 have H:=hid h;clear h;have SL:=hid (yq s);go_enter Tryz.func133,Tryz.ntmps133;go_wp2
 go_loopw [] (fun wr=>∃ k:Nat,k<=s.size/\fG s b tail k wr/\As.skip As.aX (sl s) k=As.skip As.aX (sl s) p/\w.grownBy wr (some b)) (fun wr=>s.size - DT b wr)
 case atStart=>exact ⟨p,hp,H.o,rfl,World.grownBy.refl _ _⟩
 case round =>
  obtain ⟨k,hk,hsc,hsk,hgr⟩:=hrel;have c0:=hsc.c0;have c1:=hsc.c1;have f1:=hsc.f1;have HS:=hid hsc;have HK:=hid hsk;have HG:=hid hgr;clear hsc hsk hgr;by_cases hlt:k < s.size
  ·have d:decide ((k:Int) < (s.size:Int))=true:=by simp; omega
   have g1:(0:Int)<=(k:Int):=by omega
   have g2:(k:Int) < (s.size:Int):=by omega
   have HL:=hid (show k < (sl s).length by rw [SL.o]; exact hlt);have GET:=hid (Ql s k hlt);have cW:=hid (fun W=>TH (s[k]'hlt) W)
   cases e1:As.aX (s[k]'hlt)
   ·have E:=hid (PZ (f:=As.aX) HL.o (by rw [GET.o]; exact e1));rw [e1] at cW;clear e1;go_wp2
    go_quiet ((go_at_call 132; exact Calls.quiet_of_same (cW.o _)))
    go_wp2
    go_end0
    exact ⟨rfl,by rw [<- HK.o,E.o]; exact HS.o.drewN _,yf HG.o _⟩
   ·have E:=hid (Nz (f:=As.aX) HL.o (by rw [GET.o]; exact e1));rw [e1] at cW;clear e1;go_wp2
    go_quiet ((go_at_call 132; exact Calls.quiet_of_same (cW.o _)))
    go_wp2
    go_roundw
    case rel=>exact ⟨k+1,by omega,HS.o.step _ (k+1),by rw [<- E.o,HK.o],Nk HG.o _ _⟩
    case measure=>exact Nq HS.o _ hlt
  ·have d:decide ((k:Int) < (s.size:Int))=false:=by simp; omega
   have E:=hid (Qe (f:=As.aX) (s:=sl s) (k:=k) (by rw [SL.o]; omega));go_wp2
   go_quiet (fail)
   go_wp2
   go_end0
   exact ⟨rfl,by rw [<- HK.o,E.o]; exact HS.o.drewN _,yf HG.o _⟩
theorem ynL (s:ByteArray) (b:Nat) (tail:List Value) (p:Nat) (w:World) (h:fG s b tail p w) (_hs:s.size<=1000) (_hp:p<=s.size) :
  Calls Tryz.prog 129 #[.pointer (some ⟨b,0,none⟩)] w fun e w'=>e = .returned (.bool (((sl s)[p]?.map As.ends).getD true))/\∃ n,w'=w.drewN n:=by
 have c0:=h.c0;have c1:=h.c1;clear h;have SL:=hid (yq s);generalize hx:(((sl s)[p]?.map As.ends).getD true)=x;have HX:=hid hx.symm;clear hx;by_cases hlt:p < s.size
 ·have d:decide (s.size<=p)=false:=by simp; omega
  have g1:(0:Int)<=(p:Int):=by omega
  have g2:(p:Int) < (s.size:Int):=by omega
  have E:=hid (show x=As.ends (s[p]'hlt) by rw [HX.o,j3 (by rw [SL.o]; exact hlt)]; rfl);clear HX;by_cases e1:(s[p]'hlt).toNat=10
  ·have d1:(((s[p]'hlt).toNat:Int) == 10)=true:=by simp; omega
   have E1:=hid (show As.ends (s[p]'hlt)=true by unfold As.ends; rw [e1]; rfl);clear e1;go_enter Tryz.func129,Tryz.ntmps129;go_wp2
   go_quiet (fail)
   go_wp2;go_ret;exact ⟨by rw [E.o,E1.o]; rfl,_,rfl⟩
  ·by_cases e2:(s[p]'hlt).toNat=35
   ·have d1:(((s[p]'hlt).toNat:Int) == 10)=false:=by simp; omega
    have d2:(((s[p]'hlt).toNat:Int) == 35)=true:=by simp; omega
    have E1:=hid (show As.ends (s[p]'hlt)=true by unfold As.ends; rw [e2]; rfl);clear e1 e2;go_enter Tryz.func129,Tryz.ntmps129;go_wp2
    go_quiet (fail)
    go_wp2;go_ret;exact ⟨by rw [E.o,E1.o]; rfl,_,rfl⟩
   ·have d1:(((s[p]'hlt).toNat:Int) == 10)=false:=by simp; omega
    have d2:(((s[p]'hlt).toNat:Int) == 35)=false:=by simp; omega
    have E1:=hid (show As.ends (s[p]'hlt)=false by unfold As.ends; rw [Bool.or_eq_false_iff,beq_eq_false_iff_ne,beq_eq_false_iff_ne]; exact ⟨e1,e2⟩);clear e1 e2;go_enter Tryz.func129,Tryz.ntmps129;go_wp2
    go_quiet (fail)
    go_wp2;go_ret;exact ⟨by rw [E.o,E1.o]; rfl,_,rfl⟩
 ·have d:decide (s.size<=p)=true:=by simp; omega
  have E:=hid (show x=true by rw [HX.o,List.getElem?_eq_none (by rw [SL.o]; omega)]; rfl);go_enter Tryz.func129,Tryz.ntmps129;go_wp2
  go_quiet (fail)
  go_wp2;go_ret;exact ⟨by rw [E.o]; rfl,_,rfl⟩
end Go.Proofs.YtpgklkhgfcjceaaGreatDoor
