
import Derived.Test.YtelehpmjhjljgaaGreatDoorV28
import Derived.Laws.CopyOwn
set_option maxHeartbeats 16000000
set_option maxRecDepth 100000
namespace Go.Proofs.YtelehpmjhjljgaaGreatDoor
open Go.RowKit
theorem ylW (bt bf bd:Int) (af:Option Addr) (cf:Nat) (fs:List (List UInt8)) (w:World) (hin:vQ w af fs) (hsz:∀ f∈fs,f.length<=1048576) (hn:fs.length<=1048576) :
  Calls Tryz.prog 8 #[.slice af fs.length cf,.agg #[.int .i64 bt,.int .i64 bf,.int .i64 bd]] w fun e w'=>Ar bt bf bd fs e/\w.grownBy w' none:=by
 have cP:=hid (fun W (hg:w.grownBy W none)=>yld af cf fs W (hin.kept hg) hsz hn);have hs1:(w.alloc (.cells #[.int .i64 bt,.int .i64 bf,.int .i64 bd] 27)).heap.size=w.heap.size+1:=Array.size_push _;have hs2:((w.alloc (.cells #[.int .i64 bt,.int .i64 bf,.int .i64 bd] 27)).alloc (.cells #[.int .i64 0,.int .i64 0,.string ⟨#[]⟩] 32)).heap.size=w.heap.size+2:=by rw [show ∀ (V:World) o,(V.alloc o).heap.size=V.heap.size+1 from fun V o=>Array.size_push _,hs1]
 have B1:=ye.new w #[.int .i64 bt,.int .i64 bf,.int .i64 bd] 27;have B2:=ye.new (w.alloc (.cells #[.int .i64 bt,.int .i64 bf,.int .i64 bd] 27)) #[.int .i64 0,.int .i64 0,.string ⟨#[]⟩] 32;have B3:=ye.new ((w.alloc (.cells #[.int .i64 bt,.int .i64 bf,.int .i64 bd] 27)).alloc (.cells #[.int .i64 0,.int .i64 0,.string ⟨#[]⟩] 32)) #[.int .i64 bt,.int .i64 bf,.int .i64 bd] 3;have A1:=aH w (.cells #[.int .i64 bt,.int .i64 bf,.int .i64 bd] 27) none;have A2:=aH (w.alloc (.cells #[.int .i64 bt,.int .i64 bf,.int .i64 bd] 27)) (.cells #[.int .i64 0,.int .i64 0,.string ⟨#[]⟩] 32) none;have A3:=aH ((w.alloc (.cells #[.int .i64 bt,.int .i64 bf,.int .i64 bd] 27)).alloc (.cells #[.int .i64 0,.int .i64 0,.string ⟨#[]⟩] 32)) (.cells #[.int .i64 bt,.int .i64 bf,.int .i64 bd] 3) none
 rw [hs1] at B2;rw [hs2] at B3;have BB:=hid ((B1.grown A2 (by simp)).grown A3 (by simp));have BR:=hid (B2.grown A3 (by simp));have BL:=hid (show ye _ _ (([bt,bf,bd]:List Int).map (Value.int .i64)).toArray 3 from B3);have G1:=hid (ya (ya A1 A2) A3);clear B1 B2 B3 A1 A2 A3;go_enter Tryz.func8,Tryz.ntmps8
 go_upto_region 2 with fail
 generalize ((w.alloc (.cells #[.int .i64 bt,.int .i64 bf,.int .i64 bd] 27)).alloc (.cells #[.int .i64 0,.int .i64 0,.string ⟨#[]⟩] 32)).alloc (.cells #[.int .i64 bt,.int .i64 bf,.int .i64 bd] 3)=W1 at *;clear hs1 hs2;have hBl:=BB.o.lt;have hRl:=BR.o.lt;have oQ:w.heap.size<=w.heap.size+1:=by omega
 have hRB:w.heap.size+1≠w.heap.size:=by omega
 generalize hBB:w.heap.size=B at *;generalize hRR:B+1=R at *;generalize hLL:B+2=L at *;have iX:Hd (∀ (V:World) (fe fa:Int) (fn:List UInt8),w.grownBy V none->ye V R #[.int .i64 0,.int .i64 0,.string ⟨#[]⟩] 32->∀ W,W=(((V.setCell ⟨R,0,none⟩ (.int .i64 fe)).setCell ⟨R,1,none⟩ (.int .i64 fa)).setCell ⟨R,2,none⟩ (.string (bs fn)))->(W.cell? ⟨R,0,none⟩=some (.int .i64 fe)/\W.cell? ⟨R,1,none⟩=some (.int .i64 fa)/\W.cell? ⟨R,2,none⟩=some (.string (bs fn)))/\w.grownBy W none):=by
  rintro V fe fa fn hg hb W rfl;have F:=((hb.set 0 (.int .i64 fe)).set 1 (.int .i64 fa)).set 2 (.string (bs fn));exact ⟨⟨F.cell 0,F.cell 1,F.cell 2⟩,yx hg _ (by omega) _ _ _⟩
 clear hBB hRR hLL;go_wp2
 go_loopw [7] (fun i wr=>∃ k:Nat,k<=3/\i = .int .i64 k/\(∀ j,j < k->Im.Base (([bt,bf,bd]:List Int).getD j 0))/\wr=W1) (fun i _=>3 - (intOf i).toNat)
 case atStart=>exact ⟨0,Nat.zero_le _,rfl,fun j hj=>absurd hj (Nat.not_lt_zero _),rfl⟩
 case round =>
  obtain ⟨k,hk,rfl,hb,rfl⟩:=hrel;have Ig:=hid hb;clear hb;by_cases hlt:k < 3
  ·have g1:(k:Int) < 3:=by omega
   have ck:=BL.o.cell k;rw [dH,List.getElem?_map,gy (show k < [bt,bf,bd].length from hlt)] at ck;have eg:([bt,bf,bd]:List Int).getD k 0=[bt,bf,bd][k]:=by rw [iJ,gy]; rfl
   have NF:=hid (fun (h:¬ Im.Base (([bt,bf,bd]:List Int)[k]))=>yok k hlt Ig.o (by rw [eg]; exact h));have NX:=hid (fun (h:Im.Base (([bt,bf,bd]:List Int)[k]))=>show ∀ j,j < k+1->Im.Base (([bt,bf,bd]:List Int).getD j 0) by
    intro j hj;by_cases c:j < k
    ·exact Ig.o j c
    ·obtain rfl:j=k:=by omega
     rw [eg];exact h)
   clear eg;generalize [bt,bf,bd][k]=a at *;dsimp only [Option.map_some] at ck;by_cases hb:4096<=a/\a < 1073741824/\a % 16=0
   ·have N:=hid (NX.o ((Yl a).2 hb));have dm:decide (4096<=a/\a < 1073741824/\a % 16=0)=true:=decide_eq_true hb;clear hb;go_wp2_with fail;refine (Y1 a _).mono ?_;rintro e w' ⟨rfl,rfl⟩;rw [dm];go_wp2
    go_roundw
    case rel=>exact ⟨k+1,by omega,by go_num,N.o,by first | rfl | trivial⟩
    case measure=>simp [intOf]; omega
   ·have E:=hid (NF.o (fun c=>hb ((Yl a).1 c)));have dm:decide (4096<=a/\a < 1073741824/\a % 16=0)=false:=decide_eq_false hb;clear hb;go_wp2_with fail;refine (Y1 a _).mono ?_;rintro e w' ⟨rfl,rfl⟩;rw [dm];have z0:=BR.o.cell 0;have z1:=BR.o.cell 1;have z2:=BR.o.cell 2;simp only [dH,dL,dK] at z0 z1 z2;have f0:=BR.o.free 0;have f1:=BR.o.free 1;have f2:=BR.o.free 2;go_wp2;obtain ⟨⟨h0,h1,h2⟩,h3⟩:=iX.o w' 30 k [] G1.o BR.o _ rfl;rw [show bs []=(⟨#[]⟩:ByteArray) from rfl] at h0 h1 h2 h3;refine bodyPost_ret (v:=.tuple #[.string (bs []),bJ ⟨30,k,[]⟩]) ?_ rfl ⟨.inl ⟨⟨30,k,[]⟩,by show (30:Int)≠0; decide,rfl,.inl E.o.symm⟩,h3⟩
    clear z0 z1 z2 f0 f1 f2;generalize World.setCell _ _ _=WF at *;simp [results,Tryz.results8,go_sem,bJ,bs,h0,h1,h2]
  obtain rfl:k=3:=by omega
  have I9:=hid (ymT Ig.o);have hbt:=(Xw I9.o)
  clear Ig hlt hk;have ht:=BK hbt.1;have hf:=BK hbt.2.1;have hd:=BK hbt.2.2;clear hbt;go_wp2_with fail;refine (cP.o _ G1.o).mono ?_;rintro e W2 ⟨hret,hg2⟩;have G2:=hid (ya G1.o hg2);have tu:=hid (BB.o.grown hg2 (by simp));have kU:=hid (BR.o.grown hg2 (by simp));have hB2:=tu.o.lt;have hR2:=kU.o.lt;have AX:=hid (fun a b c=>aH W2 (.cells #[a,b,c] 32) none);have KE:=hid (fun a b c=>ye.new W2 #[a,b,c] 32);clear hg2 cP BL BB BR G1;have Eh:R≠W2.heap.size:=by omega
  have VX:B≠W2.heap.size:=by omega
  have Jv:w.heap.size<=W2.heap.size:=G2.o.size;rcases hret with ⟨f,hfe,rfl,hc⟩ | ⟨l1,l8,hall,ap,gl,cp,rfl,hpi⟩
  ·have mD:=hid (show Ar bt bf bd fs (.returned (.tuple #[.string (bs []),bJ f])) from .inl ⟨f,hfe,rfl,.inr (by
    rcases hc with ⟨l,e⟩ | ⟨l1,l8,r⟩
    ·exact .inl ⟨I9.o,l,e⟩
    ·exact .inr ⟨I9.o,l1,l8,r⟩)⟩)
   obtain ⟨fe,fa,fn⟩:=f;unfold bJ;dsimp only at *;have d1:(fe == 0)=false:=by simpa using hfe
   have d2:(fe != 0)=true:=by simpa using hfe
   have BX:=hid (KE.o (.int .i64 fe) (.int .i64 fa) (.string (bs fn)));have Aw:=AX.o (.int .i64 fe) (.int .i64 fa) (.string (bs fn));have BF:=hid (kU.o.grown Aw (by simp));have G3:=hid (ya G2.o Aw);clear hfe hc Aw AX KE;go_wp2;generalize W2.alloc (.cells #[.int .i64 fe,.int .i64 fa,.string (bs fn)] 32)=V at *;generalize W2.heap.size=X at *;have x0:V.cell? ⟨X,0,none⟩=some (.int .i64 fe):=BX.o.cell 0;have x1:V.cell? ⟨X,1,none⟩=some (.int .i64 fa):=BX.o.cell 1;have x2:V.cell? ⟨X,2,none⟩=some (.string (bs fn)):=BX.o.cell 2;have z0:V.cell? ⟨R,0,none⟩=some (.int .i64 0):=BF.o.cell 0;have z1:V.cell? ⟨R,1,none⟩=some (.int .i64 0):=BF.o.cell 1
   have z2:V.cell? ⟨R,2,none⟩=some (.string ⟨#[]⟩):=BF.o.cell 2;have f0:=BF.o.free 0;have f1:=BF.o.free 1;have f2:=BF.o.free 2
   go_region_held3 (fun w'=>w'.cell? ⟨X,0,none⟩=some (.int .i64 fe)/\w'.cell? ⟨X,1,none⟩=some (.int .i64 fa)/\w'.cell? ⟨X,2,none⟩=some (.string (bs fn)))
    (go_keep)
    (fail)
   go_wp2;obtain ⟨⟨h0,h1,h2⟩,h3⟩:=iX.o V fe fa fn G3.o BF.o _ rfl;refine bodyPost_ret (v:=.tuple #[.string (bs []),bJ ⟨fe,fa,fn⟩]) ?_ rfl ⟨mD.o,yf h3⟩;clear x0 x1 x2 z0 z1 z2 f0 f1 f2;generalize World.setCell _ _ _=WF at *;simp [results,Tryz.results8,go_sem,bJ,bs,h0,h1,h2]
  have FIN:=hid (fun (b:List UInt8) (f:Ln.nW) (h:Ln.jm (Ln.bO (fs.map sW)) bt bf bd=(b,f))=>show Ar bt bf bd fs (.returned (.tuple #[.string (bs b),bJ f])) from .inr ⟨I9.o,l1,l8,fs.map sW,by simp,fun i h=>by
   rw [List.getElem_map];exact Sd (hall _ (dM h)),by rw [h]⟩)
  generalize Ln.bO (fs.map sW)=os at *;have PI:=hid hpi;have P9:=hpi.few;have HV:=hid hpi.val;have Cv:=hid hpi.pos;have tF:=hid hpi.len;clear hpi hall l1 l8 I9;unfold bJ Ln.ok;dsimp only;have BX:=hid (KE.o (.int .i64 0) (.int .i64 0) (.string (bs [])));have Aw:=hid (AX.o (.int .i64 0) (.int .i64 0) (.string (bs [])));have fF:=hid (kU.o.grown Aw.o (by simp));have vT:=hid (tu.o.grown Aw.o (by simp));clear AX KE kU tu
  go_upto_region 11 with fail
  generalize W2.alloc (.cells #[.int .i64 0,.int .i64 0,.string (bs [])] 32)=V at *;generalize VY:W2.heap.size=X at *;have Oo:=hid VY;clear VY;have cN:=hid (ylc ap cp gl os V (PI.o.kept Aw.o));have UN:=hid (show ∀ f,Ln.aM os=f->f.e≠0->Ln.jm os bt bf bd=([],f) from fun f h1 h2=>by unfold Ln.jm; rw [h1,if_pos h2]);have UM:=hid (show ∀ f,Ln.aM os=f->f.e=0->(Ln.aM os).e=0 from fun f h1 h2=>by rw [h1]; exact h2);generalize Wo:Ln.aM os=tf at cN;obtain ⟨te,ta,tn⟩:=tf;have Oj:=hid Wo;clear Wo;unfold bJ at cN;dsimp only at cN;go_wp2_with fail;refine cN.o.mono ?_;rintro e V3 ⟨rfl,hg3⟩;have lT:=hid (BX.o.grown hg3 (by simp))
  have bZ:=hid (fF.o.grown hg3 (by simp));have Ck:=hid (vT.o.grown hg3 (by simp));have Tt:=hid (ya Aw.o hg3);clear hg3 cN BX fF vT Aw;have x0:V3.cell? ⟨X,0,none⟩=some (.int .i64 0):=lT.o.cell 0;have x1:V3.cell? ⟨X,1,none⟩=some (.int .i64 0):=lT.o.cell 1;have x2:V3.cell? ⟨X,2,none⟩=some (.string (bs [])):=lT.o.cell 2;have y0:V3.frozen? ⟨X,0,none⟩=false:=lT.o.free 0;have y1:V3.frozen? ⟨X,1,none⟩=false:=lT.o.free 1;have y2:V3.frozen? ⟨X,2,none⟩=false:=lT.o.free 2;have KM:=hid (yx Tt.o X (by rw [Oo.o]; exact Nat.le_refl _) (.int .i64 te) (.int .i64 ta) (.string (bs tn)));have y9:=hid (Nj lT.o (.int .i64 te) (.int .i64 ta) (.string (bs tn)))
  have gK:=hid (CY bZ.o Eh (.int .i64 te) (.int .i64 ta) (.string (bs tn)));have xA:=hid (CY Ck.o VX (.int .i64 te) (.int .i64 ta) (.string (bs tn)))
  go_upto_region 12 with fail
  clear x0 x1 x2 y0 y1 y2 lT bZ Ck Tt;generalize (((V3.setCell ⟨X,0,none⟩ (.int .i64 te)).setCell ⟨X,1,none⟩ (.int .i64 ta)).setCell ⟨X,2,none⟩ (.string (bs tn)))=V4 at *;have x0:V4.cell? ⟨X,0,none⟩=some (.int .i64 te):=y9.o.cell 0;have G4:=hid (ya G2.o KM.o);by_cases he:te=0
  case neg =>
   have d1:(te == 0)=false:=by simpa using he
   have d2:(te != 0)=true:=by simpa using he
   have mD:=hid (FIN.o [] ⟨te,ta,tn⟩ (UN.o _ Oj.o he));have x1:V4.cell? ⟨X,1,none⟩=some (.int .i64 ta):=y9.o.cell 1;have x2:V4.cell? ⟨X,2,none⟩=some (.string (bs tn)):=y9.o.cell 2;clear he;go_wp2;have z0:V4.cell? ⟨R,0,none⟩=some (.int .i64 0):=gK.o.cell 0;have z1:V4.cell? ⟨R,1,none⟩=some (.int .i64 0):=gK.o.cell 1;have z2:V4.cell? ⟨R,2,none⟩=some (.string ⟨#[]⟩):=gK.o.cell 2;have f0:=gK.o.free 0;have f1:=gK.o.free 1;have f2:=gK.o.free 2
   go_region_held3 (fun w'=>w'.cell? ⟨X,0,none⟩=some (.int .i64 te)/\w'.cell? ⟨X,1,none⟩=some (.int .i64 ta)/\w'.cell? ⟨X,2,none⟩=some (.string (bs tn)))
    (go_keep)
    (fail)
   go_wp2;obtain ⟨⟨h0,h1,h2⟩,h3⟩:=iX.o V4 te ta tn G4.o gK.o _ rfl;refine bodyPost_ret (v:=.tuple #[.string (bs []),bJ ⟨te,ta,tn⟩]) ?_ rfl ⟨mD.o,yf h3⟩;clear x0 x1 x2 z0 z1 z2 f0 f1 f2;generalize World.setCell _ _ _=WF at *;simp [results,Tryz.results8,go_sem,bJ,bs,h0,h1,h2]
  subst he;have FU:=hid (UM.o _ Oj.o rfl);have ST0:=hid (yit Cv.o FU.o);clear UN UM Oj;have R0:=hid (Dl.lU.start os);have cS:=hid (show Calls Tryz.prog 13 #[.slice ap gl.length cp,.agg #[.int .i64 bt,.int .i64 bf,.int .i64 bd]] V4 (fun e w'=>∃ v bl,e = .returned v/\yK V4 v bl (os.map fun o=>o.aj.length) (Dl.iM os (Dl.tab bt bf bd (Ln.bA os (os.map Ln.bare)))) w') by
   have:=yjQ ap cp gl (Ln.bA os (os.map Ln.bare)) bt bf bd V4 (by rw [R0.o.1]; exact PI.o.kept KM.o) (fun m hm=>(Rm os HV.o m hm).short) ⟨ht.1,ht.2.1⟩ ⟨hf.1,hf.2.1⟩ ⟨hd.1,hd.2.1⟩
   rw [R0.o.1] at this;exact this)
  have b0:V4.cell? ⟨B,0,none⟩=some (.int .i64 bt):=xA.o.cell 0;have b1:V4.cell? ⟨B,1,none⟩=some (.int .i64 bf):=xA.o.cell 1;have b2:V4.cell? ⟨B,2,none⟩=some (.int .i64 bd):=xA.o.cell 2;go_wp2_with fail;refine cS.o.mono ?_;rintro e V5 ⟨vs,Vi,rfl,hfl⟩;obtain ⟨lF,pF,rfl⟩:=yj hfl.row;have Jz:Vi.length=gl.length:=by rw [hfl.len,jc,tF.o]
  have UW:=hid (XW R0.o HV.o hfl);have NG:=hid (hfl.low G4.o);have g5:=hfl.gr;have NK:=hid (ya KM.o g5);have G5:=hid (ya G4.o g5);have AU:=hid (y9.o.grown g5 (by simp));have GZ:=hid (gK.o.grown g5 (by simp));have Az:=hid (xA.o.grown g5 (by simp));clear hfl cS b0 b1 b2 x0 g5 y9 gK xA KM G4;rw [Jz] at NG ⊢;clear Jz;have R2:=hid ((R0.o.lay bt bf bd).shorten);have UY:=hid (fun (W:World) (hF:yK w (.slice lF gl.length pF) Vi (os.map fun o=>o.aj.length) (Dl.iM os (Dl.tab bt bf bd (Ln.bA os (os.map Ln.bare)))) W)=>show vO W lF gl.length (Ln.shorten (Ln.lay bt bf bd (Ln.bA os (os.map Ln.bare)))) by rw [tF.o]; exact XW R0.o HV.o hF)
  generalize Dl.iM os (Dl.tab bt bf bd (Ln.bA os (os.map Ln.bare)))=SF at *;have hml:(Ln.shorten (Ln.lay bt bf bd (Ln.bA os (os.map Ln.bare)))).length<=48:=by rw [R2.o.len]; exact P9
  generalize VL:Ln.shorten (Ln.lay bt bf bd (Ln.bA os (os.map Ln.bare)))=ms at *;have La:=hid (R2.o.val HV.o);have PS:=hid (Dl.sJ VL.symm R2.o HV.o ST0.o);have FIT:=hid (Dl.wG (os:=os) La.o hml ht hf hd);have Tc:=hid (Dl.wE (os:=os) La.o hml ht hf hd);have wC:=hid (Yo ap cp gl ms bt bf bd lF pF V5 (by rw [R2.o.1]; exact PI.o.kept NK.o) (by rw [tF.o]; exact UW.o) ⟨ht.1,ht.2.1⟩ ⟨hf.1,hf.2.1⟩ ⟨hd.1,hd.2.1⟩);have Le:=hid (fun i s (h:i < os.length) (_:1<=s) (_:s<=4)=>show (Dl.tab bt bf bd ms i s).length=(eZ os[i] s).length+1 by
   have h':i < (ms.map Ln.Mod.obj).length:=by rw [R2.o.1]; exact h
   have:=Ze bt bf bd i s h'
   rw [this]
   congr 3
   simp only [R2.o.1])
  have Jb:=hid (fun i s k (h1:1<=s) (h4:s<=4)=>Zf La.o hml ⟨ht.1,ht.2.1⟩ ⟨hf.1,hf.2.1⟩ ⟨hd.1,hd.2.1⟩ i s k h1 h4);clear VL UW R0 Cv;have b0:V5.cell? ⟨B,0,none⟩=some (.int .i64 bt):=Az.o.cell 0;have b1:V5.cell? ⟨B,1,none⟩=some (.int .i64 bf):=Az.o.cell 1;have b2:V5.cell? ⟨B,2,none⟩=some (.int .i64 bd):=Az.o.cell 2;go_wp2_with fail;refine wC.o.mono ?_;rintro e V6 ⟨va,LL,E,bl,rfl,hbl,hla⟩;have Us:=hid (hla.low G5.o);obtain ⟨av,cv,rfl⟩:=yj hla.row;have g6:=hla.gr;have ZV:=hid (show bl.length=gl.length by rw [hbl,R2.o.len,tF.o]);have A7:=aH V6 (.cells #[.slice av bl.length cv,.slice (some ⟨E,0,none⟩) 5 5] 45) none
  have BP:=hid (ye.new V6 #[.slice av bl.length cv,.slice (some ⟨E,0,none⟩) 5 5] 45);have g7:=ya g6 A7;have zm:=hid (Us.o.kept A7);have Ti:=hid (NG.o.kept g7);have NP:=hid (ya NK.o g7);have G7:=hid (ya G5.o g7);have tC:=hid (AU.o.grown g7 (by simp));have AJ:=hid (GZ.o.grown g7 (by simp));have u6:=hid (Az.o.grown g7 (by simp));have hXP:X < V6.heap.size:=Nat.lt_of_lt_of_le AU.o.lt g6.size;clear hla wC b0 b1 b2 g6 g7 A7 Us NG NK G5 AU GZ Az hbl
  go_upto_region 16 with fail
  generalize V6.alloc (.cells #[.slice av bl.length cv,.slice (some ⟨E,0,none⟩) 5 5] 45)=V7 at *;generalize V6.heap.size=P at *;have pX:=hid (fun (W:World) (hW:W2.grownBy W none) (hL:jL w LL E (.slice av bl.length cv) bl [0,Dl.ends bt bf bd ms 1,Dl.ends bt bf bd ms 2,Dl.ends bt bf bd ms 3,Dl.ends bt bf bd ms 4] (fun _ s=>1<=s/\s<=4) (Dl.tab bt bf bd ms) W) (hP:ye W P #[.slice av bl.length cv,.slice (some ⟨E,0,none⟩) 5 5] 45)=>(⟨PI.o.kept hW,o8.of hL hP ZV.o,Le.o,Jb.o⟩:Laid W P ap gl os (Dl.tab bt bf bd ms) [0,Dl.ends bt bf bd ms 1,Dl.ends bt bf bd ms 2,Dl.ends bt bf bd ms 3,Dl.ends bt bf bd ms 4]))
  have LIE:=hid (fun (W:World) (hL:Laid W P ap gl os (Dl.tab bt bf bd ms) [0,Dl.ends bt bf bd ms 1,Dl.ends bt bf bd ms 2,Dl.ends bt bf bd ms 3,Dl.ends bt bf bd ms 4]) (p:Nat×Nat) (hp:Dl.start os=some p)=>Si hL (Dl.qp hp) (by have:=Dl.mP hp; omega));have cR:=hid (fun W (hL:Laid W P ap gl os (Dl.tab bt bf bd ms) [0,Dl.ends bt bf bd ms 1,Dl.ends bt bf bd ms 2,Dl.ends bt bf bd ms 3,Dl.ends bt bf bd ms 4])=>yiL P ap cp gl os ms bt bf bd _ W hL R2.o);have O7:=hid (fun W (hg:W2.grownBy W none)=>yet ap cp gl os W (PI.o.kept hg));have OU:=hid (fun W (hL:Laid W P ap gl os (Dl.tab bt bf bd ms) [0,Dl.ends bt bf bd ms 1,Dl.ends bt bf bd ms 2,Dl.ends bt bf bd ms 3,Dl.ends bt bf bd ms 4])=>QY P ap cp gl os (Dl.tab bt bf bd ms) _ (Dl.start os) W hL.parts hL.ld (LIE.o W hL))
  have cO:=hid (fun W (hL:Laid W P ap gl os (Dl.tab bt bf bd ms) [0,Dl.ends bt bf bd ms 1,Dl.ends bt bf bd ms 2,Dl.ends bt bf bd ms 3,Dl.ends bt bf bd ms 4]) (hsh:vO W lF gl.length ms)=>show Calls Tryz.prog 20 #[.slice ap gl.length cp,.pointer (some ⟨P,0,none⟩),.slice lF gl.length pF,.agg #[.int .i64 bt,.int .i64 bf,.int .i64 bd]] W (fun e w'=>e = .returned (.string (bs (Im.bytes (Dl.jl os ms bt bf bd))))/\W.grownBy w' none) from yoy P ap cp gl os ms bt bf bd lF pF W hL R2.o hsh ht hf hd (LIE.o W hL));have OH:=hid (fun (h:Im.Fits (Dl.jl os ms bt bf bd)->False)=>Ru (f:=⟨36,0,[]⟩) FU.o (by rw [PS.o.1,PS.o.2]; exact yjh h) (by show (36:Int)≠0; decide))
  have OI:=hid (fun (h:Im.Fits (Dl.jl os ms bt bf bd)) (h2:(Ln.aQ (Ln.lay bt bf bd ms)).e≠0)=>Ru FU.o (by rw [PS.o.1,PS.o.2]; exact yji h h2) h2);have Li:=hid (fun (h:Im.Fits (Dl.jl os ms bt bf bd)) (h2:(Ln.aQ (Ln.lay bt bf bd ms)).e=0) (h3:¬ (Im.code (Dl.jl os ms bt bf bd) (Dl.jl os ms bt bf bd).start).isSome=true)=>Ru (f:=⟨35,0,[]⟩) FU.o (by rw [PS.o.1,PS.o.2]; exact yjj h h2 h3) (by show (35:Int)≠0; decide));have Lh:=hid (fun (h:Im.Fits (Dl.jl os ms bt bf bd)) (h2:(Ln.aQ (Ln.lay bt bf bd ms)).e=0) (h3:(Im.code (Dl.jl os ms bt bf bd) (Dl.jl os ms bt bf bd).start).isSome=true)=>show Ln.jm os bt bf bd=(Im.bytes (Dl.jl os ms bt bf bd),Ln.ok) by
   rw [<- PS.o.1];exact ylt FU.o (by rw [PS.o.1,PS.o.2]; exact ymF h h2 h3))
  have RAD:=hid (show Im.Fits (Dl.jl os ms bt bf bd)\/¬ Im.Fits (Dl.jl os ms bt bf bd) from Classical.em _);rw [FIT.o] at OH OI Li Lh;rw [Tc.o] at Li Lh;clear FIT Tc RAD PS FU ST0 Le Jb La PI;generalize Dl.jl os ms bt bf bd=Ou at *;generalize Ln.aQ (Ln.lay bt bf bd ms)=cr at *;generalize Dl.addr os (Dl.tab bt bf bd ms) (Dl.start os)=AD at *;generalize Dl.start os=M at *;obtain ⟨mp,mq,vB⟩:∃ mp mq:Int,iF M = .agg #[.int .i64 mp,.int .i64 mq]:=by
   cases M with
   | none=>exact ⟨-1,0,rfl⟩
   | some p=>exact ⟨p.1,p.2,rfl⟩
  rw [vB] at O7 OU;clear vB;obtain ⟨al2,ca2,E2,-,q2,q3,-⟩:=(pX.o V7 NP.o zm.o BP.o).ld.main;have q2':V7.cell? ⟨P,1,none⟩=some (.slice (some ⟨E,0,none⟩) 5 5):=BP.o.cell 1;obtain rfl:E2=E:=by
   rw [q2'] at q2;simpa using q2.symm
  have PC:=hid q2';have Dj:=hid (q3 1 (by simp));have Dk:=hid (q3 2 (by simp));have Nw:=hid (q3 4 (by simp));clear q2 q3 q2';simp only [kT,kI] at Dj Dk Nw;generalize Dl.ends bt bf bd ms 1=e1 at *;generalize Dl.ends bt bf bd ms 2=e2 at *;generalize Dl.ends bt bf bd ms 3=e3 at *;generalize Dl.ends bt bf bd ms 4=e4 at *;generalize Dl.tab bt bf bd ms=TB at *;clear R2 hml;have CF:=hid (fun (V:World) (hg:V7.grownBy V none)=>(⟨yc PC.o hg,yc Dj.o hg,yc Dk.o hg,yc Nw.o hg,yc (u6.o.cell 0) hg,yc (u6.o.cell 1) hg,yc (u6.o.cell 2) hg⟩:V.cell? ⟨P,1,none⟩=some (.slice (some ⟨E2,0,none⟩) 5 5)/\V.cell? ⟨E2,1,none⟩=some (.int .i64 e1)/\V.cell? ⟨E2,2,none⟩=some (.int .i64 e2)/\V.cell? ⟨E2,4,none⟩=some (.int .i64 e4)/\V.cell? ⟨B,0,none⟩=some (.int .i64 bt)/\V.cell? ⟨B,1,none⟩=some (.int .i64 bf)/\V.cell? ⟨B,2,none⟩=some (.int .i64 bd)))
  clear PC Dj Dk Nw;obtain ⟨p1,rU,rV,wF,b0,b1,b2⟩:=CF.o V7 (World.grownBy.refl _ _)
  go_quiet ((go_at_call 15; exact Calls.quiet_of_same (Rf _ _ _ _ _)))
  clear p1 rU rV wF b0 b1 b2;have Dm:=hid (yd (World.grownBy.refl V7 none) nq);generalize V7.drewN nq=V8 at *
  go_upto_region 17 with fail
  obtain ⟨p1,rU,rV,wF,b0,b1,b2⟩:=CF.o V8 Dm.o
  go_quiet ((go_at_call 15; exact Calls.quiet_of_same (Rf _ _ _ _ _)))
  clear p1 rU rV wF b0 b1 b2;have Af:=hid (yd Dm.o nq);clear Dm;generalize V8.drewN nq=V9 at *
  go_upto_region 18 with fail
  obtain ⟨p1,rU,rV,wF,b0,b1,b2⟩:=CF.o V9 Af.o
  go_quiet ((go_at_call 15; exact Calls.quiet_of_same (Rf _ _ _ _ _)))
  clear p1 rU rV wF b0 b1 b2;have GQ:=hid (yd Af.o nq);clear Af;generalize V9.drewN nq=wh at *
  go_upto_region 19 with fail
  obtain ⟨p1,rU,rV,wF,b0,b1,b2⟩:=CF.o wh GQ.o;have DC:=hid (zm.o.kept GQ.o);have Ho:=hid (Ti.o.kept GQ.o);have Dn:=hid (ya NP.o GQ.o);have Tj:=hid (ya G7.o GQ.o);have He:=hid (tC.o.grown GQ.o (by simp));have qy:=hid (AJ.o.grown GQ.o (by simp));have Gw:=hid (u6.o.grown GQ.o (by simp));have Dh:=hid (BP.o.grown GQ.o (by simp));clear zm Ti NP G7 tC AJ u6 BP;by_cases hfit:(e1<=1073741824/\e2<=1073741824/\e4<=1073741824)/\¬ Im.gG bt e1 bf e2/\¬ Im.gG bt e1 bd e4/\¬ Im.gG bf e2 bd e4
  case neg =>
   have mD:=hid (FIN.o [] ⟨36,0,[]⟩ (OH.o hfit));have z0:wh.cell? ⟨R,0,none⟩=some (.int .i64 0):=qy.o.cell 0;have z1:wh.cell? ⟨R,1,none⟩=some (.int .i64 0):=qy.o.cell 1;have z2:wh.cell? ⟨R,2,none⟩=some (.string ⟨#[]⟩):=qy.o.cell 2;have f0:=qy.o.free 0;have f1:=qy.o.free 1;have f2:=qy.o.free 2;have FI:=hid (iX.o wh 36 0 [] Tj.o qy.o _ rfl);rw [show bs []=(⟨#[]⟩:ByteArray) from rfl] at FI;rcases ypR hfit with h | ⟨h1,h2⟩ | ⟨h1,h2,h3⟩ | ⟨h1,h2,h3,h4⟩ | ⟨h1,h2,h3,h4,h5⟩ | ⟨h1,h2,h3,h4,h5,h6⟩
   ·have a1:=Rp h;clear hfit h;generalize nU bt e1 bf e2=x1 at *;subst a1;go_wp2;obtain ⟨⟨h0,h1,h2⟩,h3⟩:=FI.o;refine bodyPost_ret (v:=.tuple #[.string (bs []),bJ ⟨36,0,[]⟩]) ?_ rfl ⟨mD.o,h3⟩;clear z0 z1 z2 f0 f1 f2 p1 rU rV wF b0 b1 b2;generalize World.setCell _ _ _=WF at *;simp [results,Tryz.results8,go_sem,bJ,bs,h0,h1,h2]
   ·have a1:=uR h1;have a2:=Rp h2;clear hfit h1 h2;generalize nU bt e1 bf e2=x1 at *;generalize nU bt e1 bd e4=x2 at *;subst a1 a2;go_wp2;obtain ⟨⟨h0,h1,h2⟩,h3⟩:=FI.o;refine bodyPost_ret (v:=.tuple #[.string (bs []),bJ ⟨36,0,[]⟩]) ?_ rfl ⟨mD.o,h3⟩;clear z0 z1 z2 f0 f1 f2 p1 rU rV wF b0 b1 b2;generalize World.setCell _ _ _=WF at *;simp [results,Tryz.results8,go_sem,bJ,bs,h0,h1,h2]
   ·have a1:=uR h1;have a2:=uR h2;have a3:=Rp h3;clear hfit h1 h2 h3;generalize nU bt e1 bf e2=x1 at *;generalize nU bt e1 bd e4=x2 at *;generalize nU bf e2 bd e4=x3 at *;subst a1 a2 a3;go_wp2;obtain ⟨⟨h0,h1,h2⟩,h3⟩:=FI.o;refine bodyPost_ret (v:=.tuple #[.string (bs []),bJ ⟨36,0,[]⟩]) ?_ rfl ⟨mD.o,h3⟩;clear z0 z1 z2 f0 f1 f2 p1 rU rV wF b0 b1 b2;generalize World.setCell _ _ _=WF at *;simp [results,Tryz.results8,go_sem,bJ,bs,h0,h1,h2]
   ·have a1:=uR h1;have a2:=uR h2;have a3:=uR h3;have d1:decide (1073741824 < e1)=true:=decide_eq_true h4;clear hfit h1 h2 h3;generalize nU bt e1 bf e2=x1 at *;generalize nU bt e1 bd e4=x2 at *;generalize nU bf e2 bd e4=x3 at *;subst a1 a2 a3;go_wp2;obtain ⟨⟨h0,h1,h2⟩,h3⟩:=FI.o;refine bodyPost_ret (v:=.tuple #[.string (bs []),bJ ⟨36,0,[]⟩]) ?_ rfl ⟨mD.o,h3⟩;clear z0 z1 z2 f0 f1 f2 p1 rU rV wF b0 b1 b2;generalize World.setCell _ _ _=WF at *;simp [results,Tryz.results8,go_sem,bJ,bs,h0,h1,h2]
   ·have a1:=uR h1;have a2:=uR h2;have a3:=uR h3;have d1:decide (1073741824 < e1)=false:=decide_eq_false (by omega);have d2:decide (1073741824 < e2)=true:=decide_eq_true h5;clear hfit h1 h2 h3;generalize nU bt e1 bf e2=x1 at *;generalize nU bt e1 bd e4=x2 at *;generalize nU bf e2 bd e4=x3 at *;subst a1 a2 a3;go_wp2;obtain ⟨⟨h0,h1,h2⟩,h3⟩:=FI.o;refine bodyPost_ret (v:=.tuple #[.string (bs []),bJ ⟨36,0,[]⟩]) ?_ rfl ⟨mD.o,h3⟩;clear z0 z1 z2 f0 f1 f2 p1 rU rV wF b0 b1 b2;generalize World.setCell _ _ _=WF at *;simp [results,Tryz.results8,go_sem,bJ,bs,h0,h1,h2]
   ·have a1:=uR h1;have a2:=uR h2;have a3:=uR h3;have d1:decide (1073741824 < e1)=false:=decide_eq_false (by omega);have d2:decide (1073741824 < e2)=false:=decide_eq_false (by omega);have d4:decide (1073741824 < e4)=true:=decide_eq_true h6;clear hfit h1 h2 h3;generalize nU bt e1 bf e2=x1 at *;generalize nU bt e1 bd e4=x2 at *;generalize nU bf e2 bd e4=x3 at *;subst a1 a2 a3;go_wp2;obtain ⟨⟨h0,h1,h2⟩,h3⟩:=FI.o;refine bodyPost_ret (v:=.tuple #[.string (bs []),bJ ⟨36,0,[]⟩]) ?_ rfl ⟨mD.o,h3⟩;clear z0 z1 z2 f0 f1 f2 p1 rU rV wF b0 b1 b2;generalize World.setCell _ _ _=WF at *;simp [results,Tryz.results8,go_sem,bJ,bs,h0,h1,h2]
  have DY:=hid (OI.o hfit);have DZ:=hid (Li.o hfit);have DX:=hid (Lh.o hfit);have a1:=uR hfit.2.1;have a2:=uR hfit.2.2.1;have a3:=uR hfit.2.2.2;have d1:decide (1073741824 < e1)=false:=decide_eq_false (by omega);have d2:decide (1073741824 < e2)=false:=decide_eq_false (by omega);have d4:decide (1073741824 < e4)=false:=decide_eq_false (by omega);clear hfit OI Li Lh OH;generalize nU bt e1 bf e2=x1 at *;generalize nU bt e1 bd e4=x2 at *;generalize nU bf e2 bd e4=x3 at *;subst a1 a2 a3
  go_upto_region 21 with fail
  clear d1 d2 d4 p1 rU rV wF b0 b1 b2;have Ls:=hid (cR.o wh (pX.o wh Dn.o DC.o Dh.o));obtain ⟨re,ra,rn⟩:=cr;unfold bJ at Ls;dsimp only at Ls DY DZ DX;go_wp2_with fail;refine Ls.o.mono ?_;rintro e tX ⟨rfl,su⟩;have IE:=hid (DC.o.kept su);have Hq:=hid (Ho.o.kept su);have Ia:=hid (ya Dn.o su);have qB:=hid (He.o.grown su (by simp));have GL:=hid (qy.o.grown su (by simp));have Gx:=hid (Gw.o.grown su (by simp));have GH:=hid (Dh.o.grown su (by simp));clear su Ls cR DC Ho Dn Tj He qy Gw Dh;have x0:tX.cell? ⟨X,0,none⟩=some (.int .i64 0):=qB.o.cell 0;have x1:tX.cell? ⟨X,1,none⟩=some (.int .i64 ta):=qB.o.cell 1
  have x2:tX.cell? ⟨X,2,none⟩=some (.string (bs tn)):=qB.o.cell 2;have y0:tX.frozen? ⟨X,0,none⟩=false:=qB.o.free 0;have y1:tX.frozen? ⟨X,1,none⟩=false:=qB.o.free 1;have y2:tX.frozen? ⟨X,2,none⟩=false:=qB.o.free 2;have GS:=ymI tX X (.int .i64 re) (.int .i64 ra) (.string (bs rn));have RT:=aW.blk qB.o;have Pz:w.heap.size<=X:=by have:=Oo.o; have:=G2.o.size; omega
  have AV:=hid (yx Ia.o X (by rw [Oo.o]; exact Nat.le_refl _) (.int .i64 re) (.int .i64 ra) (.string (bs rn)));have IG:=hid (IE.o.ty GS RT (by intro b hb; simp at hb; omega) (by decide) (by decide) (by decide) (by decide));have Hr:=hid (Hq.o.ty GS RT (by intro b hb; simp at hb; omega) (by decide) (by decide));have GI:=hid (yy GH.o GS RT (by decide));have AQ:=hid (Nj qB.o (.int .i64 re) (.int .i64 ra) (.string (bs rn)));have qz:=hid (CY GL.o Eh (.int .i64 re) (.int .i64 ra) (.string (bs rn)));have Gy:=hid (CY Gx.o VX (.int .i64 re) (.int .i64 ra) (.string (bs rn)));clear GS RT Pz
  go_upto_region 22 with fail
  clear x0 x1 x2 y0 y1 y2 IE Hq Ia qB GL Gx GH;generalize (((tX.setCell ⟨X,0,none⟩ (.int .i64 re)).setCell ⟨X,1,none⟩ (.int .i64 ra)).setCell ⟨X,2,none⟩ (.string (bs rn)))=xJ at *;have x0:xJ.cell? ⟨X,0,none⟩=some (.int .i64 re):=AQ.o.cell 0;have Tk:=hid (ya G2.o AV.o);by_cases he:re=0
  case neg =>
   have d1:(re == 0)=false:=by simpa using he
   have d2:(re != 0)=true:=by simpa using he
   have mD:=hid (FIN.o [] ⟨re,ra,rn⟩ (DY.o he));have x1:xJ.cell? ⟨X,1,none⟩=some (.int .i64 ra):=AQ.o.cell 1;have x2:xJ.cell? ⟨X,2,none⟩=some (.string (bs rn)):=AQ.o.cell 2;clear he;go_wp2;have z0:xJ.cell? ⟨R,0,none⟩=some (.int .i64 0):=qz.o.cell 0;have z1:xJ.cell? ⟨R,1,none⟩=some (.int .i64 0):=qz.o.cell 1;have z2:xJ.cell? ⟨R,2,none⟩=some (.string ⟨#[]⟩):=qz.o.cell 2;have f0:=qz.o.free 0;have f1:=qz.o.free 1;have f2:=qz.o.free 2
   go_region_held3 (fun w'=>w'.cell? ⟨X,0,none⟩=some (.int .i64 re)/\w'.cell? ⟨X,1,none⟩=some (.int .i64 ra)/\w'.cell? ⟨X,2,none⟩=some (.string (bs rn)))
    (go_keep)
    (fail)
   go_wp2;obtain ⟨⟨h0,h1,h2⟩,h3⟩:=iX.o xJ re ra rn Tk.o qz.o _ rfl;refine bodyPost_ret (v:=.tuple #[.string (bs []),bJ ⟨re,ra,rn⟩]) ?_ rfl ⟨mD.o,yf h3⟩;clear x0 x1 x2 z0 z1 z2 f0 f1 f2;generalize World.setCell _ _ _=WF at *;simp [results,Tryz.results8,go_sem,bJ,bs,h0,h1,h2]
  subst he;have TS:=hid (DZ.o rfl);have TK:=hid (DX.o rfl);clear DY DZ DX
  go_upto_region 24 with fail
  clear x0;have Vu:=hid (O7.o xJ AV.o);go_wp2_with fail;refine Vu.o.mono ?_;rintro e Jf ⟨rfl,JB⟩;have BM:=hid (ye.new Jf #[.int .i64 mp,.int .i64 mq] 51);have g14:=ya JB (aH Jf (.cells #[.int .i64 mp,.int .i64 mq] 51) none);have DJ:=hid (IG.o.kept g14);have Ht:=hid (Hr.o.kept g14);have Dp:=hid (ya AV.o g14);have GN:=hid (qz.o.grown g14 (by simp));have Gz:=hid (Gy.o.grown g14 (by simp));have Di:=hid (GI.o.grown g14 (by simp));clear g14 JB Vu O7 IG Hr AV AQ qz Gy GI Tk
  go_upto_region 25 with fail
  generalize Jf.alloc (.cells #[.int .i64 mp,.int .i64 mq] 51)=Lj at *;generalize Jf.heap.size=Y at *;have m0:Lj.cell? ⟨Y,0,none⟩=some (.int .i64 mp):=BM.o.cell 0;have m1:Lj.cell? ⟨Y,1,none⟩=some (.int .i64 mq):=BM.o.cell 1;have Vo:=hid (OU.o Lj (pX.o Lj Dp.o DJ.o Di.o));go_wp2_with fail;refine Vo.o.mono ?_;rintro e D5 ⟨rfl,uj⟩;have DL:=hid (DJ.o.kept uj);have Hu:=hid (Ht.o.kept uj);have AY:=hid (ya Dp.o uj);have GU:=hid (GN.o.grown uj (by simp));have Ay:=hid (Gz.o.grown uj (by simp));have AA:=hid (Di.o.grown uj (by simp));clear uj Vo OU m0 m1 BM DJ Ht Dp GN Gz Di CF;obtain ⟨al3,ca3,E3,-,q2,q3,-⟩:=(pX.o D5 AY.o DL.o AA.o).ld.main
  have q2':D5.cell? ⟨P,1,none⟩=some (.slice (some ⟨E2,0,none⟩) 5 5):=AA.o.cell 1;obtain rfl:E3=E2:=by
   rw [q2'] at q2;simpa using q2.symm
  have PC:=hid q2';have Dj:=hid (q3 1 (by simp));have Dk:=hid (q3 2 (by simp));clear q2 q3 q2';simp only [kT,kI] at Dj Dk;have CF:=hid (fun (V:World) (hg:D5.grownBy V none)=>(⟨yc PC.o hg,yc Dj.o hg,yc Dk.o hg,yc (Ay.o.cell 0) hg,yc (Ay.o.cell 1) hg,yc (Ay.o.cell 2) hg⟩:V.cell? ⟨P,1,none⟩=some (.slice (some ⟨E3,0,none⟩) 5 5)/\V.cell? ⟨E3,1,none⟩=some (.int .i64 e1)/\V.cell? ⟨E3,2,none⟩=some (.int .i64 e2)/\V.cell? ⟨B,0,none⟩=some (.int .i64 bt)/\V.cell? ⟨B,1,none⟩=some (.int .i64 bf)/\V.cell? ⟨B,2,none⟩=some (.int .i64 bd)));clear PC Dj Dk
  go_upto_region 26 with fail
  obtain ⟨p1,rU,rV,b0,b1,b2⟩:=CF.o D5 (World.grownBy.refl _ _)
  go_quiet ((go_at_call 19; exact Calls.quiet_of_same (Yi _ _ _ _)))
  clear p1 rU rV b0 b1 b2;have Dm:=hid (yd (World.grownBy.refl D5 none) nq);generalize D5.drewN nq=Ve at *
  go_upto_region 27 with fail
  obtain ⟨p1,rU,rV,b0,b1,b2⟩:=CF.o Ve Dm.o
  go_quiet ((go_at_call 19; exact Calls.quiet_of_same (Yi _ _ _ _)))
  clear p1 rU rV b0 b1 b2;have Af:=hid (yd Dm.o nq);clear Dm;generalize Ve.drewN nq=Cz at *
  go_upto_region 28 with fail
  obtain ⟨-,-,-,b0,b1,b2⟩:=CF.o Cz Af.o;have Hw:=hid (Hu.o.kept Af.o);have IL:=hid ((pX.o D5 AY.o DL.o AA.o).kept Af.o);have NH:=hid (ya G2.o (ya AY.o Af.o));have qA:=hid (GU.o.grown Af.o (by simp));clear DL Hu AY GU Ay AA CF Af pX;by_cases hin1:(bt<=AD/\AD < e1)\/(bf<=AD/\AD < e2)
  case neg =>
   have mD:=hid (FIN.o [] ⟨35,0,[]⟩ (TS.o hin1));have a1:decide (bt<=AD/\AD < e1)=false:=decide_eq_false (fun c=>hin1 (.inl c));have a2:decide (bf<=AD/\AD < e2)=false:=decide_eq_false (fun c=>hin1 (.inr c));have z0:Cz.cell? ⟨R,0,none⟩=some (.int .i64 0):=qA.o.cell 0;have z1:Cz.cell? ⟨R,1,none⟩=some (.int .i64 0):=qA.o.cell 1;have z2:Cz.cell? ⟨R,2,none⟩=some (.string ⟨#[]⟩):=qA.o.cell 2;have f0:=qA.o.free 0;have f1:=qA.o.free 1;have f2:=qA.o.free 2;have FI:=hid (iX.o Cz 35 0 [] NH.o qA.o _ rfl);rw [show bs []=(⟨#[]⟩:ByteArray) from rfl] at FI;clear hin1;generalize decide (bt<=AD/\AD < e1)=x1 at *
   generalize decide (bf<=AD/\AD < e2)=x2 at *;subst a1 a2;go_wp2;obtain ⟨⟨h0,h1,h2⟩,h3⟩:=FI.o;refine bodyPost_ret (v:=.tuple #[.string (bs []),bJ ⟨35,0,[]⟩]) ?_ rfl ⟨mD.o,h3⟩;clear z0 z1 z2 f0 f1 f2 b0 b1 b2;generalize World.setCell _ _ _=WF at *;simp [results,Tryz.results8,go_sem,bJ,bs,h0,h1,h2]
  have mD:=hid (FIN.o (Im.bytes Ou) Ln.ok (TK.o hin1));have Lp:=hid (cO.o Cz IL.o (UY.o Cz Hw.o));clear cO UY IL Hw FIN TS TK;have Hl:Hd (∀ vg:World,Cz.grownBy vg none->(vg.cell? ⟨R,0,none⟩=some (.int .i64 0)/\vg.cell? ⟨R,1,none⟩=some (.int .i64 0)/\vg.cell? ⟨R,2,none⟩=some (.string ⟨#[]⟩))/\(vg.frozen? ⟨R,0,none⟩=false/\vg.frozen? ⟨R,1,none⟩=false/\vg.frozen? ⟨R,2,none⟩=false)/\∀ W,W=(((vg.setCell ⟨R,0,none⟩ (.int .i64 0)).setCell ⟨R,1,none⟩ (.int .i64 0)).setCell ⟨R,2,none⟩ (.string ⟨#[]⟩))->(W.cell? ⟨R,0,none⟩=some (.int .i64 0)/\W.cell? ⟨R,1,none⟩=some (.int .i64 0)/\W.cell? ⟨R,2,none⟩=some (.string ⟨#[]⟩))/\w.grownBy W none):=by
   intro vg hg;have b:=qA.o.grown hg (by simp);exact ⟨⟨b.cell 0,b.cell 1,b.cell 2⟩,⟨b.free 0,b.free 1,b.free 2⟩,iX.o vg 0 0 [] (ya NH.o hg) b⟩
  clear iX qA NH;generalize hy1:decide (bt<=AD/\AD < e1)=y1 at *;generalize hy2:decide (bf<=AD/\AD < e2)=y2 at *;have hy:y1=true\/(y1=false/\y2=true):=by
   by_cases c:bt<=AD/\AD < e1
   ·left; rw [<- hy1]; exact decide_eq_true c
   ·right; rw [<- hy1,<- hy2]; exact ⟨decide_eq_false c,decide_eq_true (hin1.resolve_left c)⟩
  clear hy1 hy2 hin1;rcases hy with rfl | ⟨rfl,rfl⟩
  ·go_wp2_with fail;refine Lp.o.mono ?_;rintro e vg ⟨rfl,zG⟩;obtain ⟨⟨z0,z1,z2⟩,⟨f0,f1,f2⟩,FI⟩:=Hl.o vg zG;clear zG Lp;have FF:=hid FI;clear FI;go_wp2;obtain ⟨⟨h0,h1,h2⟩,h3⟩:=FF.o _ rfl;refine bodyPost_ret (v:=.tuple #[.string (bs (Im.bytes Ou)),bJ Ln.ok]) ?_ rfl ⟨mD.o,h3⟩;clear z0 z1 z2 f0 f1 f2 b0 b1 b2;generalize World.setCell _ _ _=WF at *;simp [results,Tryz.results8,go_sem,bJ,Ln.ok,bs,h0,h1,h2]
  ·go_wp2_with fail;refine Lp.o.mono ?_;rintro e vg ⟨rfl,zG⟩;obtain ⟨⟨z0,z1,z2⟩,⟨f0,f1,f2⟩,FI⟩:=Hl.o vg zG;clear zG Lp;have FF:=hid FI;clear FI;go_wp2;obtain ⟨⟨h0,h1,h2⟩,h3⟩:=FF.o _ rfl;refine bodyPost_ret (v:=.tuple #[.string (bs (Im.bytes Ou)),bJ Ln.ok]) ?_ rfl ⟨mD.o,h3⟩;clear z0 z1 z2 f0 f1 f2 b0 b1 b2;generalize World.setCell _ _ _=WF at *;simp [results,Tryz.results8,go_sem,bJ,Ln.ok,bs,h0,h1,h2]
theorem ylb (w:World) (n:Nat) (a:Addr):(w.drewN n).cell? a=w.cell? a:=by
 induction n generalizing w with
 | zero=>rfl
 | succ n ih=>exact ih w.drew
theorem yon (ao:Option Addr) (cf:Nat) (fs:List (List UInt8)) (w:World) (h:vQ w ao fs) (hsz:∀ f∈fs,f.length<=281474976710656) (hn:fs.length<=281474976710656) :
  Calls Tryz.prog 4 #[.slice ao fs.length cf] w fun e w'=>(∃ b,e = .returned (.bool b)/\(b=true->fs.length<=1048576/\∀ f∈fs,f.length<=1048576))/\w'=w:=by
 by_cases h1:1048576 < fs.length
 ·have d:decide (1048576 < (fs.length:Int))=true:=by simp; omega
  go_enter Tryz.func4,Tryz.ntmps4;go_wp2;go_ret;exact ⟨⟨false,rfl,fun c=>by cases c⟩,rfl⟩
 have d1:decide (1048576 < (fs.length:Int))=false:=by simp; omega
 have HI:=hid h;have SZ:=hid hsz;clear h hsz;go_enter Tryz.func4,Tryz.ntmps4;go_wp2
 go_loopw [3,4] (fun n i wr=>∃ (k:Nat) (x:Int),k<=fs.length/\i = .int .i64 k/\n = .int .i64 x/\(0<=x/\x<=1048576)/\(∀ f∈fs.take k,f.length<=1048576)/\wr=w) (fun _ i _=>fs.length - (intOf i).toNat)
 case atStart=>exact ⟨0,fs.length,Nat.zero_le _,rfl,rfl,by omega,fun f hf=>by simp at hf,rfl⟩
 case round =>
  obtain ⟨k,x,hk,rfl,rfl,hx,hf,rfl⟩:=hrel;have HF:=hid hf;clear hf;by_cases hlt:k < fs.length
  ·have hlt':(k:Int) < (fs.length:Int):=by omega
   obtain ⟨g1,o1,he1,hc1⟩:=HI.o (by omega);subst he1;have k1:=hc1 k hlt;have z:=SZ.o fs[k] (dM hlt);have zs:(bs fs[k]).size=fs[k].length:=uY _;have w1:IntKind.i64.wrap (x+((bs fs[k]).size:Int))=x+((bs fs[k]).size:Int):=IntWalk.i64_in _ ⟨by omega,by omega⟩;have Cy:=hid (fun (h:fs[k].length<=1048576)=>show ∀ l∈fs.take (k+1),l.length<=1048576 by
    intro l hl;rw [List.take_succ_eq_append_getElem hlt] at hl;rcases List.mem_append.1 hl with hl | hl
    ·exact HF.o l hl
    ·simp only [List.mem_singleton] at hl;subst hl;exact h)
   clear hc1;generalize fs[k]=f at *;by_cases e1:1048576 < x+((bs f).size:Int)
   ·have d2:decide (1048576 < x+((bs f).size:Int))=true:=by simpa using e1
    go_wp2;go_ret;exact ⟨⟨false,rfl,fun c=>by cases c⟩,rfl⟩
   ·have d2:decide (1048576 < x+((bs f).size:Int))=false:=by simpa using e1
    have N:=hid (Cy.o (by omega));go_wp2
    go_roundw
    case rel=>exact ⟨k+1,_,by omega,by go_num,rfl,by omega,N.o,by first | rfl | trivial⟩
    case measure=>simp [intOf]; omega
  ·obtain rfl:k=fs.length:=by omega
   have g3:decide ((fs.length:Int) < (fs.length:Int))=false:=by simp
   go_wp2;go_ret;exact ⟨⟨true,rfl,fun _=>⟨by omega,fun f hf=>HF.o f (by rw [List.take_length]; exact hf)⟩⟩,rfl⟩
theorem yhL (ao bo:Option Addr) (ca cb:Nat) (xs:List (List UInt8)) (w:World) (h1:xW w ao xs) (h2:xW w bo xs) (hn:xs.length<=1048576) :
  Calls Tryz.prog 6 #[.slice ao xs.length ca,.slice bo xs.length cb] w fun e w'=>e = .returned (.bool true)/\∃ n,w'=w.drewN n:=by
 have H1:=hid h1;have H2:=hid h2;clear h1 h2;go_enter Tryz.func6,Tryz.ntmps6;go_wp2
 go_loopw [5] (fun i wr=>∃ k:Nat,k<=xs.length/\i = .int .i64 k/\∃ n,wr=w.drewN n) (fun i _=>xs.length - (intOf i).toNat)
 case atStart=>exact ⟨0,Nat.zero_le _,rfl,0,rfl⟩
 case round =>
  obtain ⟨k,hk,rfl,n,rfl⟩:=hrel;by_cases hlt:k < xs.length
  ·have hlt':(k:Int) < (xs.length:Int):=by omega
   obtain ⟨g1,o1,he1,hc1⟩:=H1.o (by omega);obtain ⟨g2,o2,he2,hc2⟩:=H2.o (by omega);subst he1 he2;have k1:=hc1 k hlt;have k2:=hc2 k hlt;rw [<- ylb w n] at k1 k2;clear hc1 hc2;have HD:=hid (fun m=>World.drewN_drewN w n m);generalize w.drewN n=V at *;generalize bs xs[k]=x at *;go_wp2
   go_quiet (fail)
   go_wp2
   go_roundw
   case rel=>exact ⟨k+1,by omega,by go_num,_,HD.o _⟩
   case measure=>simp [intOf]; omega
  ·go_wp2;go_ret;exact ⟨rfl,n,rfl⟩
theorem WM {bt bf bd:Int} {fs:List (List UInt8)} {e:Ending} (h:Ar bt bf bd fs e):∃ b f,e = .returned (.tuple #[.string (bs b),bJ f]):=by
 rcases h with ⟨f,-,he,-⟩ | ⟨-,-,-,xs,hx,-,he⟩
 ·exact ⟨_,_,he⟩
 ·exact ⟨_,_,he⟩
theorem yjR {l:List UInt8} {a a':Bool} {os os':List Lk.Obj} (h:vK l a os) (h':vK l a' os'):a=a'/\os=os':=by
 rcases h with ⟨rfl,h1,rfl⟩ | ⟨rfl,h1,ms,h2,rfl⟩
 ·rcases h' with ⟨rfl,-,rfl⟩ | ⟨-,h1',-⟩
  ·exact ⟨rfl,rfl⟩
  ·exact absurd h1 h1'
 ·rcases h' with ⟨-,h1',-⟩ | ⟨rfl,-,ms',h2',rfl⟩
  ·exact absurd h1' h1
  ·exact ⟨rfl,by rw [<- Sc h2,<- Sc h2']⟩
theorem MQ {l:List UInt8} {a:Bool} {os:List Lk.Obj} (h:Gq l) (h':vK l a os):False:=by
 rcases h' with ⟨-,h1,-⟩ | ⟨-,-,ms,h2,-⟩
 ·exact h.1 h1
 ·exact h.2 ms h2
theorem Gl:Ln.ok.e=0:=rfl
theorem ykc {bt bf bd:Int} {fs:List (List UInt8)} {e e':Ending} (h:Ar bt bf bd fs e) (h':Ar bt bf bd fs e'):e=e':=by
 rcases h with ⟨f,hf,he,hc⟩ | ⟨hb,l1,l8,xs,hx,hfi,he⟩
 ·rcases h' with ⟨f',hf',he',hc'⟩ | ⟨hb',Qj,Qk,xs',hx',Eo,he'⟩
  ·have:f=f':=by
    rcases hc with c | ⟨b,l,c⟩ | ⟨b,l1,l8,i,hi,c,nf,al⟩
    ·rcases hc' with c' | ⟨b',-⟩ | ⟨b',-⟩
     ·rw [c,c']
     ·rw [c,b'] at hf; exact absurd Gl hf
     ·rw [c,b'] at hf; exact absurd Gl hf
    ·rcases hc' with c' | ⟨b',l',c'⟩ | ⟨b',Qj,Qk,-⟩
     ·rw [c',b] at hf'; exact absurd Gl hf'
     ·rw [c,c']
     ·omega
    ·rcases hc' with c' | ⟨b',l',c'⟩ | ⟨b',Qj,Qk,i',hi',c',nf',al'⟩
     ·rw [c',b] at hf'; exact absurd Gl hf'
     ·omega
     ·have:i=i':=by
       rcases Nat.lt_trichotomy i i' with h | h | h
       ·obtain ⟨a,os,q⟩:=al' i h;exact (MQ nf q).elim
       ·exact h
       ·obtain ⟨a,os,q⟩:=al i' h;exact (MQ nf' q).elim
      rw [c,c',this]
   rw [he,he',this]
  ·rcases hc with c | ⟨b,l,c⟩ | ⟨b,l1,l8,i,hi,c,nf,al⟩
   ·rw [c,hb'] at hf; exact absurd Gl hf
   ·omega
   ·exact (MQ nf (Eo i hi)).elim
 ·rcases h' with ⟨f',hf',he',hc'⟩ | ⟨hb',Qj,Qk,xs',hx',Eo,he'⟩
  ·rcases hc' with c | ⟨b,l,c⟩ | ⟨b,l1,l8,i,hi,c,nf,al⟩
   ·rw [c,hb] at hf'; exact absurd Gl hf'
   ·omega
   ·exact (MQ nf (hfi i hi)).elim
  ·have:xs=xs':=by
    apply List.ext_getElem (by omega);intro i h1 h2;have q:=yjR (hfi i (by omega)) (Eo i (by omega));exact Prod.ext q.1 q.2
   rw [he,he',this]
theorem ymj (bt bf bd:Int) (af:Option Addr) (cf:Nat) (fs:List (List UInt8)) (w:World) (hin:vQ w af fs) (hsz:∀ f∈fs,f.length<=1048576) (ht:fZ w) (hn:fs.length<=1048576) :
  Calls Tryz.prog 7 #[.slice af fs.length cf,.agg #[.int .i64 bt,.int .i64 bf,.int .i64 bd]] w fun e w'=>Ar bt bf bd fs e/\w.grownBy w' none:=by
 have HI:=hid hin;have HT:=hid ht;have cL:=hid (fun W (hg:w.grownBy W none)=>ynl bt bf bd af cf fs W (HI.o.kept hg) hsz (HT.o.grown hg) hn);have hs1:(w.alloc (.cells #[.int .i64 bt,.int .i64 bf,.int .i64 bd] 27)).heap.size=w.heap.size+1:=Array.size_push _;have A1:=aH (w.alloc (.cells #[.int .i64 bt,.int .i64 bf,.int .i64 bd] 27)) (.cells #[.int .i64 0,.int .i64 0,.string ⟨#[]⟩] 32) none;have G1:=hid (ya (aH w (.cells #[.int .i64 bt,.int .i64 bf,.int .i64 bd] 27) none) A1);have BR:=hid (ye.new (w.alloc (.cells #[.int .i64 bt,.int .i64 bf,.int .i64 bd] 27)) #[.int .i64 0,.int .i64 0,.string ⟨#[]⟩] 32)
 rw [hs1] at BR;clear hin ht A1 hs1;go_enter Tryz.func7,Tryz.ntmps7;go_wp2_with fail;generalize (w.alloc (.cells #[.int .i64 bt,.int .i64 bf,.int .i64 bd] 27)).alloc (.cells #[.int .i64 0,.int .i64 0,.string ⟨#[]⟩] 32)=W1 at *;have oQ:w.heap.size<=w.heap.size+1:=by omega
 generalize w.heap.size+1=R at *;refine (cL.o _ G1.o).mono ?_;rintro e V1 ⟨hret,hg⟩;obtain ⟨b,f,rfl⟩:=WM hret;have mD:=hid hret;have FB:=hid (BR.o.grown hg (by simp));have FG:=hid (ya G1.o hg);clear hret hg cL BR;obtain ⟨fe,fa,fn⟩:=f;unfold bJ;dsimp only;have v0:=FB.o.free 0;have v1:=FB.o.free 1;have v2:=FB.o.free 2;have x0:=FB.o.cell 0;have x1:=FB.o.cell 1;have x2:=FB.o.cell 2;simp only [dH,dL,dK] at x0 x1 x2;go_wp2;have F:=((FB.o.set 0 (.int .i64 fe)).set 1 (.int .i64 fa)).set 2 (.string (bs fn));have h0:=F.cell 0;have h1:=F.cell 1;have h2:=F.cell 2;simp only [fu,fC,eX,dH,dL,dK] at h0 h1 h2;refine bodyPost_ret (v:=.tuple #[.string (bs b),bJ ⟨fe,fa,fn⟩]) ?_ rfl ⟨mD.o,yx FG.o _ oQ _ _ _⟩
 clear F x0 x1 x2 v0 v1 v2;generalize World.setCell _ _ _=WF at *;simp [results,Tryz.results7,go_sem,bJ,h0,h1,h2]
theorem yjb (bt bf bd:Int) (ao bo:Option Addr) (ca cb:Nat) (fs:List (List UInt8)) (w:World) (h1:vQ w ao fs) (h2:vQ w bo fs) (hsz:∀ f∈fs,f.length<=1048576) (ht:fZ w) (hn:fs.length<=1048576) :
  Calls Tryz.prog 5 #[.slice ao fs.length ca,.slice bo fs.length cb,.agg #[.int .i64 bt,.int .i64 bf,.int .i64 bd]] w fun e w'=>(∃ v,e = .returned (.tuple #[v,.bool true]))/\w.grownBy w' none:=by
 have cL:=hid (fun W (hg:w.grownBy W none)=>ymj bt bf bd ao ca fs W (h1.kept hg) hsz (ht.grown hg) hn);have cD:=hid (fun W (hg:w.grownBy W none)=>ylW bt bf bd bo cb fs W (h2.kept hg) hsz hn);have G1:=hid (aH w (.cells #[.int .i64 bt,.int .i64 bf,.int .i64 bd] 27) none);have BB:=hid (ye.new w #[.int .i64 bt,.int .i64 bf,.int .i64 bd] 27);clear h1 h2 ht hsz;go_enter Tryz.func5,Tryz.ntmps5;go_wp2_with fail;generalize w.alloc (.cells #[.int .i64 bt,.int .i64 bf,.int .i64 bd] 27)=W1 at *;generalize w.heap.size=B at *;refine (cL.o _ G1.o).mono ?_;rintro e V1 ⟨r1,g1⟩;obtain ⟨b,f,rfl⟩:=WM r1;have R1:=hid r1
 obtain ⟨fe,fa,fn⟩:=f;unfold bJ;dsimp only;have A2:=aH V1 (.cells #[.int .i64 fe,.int .i64 fa,.string (bs fn)] 32) none;have G2:=hid (ya (ya G1.o g1) A2);have tu:=hid (BB.o.grown (ya g1 A2) (by simp));have BF:=hid (ye.new V1 #[.int .i64 fe,.int .i64 fa,.string (bs fn)] 32);have b0:(V1.alloc (.cells #[.int .i64 fe,.int .i64 fa,.string (bs fn)] 32)).cell? ⟨B,0,none⟩=some (.int .i64 bt):=tu.o.cell 0;have b1:(V1.alloc (.cells #[.int .i64 fe,.int .i64 fa,.string (bs fn)] 32)).cell? ⟨B,1,none⟩=some (.int .i64 bf):=tu.o.cell 1;have b2:(V1.alloc (.cells #[.int .i64 fe,.int .i64 fa,.string (bs fn)] 32)).cell? ⟨B,2,none⟩=some (.int .i64 bd):=tu.o.cell 2
 clear r1 g1 A2 cL G1 BB
 go_upto_region 2 with fail
 generalize V1.alloc (.cells #[.int .i64 fe,.int .i64 fa,.string (bs fn)] 32)=W2 at *;generalize V1.heap.size=X at *;go_wp2_with fail;refine (cD.o _ G2.o).mono ?_;rintro e V2 ⟨r2,g2⟩;obtain rfl:=ykc r2 R1.o;unfold bJ;dsimp only;have A3:=aH V2 (.cells #[.int .i64 fe,.int .i64 fa,.string (bs fn)] 32) none;have G3:=hid (ya (ya G2.o g2) A3);have F1:=hid (BF.o.grown (ya g2 A3) (by simp));have F2:=hid (ye.new V2 #[.int .i64 fe,.int .i64 fa,.string (bs fn)] 32);clear r2 g2 A3 cD G2 BF b0 b1 b2 tu R1
 go_upto_region 3 with fail
 generalize V2.alloc (.cells #[.int .i64 fe,.int .i64 fa,.string (bs fn)] 32)=W3 at *;generalize V2.heap.size=Y at *;have x0:W3.cell? ⟨X,0,none⟩=some (.int .i64 fe):=F1.o.cell 0;have x1:W3.cell? ⟨X,1,none⟩=some (.int .i64 fa):=F1.o.cell 1;have x2:W3.cell? ⟨X,2,none⟩=some (.string (bs fn)):=F1.o.cell 2;have y0:W3.cell? ⟨Y,0,none⟩=some (.int .i64 fe):=F2.o.cell 0;have y1:W3.cell? ⟨Y,1,none⟩=some (.int .i64 fa):=F2.o.cell 1;have y2:W3.cell? ⟨Y,2,none⟩=some (.string (bs fn)):=F2.o.cell 2;have eq:((bs b).toList == (bs b).toList)=true:=by simp
 go_quiet (fail)
 go_wp2;go_ret2;exact ⟨⟨_,rfl⟩,yd G3.o _⟩
theorem QW (bt bf bd:Int) (ai:Option Addr) (ci:Nat) (fs:List (List UInt8)) (w:World) (hin:vQ w ai fs) (hsz:∀ f∈fs,f.length<=281474976710656) (hn:fs.length<=281474976710656) (ht:fZ w) :
  Calls Tryz.prog 3 #[.slice ai fs.length ci,.int .i64 bt,.int .i64 bf,.int .i64 bd] w fun e w'=>e = .returned (.bool true)/\w.grownBy w' none:=by
 have cF:=hid (yon ai ci fs w hin hsz hn);have HI:=hid hin;have HT:=hid ht;clear hin ht hsz;go_enter Tryz.func3,Tryz.ntmps3;go_wp2_with fail;refine cF.o.mono ?_;rintro e w1 ⟨⟨b,rfl,hb⟩,rfl⟩;clear cF
 cases b with
 | false =>
  clear hb;go_wp2;go_ret;exact ⟨rfl,World.grownBy.refl _ _⟩
 | true =>
  obtain ⟨hn2,hsz⟩:=hb rfl;have SZ:=hid hsz;clear hb hsz;obtain ⟨i0,hi,hz0,hz1,hz2⟩:=info_parts Tryz.nQ;have Fy:=hid (show (Tryz.prog.info? 9).map (·.size)=some 1 by rw [hi]; simp [hz1]);have MK:=hid (fun (w2:World) (L:List Value) (hown2:w2.ownsRow w1.heap.size 9 1 (.slice (some ⟨w1.heap.size,0,none⟩) fs.length fs.length) fs.length L)=>show ∃ cur:List Value,cur.length=fs.length/\w2.heap[w1.heap.size]?=some (.cells cur.toArray 9 (0,0)) by
   rcases hown2.2 with ⟨h1,_⟩ | ⟨g',cap',cur,hv,_,hg,_,_,h5,_⟩
   ·simp at h1
   ·simp only [Value.slice.injEq,Option.some.injEq,Addr.mk.injEq] at hv;obtain ⟨⟨rfl,_⟩,_,rfl⟩:=hv;exact ⟨cur.toList,by simpa using h5,by simpa using hg⟩)
  have UZ:=hid (fun (w2:World) (hg2:w1.grownBy w2 none) (hp:0 < (eB fs).length)=>show ∃ ad,ai=some ad/\∀ j v,(eB fs)[j]?=some v->w2.cell? (ad.add j)=some v by
   obtain ⟨g',off,he,hc⟩:=HI.o (by simpa [eB] using hp);refine ⟨⟨g',off,none⟩,he,fun j v hv=>?_⟩;unfold eB at hv;rw [List.getElem?_map,Option.map_eq_some_iff] at hv;obtain ⟨y,hy,rfl⟩:=hv;obtain ⟨hj,rfl⟩:=List.getElem?_eq_some_iff.1 hy;have e:(⟨g',off,none⟩:Addr).add j=⟨g',off+j,none⟩:=by
    unfold Addr.add;by_cases h0:j=0
    ·subst h0; simp
    ·simp [h0]
   rw [e];exact yc (hc j hj) hg2)
  go_wp2_with (at_make; refine wpList_make_full _ rfl _ _ 22 rfl w1.heap.size 9 i0 (.string ⟨#[]⟩) 1 Tryz.underlying22 hi hz0 hz1 .i64 .i64 _ _ fs.length rfl rfl rfl rfl (by rw [hz2]; omega) (by unfold maxLen; omega) (Nat.le_refl _) ?_)
  intro w2 hown2 hg2;obtain ⟨cur,hcl,hcb⟩:=MK.o w2 _ hown2;have OB:=hid hcb;have HG2:=hid hg2;have CL:=hid hcl;clear hcb hg2 hown2 hcl;go_wp2_with (refine wpList_copy_splice rfl _ _ 22 22 rfl 9 Tryz.underlying22 Fy.o (some ⟨w1.heap.size,0,none⟩) ai fs.length fs.length fs.length ci rfl rfl w1.heap.size 0 cur 9 OB.o (eB fs) (by simp [eB]) (fun hp=>⟨rfl,UZ.o w2 HG2.o hp⟩) (by have:=CL.o; simp [eB]; omega) (by intro u hu; simp [eB] at hu; obtain ⟨y,_,rfl⟩:=hu; rfl) w1.heap.size w1 ⟨HG2.o.os,HG2.o.tape,HG2.o.output,HG2.o.size,fun k hk=>HG2.o.block k hk (by simp)⟩ (Nat.le_refl _) ?_)
  intro w3 hB3 hb3;have GW:Hd (w1.grownBy w3 none):=⟨hb3.os,hb3.tape,hb3.output,hb3.size,fun i hi _=>hb3.block i hi⟩
  have OWN:=hid (show vQ w3 (some ⟨w1.heap.size,0,none⟩) fs from fun hp=>⟨w1.heap.size,0,rfl,fun i hi=>by
   have e:splice cur 0 (eB fs)=eB fs:=by
    unfold splice;rw [List.drop_of_length_le (by have:=CL.o; simp [eB]; omega)];simp
   have hb:ye w3 w1.heap.size (eB fs).toArray 9:=by rw [<- e]; exact hB3
   rw [Nat.zero_add,hb.cell i,dH];simp [eB,hi]⟩)
  have I3:=hid (HI.o.kept GW.o);have T3:=hid (HT.o.grown GW.o);clear hB3 hb3 OB HG2 CL MK UZ Fy HI HT;have cL:=hid (yjb bt bf bd (some ⟨w1.heap.size,0,none⟩) ai fs.length ci fs w3 OWN.o I3.o SZ.o T3.o hn2);have cS:=hid (fun W (hg:w3.grownBy W none)=>yhL (some ⟨w1.heap.size,0,none⟩) ai fs.length ci fs W (OWN.o.kept hg) (I3.o.kept hg) hn2);go_wp2_with fail;refine cL.o.mono ?_;rintro e w4 ⟨⟨v4,rfl⟩,hg4⟩;have G4:=hid hg4;clear hg4 cL;go_wp2_with fail;refine (cS.o _ G4.o).mono ?_;rintro e w5 ⟨rfl,n5,h5⟩;have G5:Hd (w3.grownBy w5 none):=by rw [h5]; exact yd G4.o n5
  clear h5 cS;go_wp2;go_ret;exact ⟨rfl,ya GW.o G5.o⟩
end Go.Proofs.YtelehpmjhjljgaaGreatDoor
