
import Derived.Test.YtpgklkhgfcjceaaGreatDoorU25
set_option maxHeartbeats 16000000
set_option maxRecDepth 100000
namespace Go.Proofs.YtpgklkhgfcjceaaGreatDoor
open Go.RowKit
theorem ykf (x g:Nat) (m:Im.eU) (ai:Option Addr) (ci:Nat) (ins:List Int) (fuel:Int) (w:World) (hx:w.cell? ⟨x,0,none⟩=some (.pointer (some ⟨g,0,none⟩))) (hI:nA w g m) (hT:Im.jH m) (hD:∀ i,0<=m.D.getD i 0/\m.D.getD i 0 < 4294967296) (hW:Im.vN m) (hin:yC w ai ins) (ht:dV w) :
  Calls Tryz.prog 25 #[.pointer (some ⟨x,0,none⟩),.slice ai ins.length ci,.int .i64 fuel] w fun e w'=>ylW w m ins fuel e w'/\w.grownBy w' none:=by
 have G0:=hid (aH w (.cells nk 37) none);have R0:=hid (yc.new w nk 37);have hsz:(w.alloc (.cells nk 37)).heap.size=w.heap.size+1:=Array.size_push _;have SZ:=hid hsz;have c0:=yd hx G0.o;have cR:=hid (yor g m ai ci ins fuel (w.alloc (.cells nk 37)) (hI.kept G0.o) hT hD hW (hin.kept (fun a v e=>yd e G0.o)) (ht.grown G0.o));unfold nk at G0 R0 c0 cR SZ;clear hx hI hin ht hsz;go_enter Tryz.func25,Tryz.ntmps25;go_wp2_with fail;refine cR.o.mono ?_;rintro e V ⟨ht,hg⟩;have G1:=hid (ya G0.o hg);have RV:=hid (R0.o.grown hg (by simp));have x0:=RV.o.cell 0;have x1:=RV.o.cell 1;have x2:=RV.o.cell 2;have x3:=RV.o.cell 3
 have x4:=RV.o.cell 4;simp only [bJ,bN,bL] at x0 x1 x2 x3 x4;have y0:=RV.o.free 0;have y1:=RV.o.free 1;have y2:=RV.o.free 2;have y3:=RV.o.free 3;have y4:=RV.o.free 4;clear hg cR c0;rcases ht with ⟨h1,rfl⟩ | ⟨h1,h2,rfl⟩ | ⟨h1,h2,h3,vo,rfl,ho⟩
 ·have H1:=hid h1;clear h1;unfold nu;go_wp2;have RF:=Pb (w:=w) (.int .i64 0) (.int .i64 0) (.slice none 0 0) (.int .i64 0) (.int .i64 0) RV.o (Nat.le_refl _) G1.o (World.ownsRow_nil V 0 3 1) (by simp [Value.ownBlock]);have h0:=RF.1.cell 0;have h1:=RF.1.cell 1;have h2:=RF.1.cell 2;have h3:=RF.1.cell 3;have h4:=RF.1.cell 4;simp only [bJ,bN,bL] at h0 h1 h2 h3 h4;refine bodyPost_ret (v:=.tuple #[nu,.int .i64 40]) ?_ rfl ⟨.inl ⟨H1.o,rfl⟩,RF.2.1⟩;clear RF x0 x1 x2 x3 x4 y0 y1 y2 y3 y4;generalize World.setCell _ _ _=WF at *;simp [results,Tryz.results25,go_sem,nu,h0,h1,h2,h3,h4]
 ·have H1:=hid h1;have H2:=hid h2;clear h1 h2;unfold nu;go_wp2;have RF:=Pb (w:=w) (.int .i64 0) (.int .i64 0) (.slice none 0 0) (.int .i64 0) (.int .i64 0) RV.o (Nat.le_refl _) G1.o (World.ownsRow_nil V 0 3 1) (by simp [Value.ownBlock]);have h0:=RF.1.cell 0;have h1:=RF.1.cell 1;have h2:=RF.1.cell 2;have h3:=RF.1.cell 3;have h4:=RF.1.cell 4;simp only [bJ,bN,bL] at h0 h1 h2 h3 h4;refine bodyPost_ret (v:=.tuple #[nu,.int .i64 41]) ?_ rfl ⟨.inr (.inl ⟨H1.o,H2.o,rfl⟩),RF.2.1⟩;clear RF x0 x1 x2 x3 x4 y0 y1 y2 y3 y4;generalize World.setCell _ _ _=WF at *;simp [results,Tryz.results25,go_sem,nu,h0,h1,h2,h3,h4]
 ·have H1:=hid (And.intro h1 (And.intro h2 h3));clear h1 h2 h3;obtain ⟨ao,co,rfl⟩:=yh ho;have HO:=hid ho;clear ho;go_wp2;have RF:=Pb (w:=w) (.int .i64 (Mc.run m ins fuel.toNat).fQ) (.int .i64 (Mc.run m ins fuel.toNat).code) (.slice ao (Mc.run m ins fuel.toNat).o.length co) (.int .i64 (Mc.run m ins fuel.toNat).steps) (.int .i64 (Mc.run m ins fuel.toNat).read) RV.o (Nat.le_refl _) G1.o HO.o (fun j e=>by have:=(HO.o.lt j e).1; have:=SZ.o; omega);have h0:=RF.1.cell 0;have h1:=RF.1.cell 1;have h2:=RF.1.cell 2;have h3:=RF.1.cell 3;have h4:=RF.1.cell 4;simp only [bJ,bN,bL] at h0 h1 h2 h3 h4;refine bodyPost_ret (v:=.tuple #[.agg #[.int .i64 (Mc.run m ins fuel.toNat).fQ,.int .i64 (Mc.run m ins fuel.toNat).code,.slice ao (Mc.run m ins fuel.toNat).o.length co,.int .i64 (Mc.run m ins fuel.toNat).steps,.int .i64 (Mc.run m ins fuel.toNat).read],.int .i64 0]) ?_ rfl ⟨.inr (.inr ⟨H1.o.1,H1.o.2.1,H1.o.2.2,_,rfl,yZ RF.2.2 (Nat.le_trans (Nat.le_succ _) (Nat.le_of_eq SZ.o.symm))⟩),RF.2.1⟩
  clear RF x0 x1 x2 x3 x4 y0 y1 y2 y3 y4;generalize World.setCell _ _ _=WF at *;simp [results,Tryz.results25,go_sem,h0,h1,h2,h3,h4]
instance (m:Im.eU):Decidable (Im.nC m):=by unfold Im.nC Im.Base Im.kD Im.In; infer_instance
instance (l:List UInt8):Decidable (Im.kK l):=by unfold Im.kK Im.Full; infer_instance
def Lv (os:List Lk.Obj) (bt bf bd:Int) (ins:List Int) (out:List Int) (code:Int):Prop :=
 Sg (Ln.gy os bt bf bd).2 0 0 []/\Im.kK (Ln.gy os bt bf bd).1/\(Mc.run (Im.fq (Ln.gy os bt bf bd).1) ins 5000).fQ=1/\(Mc.run (Im.fq (Ln.gy os bt bf bd).1) ins 5000).code=code/\(Mc.run (Im.fq (Ln.gy os bt bf bd).1) ins 5000).o=out
instance (os:List Lk.Obj) (bt bf bd:Int) (ins:List Int) (out:List Int) (code:Int):Decidable (Lv os bt bf bd ins out code):=by unfold Lv; infer_instance
namespace Bd
def head:List UInt8:=[46,103,108,111,98,108,32,95,115,116,97,114,116,10,95,115,116,97,114,116,58,32,108,105,32,120,49,48,44,48,10]
def call:List UInt8:=[99,97,108,108,32,102,10]
def aG:List UInt8:=[46,97,108,105,103,110,32,51,10,97,100,100,105,32,120,49,48,44,120,49,48,44,49,48,48,10]
def over:List UInt8:=[106,32,111,118,101,114,10,46,97,108,105,103,110,32,52,10,111,118,101,114,58,32,108,97,32,120,49,49,44,111,118,101,114,10,97,110,100,105,32,120,49,49,44,120,49,49,44,49,53,10,97,100,100,32,120,49,48,44,120,49,48,44,120,49,49,10]
def finish:List UInt8:=[108,105,32,120,49,55,44,49,10,101,99,97,108,108,10,108,105,32,120,49,48,44,48,10,108,105,32,120,49,55,44,48,10,101,99,97,108,108,10]
def far:List UInt8:=[46,102,97,114,10]
def text (j:Nat):Nat->List UInt8
 | 0=>head
 | i+1=>if i % 4=j then text j i ++ call ++ aG else text j i ++ call
def main (k j:Nat) (f:Bool):List UInt8:=if f then far ++ (text j k ++ over) ++ finish else (text j k ++ over) ++ finish
def want (j k:Nat):Nat->Int
 | 0=>k
 | i+1=>if i % 4=j then want j k i+100 else want j k i
def one:List UInt8:=[110,111,112,10,46,102,97,114,10,110,111,112,10]
def three:List UInt8:=[102,58,32,97,100,100,105,32,120,49,48,44,120,49,48,44,49,10,114,101,116,10,46,103,108,111,98,108,32,102,10]
end Bd
def ysi (t:List UInt8):Bool:=decide ((As.assemble t).1.1=0) && R9 (As.assemble t).2
def ynC (k j:Nat) (f:Bool):Prop:=ysi (Bd.main k j f)=true/\Lv (Ln.bQ [(false,[(As.assemble Bd.one).2]),(false,[(As.assemble (Bd.main k j f)).2]),(false,[(As.assemble Bd.three).2])]) 4096 65536 131072 [] [Bd.want j k k] 0
instance (k j:Nat) (f:Bool):Decidable (ynC k j f):=by unfold ynC; infer_instance
namespace Ar
def u6 (k:Nat):List UInt8:=[UInt8.ofNat (48+k)]
def Ut (k:Nat):List UInt8:=[102] ++ u6 k
def text (n k:Nat):List UInt8 :=
 [46,103,108,111,98,108,32] ++ Ut k ++ [10] ++ Ut k ++ [58,32,97,100,100,105,32,120,49,48,44,120,49,48,44] ++ u6 (k+1) ++ [10] ++ (if k+1 < n then [116,97,105,108,32] ++ Ut (k+1) ++ [10] else [114,101,116,10])
def last:List UInt8:=[46,103,108,111,98,108,32,111,116,104,101,114,10,46,103,108,111,98,108,32,95,115,116,97,114,116,10,95,115,116,97,114,116,58,10,111,116,104,101,114,58,32,108,105,32,120,49,55,44,48,10,101,99,97,108,108,10]
def main:List UInt8:=[46,103,108,111,98,108,32,95,115,116,97,114,116,10,95,115,116,97,114,116,58,32,108,105,32,120,49,48,44,48,10,99,97,108,108,32,102,48,10,108,105,32,120,49,55,44,49,10,101,99,97,108,108,10,108,105,32,120,49,48,44,48,10,108,105,32,120,49,55,44,48,10,101,99,97,108,108,10]
def texts (n:Nat):List (List UInt8):=(List.range n).map (text n) ++ [last]
def objs (n t:Nat):List Lk.Obj:=(List.range (n+1)).map fun k=>(As.assemble ((texts n).getD ((k+t) % (n+1)) [])).2
def Jq:Lk.Obj:=(As.assemble main).2
end Ar
def ynB (n t:Nat):Prop:=Lv (Ln.bQ [(false,[Ar.Jq]),(true,Ar.objs n t)]) 4096 65536 131072 [] [((n * (n+1) / 2:Nat):Int)] 0/\VX (Ln.bQ [(true,Ar.objs n t),(false,[Ar.Jq])]) 4096 65536 131072 34 0 [102,48]
instance (n t:Nat):Decidable (ynB n t):=by unfold ynB; infer_instance
theorem ylL (ao bo:Option Addr) (ca cb:Nat) (xs:List Int) (w:World) (ha:yC w ao xs) (hb:yC w bo xs) (hl:xs.length<=65535) :
  Calls Tryz.prog 26 #[.slice ao xs.length ca,.slice bo xs.length cb] w fun e w'=>e = .returned (.bool true)/\w.grownBy w' none:=by
 have HA:=hid ha;have HB:=hid hb;clear ha hb;go_enter Tryz.func26,Tryz.ntmps26;go_wp2
 go_loopw [5] (fun i wr=>∃ k:Nat,k<=xs.length/\i = .int .i64 k/\w.grownBy wr none) (fun i _=>xs.length - (intOf i).toNat)
 case atStart=>exact ⟨0,Nat.zero_le _,rfl,World.grownBy.refl _ _⟩
 case round =>
  obtain ⟨k,hk,rfl,hgr⟩:=hrel;have G:=hid hgr;clear hgr;by_cases hlt:k < xs.length
  ·have g1:(k:Int) < (xs.length:Int):=by omega
   obtain ⟨ga,oa,rfl,hca⟩:=HA.o (by omega);obtain ⟨gb,ob,rfl,hcb⟩:=HB.o (by omega);have c1:=yd (hca k hlt) G.o;have c2:=yd (hcb k hlt) G.o;generalize xs[k]=x at *;have d1:(x == x)=true:=by simp
   have d2:(x != x)=false:=by simp
   clear hca hcb;go_wp2
   go_quiet (fail)
   go_wp2
   go_roundw
   case rel=>exact ⟨k+1,by omega,by go_num,ye G.o _⟩
   case measure=>simp [intOf]; omega
  ·obtain rfl:k=xs.length:=by omega
   have g3:decide ((xs.length:Int) < (xs.length:Int))=false:=by simp
   go_wp2;go_ret;exact ⟨rfl,G.o⟩
theorem ypf (R:Nat) (ao bo:Option Addr) (ca cb:Nat) (xs:List Int) (code st rd:Int) (w:World) (hR:yc w R #[.int .i64 1,.int .i64 code,.slice ao xs.length ca,.int .i64 st,.int .i64 rd] 37) (ha:yC w ao xs) (hb:yC w bo xs) (hl:xs.length<=65535) :
  Calls Tryz.prog 19 #[.pointer (some ⟨R,0,none⟩),.slice bo xs.length cb,.int .i64 code] w fun e w'=>e = .returned (.bool true)/\w.grownBy w' none:=by
 have HR:=hid hR;have c0:w.cell? ⟨R,0,none⟩=some (.int .i64 1):=hR.cell 0;have c1:w.cell? ⟨R,1,none⟩=some (.int .i64 code):=hR.cell 1;have c2:w.cell? ⟨R,2,none⟩=some (.slice ao xs.length ca):=hR.cell 2;have cS:=hid (fun W (hg:w.grownBy W none)=>ylL ao bo ca cb xs W (ha.kept (fun a v e=>yd e hg)) (hb.kept (fun a v e=>yd e hg)) hl);clear ha hb hR;go_enter Tryz.func19,Tryz.ntmps19;go_wp2_with fail;refine (cS.o _ (World.grownBy.refl _ _)).mono ?_;rintro e V ⟨rfl,hg⟩;have G:=hid hg;have b0:=yd c0 hg;have b1:=yd c1 hg;have d1:(code == code)=true:=by simp
 clear hg cS c0 c1 c2;go_wp2;go_ret;exact ⟨rfl,G.o⟩
theorem yps {W:World} {X:Nat} {t:TypeId} (xs:List Int) (h:yc W X (xs.map (Value.int .i64)).toArray t):yC W (some ⟨X,0,none⟩) xs:=fun _=>⟨X,0,rfl,fun i hi=>by
 rw [Nat.zero_add,h.cell i,bJ,List.getElem?_map,jW hi];rfl⟩
theorem Pj (l:List UInt8) (p:Nat):0<=dW l p 4/\dW l p 4 < 4294967296:=by have:=Ve l p 4; simpa using this
theorem yoa (l:List UInt8):Im.jH (Im.fq l):=by
 have h:=Im.KM l;have h2:=Im.jO l 24;refine ⟨Pj l 2,Pj l 6,Pj l 10,Pj l 14,⟨?_,?_,?_⟩,?_⟩
 ·simp only [Im.fq,Im.ig]; omega
 ·simp only [Im.fq,Im.ig]; omega
 ·simp only [Im.fq,Im.ig]; omega
 ·simp only [Im.fq]; omega
theorem VH (l:List UInt8) (p n i:Nat):0<=(Im.words l p n).getD i 0/\(Im.words l p n).getD i 0 < 4294967296:=by
 rw [lN];by_cases h:i < (Im.words l p n).length
 ·rw [jW h];have hm:(Im.words l p n)[i]∈(List.range n).map (fun i=>dW l (p+4 * i) 4):=iC h;obtain ⟨j,-,hj⟩:=List.mem_map.1 hm;rw [Option.getD_some,<- hj];exact Pj l _
 ·rw [List.getElem?_eq_none (by omega)];decide
theorem ypv (bt bf bd:Int) (af:Option Addr) (cf:Nat) (fs:List (List UInt8)) (xs:List (Bool×List Lk.Obj)) (ai:Option Addr) (ci:Nat) (ins:List Int) (out:List Int) (code:Int) (w:World) (hin:Fe w af fs) (hsz:∀ f∈fs,f.length<=1048576) (hii:yC w ai ins) (hil:ins.length<=16) (ht:dV w) (h1:1<=fs.length) (h8:fs.length<=8) (hb:Im.Base bt/\Im.Base bf/\Im.Base bd) (hf:MQ fs xs) (hr:Lv (Ln.bQ xs) bt bf bd ins out code) (hlen:(Ln.gy (Ln.bQ xs) bt bf bd).1.length<=1048576) :
  Calls Tryz.prog 18 #[.slice af fs.length cf,.agg #[.int .i64 bt,.int .i64 bf,.int .i64 bd],.slice ai ins.length ci] w fun e w'=>(∃ (ao:Option Addr) (ca:Nat) (st:Int),e = .returned (.tuple #[.agg #[.int .i64 1,.int .i64 code,.slice ao out.length ca,.int .i64 st,.int .i64 (Mc.run (Im.fq (Ln.gy (Ln.bQ xs) bt bf bd).1) ins 5000).read],.int .i64 ((Ln.gy (Ln.bQ xs) bt bf bd).1.length:Nat),.bool true])/\∃ B,w'.ownsRow B 3 1 (.slice ao out.length ca) out.length (out.map (Value.int .i64)))/\w.grownBy w' none:=by
 have HT:=hid ht;have HI:=hid hin;have HII:=hid hii;have cL:=hid (fun W (hg:w.grownBy W none)=>yod bt bf bd af cf fs W (HI.o.kept hg) hsz (HT.o.grown hg) (by omega));have LF:=hid (fun e (h:Lj bt bf bd fs e)=>ymX h hb h1 h8 hf);obtain ⟨hr0,hr1,hr2,hr3,hr4⟩:=hr;have EQ:Ln.gy (Ln.bQ xs) bt bf bd=((Ln.gy (Ln.bQ xs) bt bf bd).1,⟨0,0,[]⟩):=by
  obtain ⟨q1,q2,q3⟩:=hr0;generalize Ln.gy (Ln.bQ xs) bt bf bd=q at *;obtain ⟨tb,f⟩:=q;obtain ⟨x,y,z⟩:=f;simp only at q1 q2 q3;rw [q1,q2,q3]
 have EF:(Ln.gy (Ln.bQ xs) bt bf bd).2=⟨0,0,[]⟩:=by rw [EQ]
 rw [EF] at LF;generalize (Ln.gy (Ln.bQ xs) bt bf bd).1=tb at *;have HR1:=hid hr1;have Xb:=hid (And.intro hr2 (And.intro hr3 hr4));have tsz:(bs tb).size=tb.length:=w9 tb;have XC:=hid (fun W=>ynZ (bs tb) W (by omega));have SB:=I4 tb;clear hin ht EF EQ hr0 hr1 hr2 hr3 hr4 hii hf;have hs1:(w.alloc (.cells #[.int .i64 bt,.int .i64 bf,.int .i64 bd] 33)).heap.size=w.heap.size+1:=Array.size_push _;have A1:=aH (w.alloc (.cells #[.int .i64 bt,.int .i64 bf,.int .i64 bd] 33)) (.cells #[.int .i64 0,.int .i64 0,.slice none 0 0,.int .i64 0,.int .i64 0] 37) none;have G1:=hid (ya (aH w (.cells #[.int .i64 bt,.int .i64 bf,.int .i64 bd] 33) none) A1)
 have BR:=hid (yc.new (w.alloc (.cells #[.int .i64 bt,.int .i64 bf,.int .i64 bd] 33)) #[.int .i64 0,.int .i64 0,.slice none 0 0,.int .i64 0,.int .i64 0] 37);rw [hs1] at BR;clear A1 hs1;go_enter Tryz.func18,Tryz.ntmps18;go_wp2_with fail;generalize (w.alloc (.cells #[.int .i64 bt,.int .i64 bf,.int .i64 bd] 33)).alloc (.cells #[.int .i64 0,.int .i64 0,.slice none 0 0,.int .i64 0,.int .i64 0] 37)=W1 at *;have Jl:w.heap.size<=w.heap.size+1:=by omega
 generalize w.heap.size+1=R at *;refine (cL.o _ G1.o).mono ?_;rintro e V1 ⟨hret,h2⟩;obtain rfl:=LF.o e hret;have A2:=aH V1 (.cells #[.int .i64 0,.int .i64 0,.string (bs [])] 45) none;have G2:=hid (ya (ya G1.o h2) A2);have wV:=hid (BR.o.grown (ya h2 A2) (by simp));clear hret h2 A2 cL LF BR G1;unfold gq;dsimp only;go_wp2_with fail;generalize V1.alloc (.cells #[.int .i64 0,.int .i64 0,.string (bs [])] 45)=V2 at *;refine (XC.o _).mono ?_;rintro e V3 ⟨hld,h3⟩;have G3:=hid (ya G2.o h3);have uZ:=hid (wV.o.grown h3 (by simp));clear h3 XC wV G2;unfold ynF at hld;rw [SB] at hld;rcases hld with ⟨-,x,rfl,g,hx,hI⟩ | ⟨hno,-⟩
 case inr=>exact (hno HR1.o).elim
 have cR:=hid (ykf x g (Im.fq tb) ai ci ins 5000 V3 (hx.cell 0) hI (yoa tb) (fun i=>VH _ _ _ i) ⟨fun i=>VH _ _ _ i,fun i=>VH _ _ _ i⟩ (HII.o.kept (fun a v e=>yd e G3.o)) (HT.o.grown G3.o));clear hx hI HR1 SB;go_wp2_with fail;refine cR.o.mono ?_;rintro e V4 ⟨hrt,h4⟩;rcases hrt with ⟨h,-⟩ | ⟨-,h,-⟩ | ⟨-,-,-,vo,rfl,ho⟩
 case inl=>omega
 case inr.inl=>omega
 have E5:(5000:Int).toNat=5000:=rfl;rw [E5] at ho ⊢;have Nn:=Xb.o;generalize hs:Mc.run (Im.fq tb) ins 5000=s at *;have HS:=hid hs;clear hs;obtain ⟨m1,m2,m3,m4,m5,m6,m7,m8,m9⟩:=s;simp only at Nn ho ⊢;obtain ⟨q1,q2,q3⟩:=Nn;subst q1 q2 q3;obtain ⟨ao,ca,rfl⟩:=yh ho;have A5:=aH V4 (.cells #[.int .i64 1,.int .i64 m6,.slice ao m7.length ca,.int .i64 m8,.int .i64 m9] 37) none;have G5:=hid (ya (ya G3.o h4) A5);have xw:=hid (uZ.o.grown (ya h4 A5) (by simp));have BX:=hid (yc.new V4 #[.int .i64 1,.int .i64 m6,.slice ao m7.length ca,.int .i64 m8,.int .i64 m9] 37);have HO:=hid (ho.kept A5 (Decidable.em _));have hne:R≠V4.heap.size:=by have:=uZ.o.lt; have:=h4.size; omega
 clear h4 ho A5 cR uZ G3 Xb;have z0:(V4.alloc (.cells #[.int .i64 1,.int .i64 m6,.slice ao m7.length ca,.int .i64 m8,.int .i64 m9] 37)).cell? ⟨R,0,none⟩=some (.int .i64 0):=xw.o.cell 0;have z1:(V4.alloc (.cells #[.int .i64 1,.int .i64 m6,.slice ao m7.length ca,.int .i64 m8,.int .i64 m9] 37)).cell? ⟨R,1,none⟩=some (.int .i64 0):=xw.o.cell 1;have z2:(V4.alloc (.cells #[.int .i64 1,.int .i64 m6,.slice ao m7.length ca,.int .i64 m8,.int .i64 m9] 37)).cell? ⟨R,2,none⟩=some (.slice none 0 0):=xw.o.cell 2;have z3:(V4.alloc (.cells #[.int .i64 1,.int .i64 m6,.slice ao m7.length ca,.int .i64 m8,.int .i64 m9] 37)).cell? ⟨R,3,none⟩=some (.int .i64 0):=xw.o.cell 3
 have z4:(V4.alloc (.cells #[.int .i64 1,.int .i64 m6,.slice ao m7.length ca,.int .i64 m8,.int .i64 m9] 37)).cell? ⟨R,4,none⟩=some (.int .i64 0):=xw.o.cell 4;have f0:=xw.o.free 0;have f1:=xw.o.free 1;have f2:=xw.o.free 2;have f3:=xw.o.free 3;have f4:=xw.o.free 4;go_wp2;have GS:=World.grownBy.trans (World.grownBy.trans (World.grownBy.trans (World.grownBy.trans (yf (V4.alloc (.cells #[.int .i64 1,.int .i64 m6,.slice ao m7.length ca,.int .i64 m8,.int .i64 m9] 37)) R 0 (.int .i64 1)) (yf _ R 1 (.int .i64 m6))) (yf _ R 2 (.slice ao m7.length ca))) (yf _ R 3 (.int .i64 m8))) (yf _ R 4 (.int .i64 m9))
 have OI:=yB HO.o GS (bS.blk xw.o) (by decide);have F:=((((xw.o.set 0 (.int .i64 1)).set 1 (.int .i64 m6)).set 2 (.slice ao m7.length ca)).set 3 (.int .i64 m8)).set 4 (.int .i64 m9);have h0:=F.cell 0;have h1:=F.cell 1;have h2:=F.cell 2;have h3:=F.cell 3;have h4:=F.cell 4;simp only [gH,gF,gG,bJ,bN,bL] at h0 h1 h2 h3 h4;refine bodyPost_ret (v:=.tuple #[.agg #[.int .i64 1,.int .i64 m6,.slice ao m7.length ca,.int .i64 m8,.int .i64 m9],.int .i64 (tb.length:Nat),.bool true]) ?_ rfl ⟨⟨ao,ca,m8,by rw [HS.o],_,OI⟩,UO G5.o _ Jl _ _ _ _ _⟩;clear F z0 z1 z2 z3 z4 f0 f1 f2 f3 f4 OI GS;generalize World.setCell _ _ _=WF at *
 simp [results,Tryz.results18,go_sem,h0,h1,h2,h3,h4]
theorem yoe (W:World) (x:Int):(convert 42 9 (.slice (some ⟨W.heap.size,0,none⟩) 1 1)).run Tryz.prog (W.alloc (.cells #[.int .u8 x] 5)) = .ok (.string (strOfNums [x])) (W.alloc (.cells #[.int .u8 x] 5)) :=
 run_convert_bytes_arg (P:=Tryz.prog) _ 42 5 Tryz.underlying42 Tryz.underlying5 W.heap.size 0 1 1 [x] rfl (fun i hi=>by
  have e:i=0:=by omega
  subst e;exact (yc.new W #[.int .u8 x] 5).cell 0) 9 Tryz.underlying9
theorem VL (k:Nat) (hk:k < 10):strOfNums [48+(k:Int)]=bs (Ar.u6 k):=by
 rcases (show k=0\/k=1\/k=2\/k=3\/k=4\/k=5\/k=6\/k=7\/k=8\/k=9 by omega) with rfl | rfl | rfl | rfl | rfl | rfl | rfl | rfl | rfl | rfl <;> rfl
theorem ymj (k:Nat) (w:World) (hk:k < 10) :
  Calls Tryz.prog 14 #[.int .i64 k] w fun e w'=>e = .returned (.string (bs (Ar.u6 k)))/\w.grownBy w' none:=by
 have d0:decide ((k:Int) < 0)=false:=by simp
 have d1:decide ((k:Int) < 10)=true:=by simp; omega
 have hcv:=yoe;have HS:=hid (VL k hk);have A0:=hid (aH w (.cells #[.int .u8 (48+(k:Int))] 5) none);go_enter Tryz.func14,Tryz.ntmps14;go_wp2;go_ret;exact ⟨by rw [<- HS.o]; rfl,A0.o⟩
def eG:Nat->Nat->List UInt8
 | 0,_=>[]
 | f+1,n=>if n < 10 then Ar.u6 n else eG f (n / 10) ++ Ar.u6 (n % 10)
theorem QZ (f:Nat):∀ n,(eG f n).length<=f:=by
 induction f with
 | zero=>intro n; simp [eG]
 | succ f ih =>
  intro n;unfold eG;split
  ·simp [Ar.u6]
  ·have:=ih (n / 10)
   simp [Ar.u6];omega
theorem ynL (a b:List UInt8):bs a ++ bs b=bs (a ++ b):=by
 apply ByteArray.ext;simp [bs]
theorem ykl (f:Nat):∀ (n:Nat) (w:World),n < 10 ^ (f+1)->n<=4294967296->f<=30 ->
  Calls Tryz.prog 14 #[.int .i64 n] w fun e w'=>e = .returned (.string (bs (eG (f+1) n)))/\w.grownBy w' none:=by
 induction f with
 | zero =>
  intro n w hn _ _;have hn':n < 10:=by simpa using hn
  have q:=ymj n w hn';unfold eG;rw [if_pos hn'];exact q
 | succ f ih =>
  intro n w hn hb hf;by_cases hlt:n < 10
  ·have q:=ymj n w hlt;unfold eG;rw [if_pos hlt];exact q
  ·have d0:decide ((n:Int) < 0)=false:=by simp
   have d1:decide ((n:Int) < 10)=false:=by simp; omega
   have d2:¬ (n:Int) < 0:=by omega
   have d3:¬ (n:Int) < 10:=by omega
   have t1:Int.tdiv (n:Int) 10=((n / 10:Nat):Int):=by rw [Int.tdiv_eq_ediv_of_nonneg (by omega)]; rfl
   have t2:Int.tmod (n:Int) 10=((n % 10:Nat):Int):=by rw [Int.tmod_eq_emod_of_nonneg (by omega)]; rfl
   have t3:(n:Int) / 10=((n / 10:Nat):Int):=rfl;have t4:(n:Int) % 10=((n % 10:Nat):Int):=rfl;have cN:=hid (ih (n / 10) w (by rw [Nat.pow_succ] at hn; omega) (by omega) (by omega));have HS:=hid (show bs (eG (f+2) n)=bs (eG (f+1) (n / 10)) ++ strOfNums [48+((n % 10:Nat):Int)] by
    rw [VL (n % 10) (Nat.mod_lt _ (by omega)),ynL]
    conv=>lhs; unfold eG
    rw [if_neg hlt])
   have sz:(bs (eG (f+1) (n / 10))).size<=31:=by rw [w9]; have:=QZ (f+1) (n / 10); omega
   have hm:n % 10 < 10:=Nat.mod_lt _ (by omega);have sz2:(strOfNums [48+((n % 10:Nat):Int)]).size=1:=by rw [VL (n % 10) hm,w9]; rfl
   have hcv:=yoe;have ha:n / 10<=4294967296:=by omega
   have hwa:IntKind.i64.wrap ((n / 10:Nat):Int)=((n / 10:Nat):Int):=IntWalk.i64_in _ ⟨by omega,by omega⟩;generalize n / 10=a at *;generalize n % 10=b at *;generalize bs (eG (f+2) n)=X at *;generalize bs (eG (f+1) a)=Y at *;have q1:¬ 9223372036854775807 < Y.size+(strOfNums [48+(b:Int)]).size:=by omega
   clear ih hn hb hf hlt;go_enter Tryz.func14,Tryz.ntmps14;go_wp2_with fail;refine cN.o.mono ?_;rintro e V ⟨rfl,hg⟩;have G:=hid (ya hg (aH V (.cells #[.int .u8 (48+(b:Int))] 5) none));clear hg cN;go_wp2;go_ret;exact ⟨by rw [HS.o]; rfl,G.o⟩
theorem EZ (k:Nat) (h:k < 10):(Ar.u6 k).all As.bA=true/\(Ar.u6 k).length=1/\As.dec (Ar.u6 k)=k:=by
 rcases (show k=0\/k=1\/k=2\/k=3\/k=4\/k=5\/k=6\/k=7\/k=8\/k=9 by omega) with rfl | rfl | rfl | rfl | rfl | rfl | rfl | rfl | rfl | rfl <;> decide
theorem yqE (a:List UInt8) (k:Nat) (h:k < 10):As.dec (a ++ Ar.u6 k)=10 * As.dec a+k:=by
 have e:As.dec (a ++ Ar.u6 k)=10 * As.dec a+((UInt8.ofNat (48+k)).toNat - 48):=by
  unfold As.dec Ar.u6;rw [List.foldl_append];rfl
 have f:=(EZ k h).2.2;have g:As.dec (Ar.u6 k)=10 * 0+((UInt8.ofNat (48+k)).toNat - 48):=rfl;rw [e];omega
theorem ymE (f:Nat):∀ n,n < 10 ^ (f+1)->(eG (f+1) n).all As.bA=true/\1<=(eG (f+1) n).length/\As.dec (eG (f+1) n)=n:=by
 induction f with
 | zero =>
  intro n hn;have h:n < 10:=by simpa using hn
  have e:eG 1 n=Ar.u6 n:=by unfold eG; rw [if_pos h]
  rw [e];have q:=EZ n h;exact ⟨q.1,by omega,q.2.2⟩
 | succ f ih =>
  intro n hn;by_cases h:n < 10
  ·have e:eG (f+2) n=Ar.u6 n:=by unfold eG; rw [if_pos h]
   rw [e];have q:=EZ n h;exact ⟨q.1,by omega,q.2.2⟩
  ·have e:eG (f+2) n=eG (f+1) (n / 10) ++ Ar.u6 (n % 10):=by conv=>lhs; unfold eG; rw [if_neg h]
   have q:=ih (n / 10) (by rw [Nat.pow_succ] at hn; omega);have m:n % 10 < 10:=Nat.mod_lt _ (by omega);rw [e,yqE _ _ m,q.2.2,List.all_append,q.1,(EZ _ m).1,eP];exact ⟨rfl,by omega,by omega⟩
theorem QM (f:Nat):∀ n g,1<=g->n < 10 ^ g->(eG f n).length<=g:=by
 induction f with
 | zero=>intro n g _ _; simp [eG]
 | succ f ih =>
  intro n g hg hn;unfold eG;by_cases h:n < 10
  ·rw [if_pos h,(EZ n h).2.1]; exact hg
  ·rw [if_neg h,eP,(EZ (n % 10) (Nat.mod_lt _ (by omega))).2.1];obtain ⟨g',rfl⟩:∃ g',g=g'+1:=⟨g - 1,by omega⟩
   have g1:1<=g':=by
    rcases Nat.eq_zero_or_pos g' with rfl | h'
    ·simp at hn; omega
    ·exact h'
   have:=ih (n / 10) g' g1 (by rw [Nat.pow_succ] at hn; omega)
   omega
theorem RQ (n:Nat) (h:n<=4294967296):At.gN (At.nm (eG 11 n) n):=by
 have q:=ymE 10 n (by omega);have l:=QM 11 n 10 (by omega) (by omega);exact .inr (.inl ⟨rfl,q.2.2.symm,q.1,q.2.1,l⟩)
theorem yny (o:Lk.Obj) (t:List Int) (hl:t.length=o.text.length) (hw:sS t) (hab:∀ r∈o.aj,yR { o with text:=t } r=yR o r) (h:yx o):yx { o with text:=t }:=by
 obtain ⟨h1,h2,h3,h4,h5⟩:=h;have wl:∀ s:Int,(yw { o with text:=t } s).length=(yw o s).length:=by
  intro s;unfold yw;split
  ·exact hl
  ·rfl
 have sl:∀ s:Int,vC { o with text:=t } s=vC o s:=by
  intro s;unfold vC;rw [wl]
 refine ⟨?_,h2,⟨hw,h3.2⟩,fun i hi=>?_,fun i hi=>?_⟩
 ·unfold JF at *;simp only [hl];exact h1
 ·obtain ⟨a,b⟩:=h4 i hi;refine ⟨?_,b⟩;unfold Fg at *;rw [sl];exact a
 ·obtain ⟨⟨a1,a2,a3,a4,a5,a6,a7⟩,b⟩:=h5 i hi;refine ⟨⟨a1,a2,a3,a4,?_,?_,a7⟩,b⟩
  ·unfold ET at *;rw [wl];exact a5
  ·have e:=hab _ (iC hi);show pI _ (yR { o with text:=t } o.aj[i]);rw [e];exact a6
namespace Op
open At
def names:List (List UInt8):=[[97,100,100],[115,117,98],[115,108,116],[115,108,116,117],[120,111,114],[111,114],[97,110,100]]
def sg (neg:Bool):List UInt8:=if neg then [45] else []
def text (nx:Bool) (x:Nat) (ny:Bool) (y k n:Nat):List UInt8 :=
 [46,103,108,111,98,108,32,95,115,116,97,114,116,10,95,115,116,97,114,116,58,32,108,105,32,120,53,44] ++ (sg nx ++ (eG 11 x ++ ([10,108,105,32,120,54,44] ++ (sg ny ++ (eG 11 y ++ ([10] ++ (names.getD k [] ++ ([32,120,49,48,44,120,53,44,120,54,10,108,105,32,120,49,55,44,49,10,101,99,97,108,108,10,108,105,32,120,49,48,44,49,10,98,108,116,32,120,53,44,120,54,44,97,10,108,105,32,120,49,48,44,48,10,97,58,32,101,99,97,108,108,10,108,105,32,120,49,48,44,49,10,98,103,101,117,32,120,53,44,120,54,44,98,10,108,105,32,120,49,48,44,48,10,98,58,32,101,99,97,108,108,10,108,105,32,120,49,48,44,49,10,98,110,101,32,120,53,44,120,54,44,99,10,108,105,32,120,49,48,44,48,10,99,58,32,101,99,97,108,108,10,97,100,100,105,32,120,49,48,44,120,53,44,45] ++ (eG 11 n ++ ([10,101,99,97,108,108,10,97,110,100,105,32,120,49,48,44,120,54,44] ++ (eG 11 n ++ [10,108,105,32,120,49,55,44,49,10,101,99,97,108,108,10,108,105,32,120,49,48,44,48,10,108,105,32,120,49,55,44,48,10,101,99,97,108,108,10])))))))))))
def lines (nx:Bool) (x:Nat) (ny:Bool) (y k n:Nat):List (List It) :=
 KR nx (eG 11 x) x ny (eG 11 y) y k ++ ((zk [98,108,116] [97] ++ [vK]) ++ ((zk [98,103,101,117] [98] ++ [vK]) ++ (zk [98,110,101] [99] ++ KS (eG 11 n) n)))
theorem nQ (nx:Bool) (x:Nat) (ny:Bool) (y k n:Nat):spells (join (lines nx x ny y k n))=text nx x ny y k n:=by
 cases nx <;> cases ny <;> kernel_rfl
theorem wu (nx:Bool) (x:Nat) (ny:Bool) (y k n:Nat):apart (join (lines nx x ny y k n))=true:=by
 cases nx <;> cases ny <;> kernel_rfl
theorem wz (nx:Bool) (x:Nat) (ny:Bool) (y k n:Nat):blanks (join (lines nx x ny y k n))[0]?=0:=rfl
theorem uz (nx:Bool) (x:Nat) (ny:Bool) (y k n:Nat):(lines nx x ny y k n).length=26:=rfl
theorem Da {Ls:List (List It)} (h:∀ L∈Ls,∀ i∈L,gN i):∀ i∈join Ls,gN i:=by
 intro i hi;unfold join at hi;obtain ⟨L,hL,hi⟩:=List.mem_flatMap.1 hi;rcases List.mem_append.1 hi with hi | hi
 ·exact h L hL i hi
 ·simp at hi;subst hi
  trivial
theorem Bu (neg:Bool) (n:Nat) (h:n<=4294967296):∀ i∈zn neg (eG 11 n) n,gN i:=by
 intro i hi
 cases neg
 ·simp [zn] at hi;subst hi;exact RQ n h
 ·simp [zn] at hi;rcases hi with rfl | rfl
  ·decide
  ·exact RQ n h
theorem CP {A B:List It} (ha:∀ i∈A,gN i) (hb:∀ i∈B,gN i):∀ i∈A ++ B,gN i:=fun i hi=>by
 rcases List.mem_append.1 hi with h | h
 ·exact ha i h
 ·exact hb i h
theorem Ic:∀ k,k < 7->∀ i∈Uu k,gN i:=by decide
theorem xV (nx:Bool) (x:Nat) (ny:Bool) (y k n:Nat) (hx:x<=4294967296) (hy:y<=4294967296) (hk:k < 7) (hn:n<=4294967296):∀ i∈join (lines nx x ny y k n),gN i:=by
 apply Da;intro L hL;unfold lines KR zk KS at hL;simp only [List.mem_append,List.mem_cons,List.not_mem_nil,or_false] at hL;rcases hL with (h | h | h | h | h | h | h) | ((h | h | h) | h) | ((h | h | h) | h) | (h | h | h) | (h | h | h | h | h | h | h | h)
 all_goals subst h
 all_goals first
  | (decide; done)
  | exact Ic k hk
  | exact CP (by decide) (Bu _ _ (by assumption))
  | (intro i hi; simp only [List.mem_cons,List.not_mem_nil,or_false] at hi; rcases hi with rfl | rfl | rfl | rfl | rfl | rfl | rfl <;> first | (decide; done) | exact RQ n hn)
  | (intro i hi; simp only [List.mem_cons,List.not_mem_nil,or_false] at hi; rcases hi with rfl | rfl | rfl | rfl | rfl | rfl <;> first | (decide; done) | exact RQ n hn)
end Op
theorem LC (a b k M:Nat) (hM:M=2 ^ k) (h:b < M):a * M ||| b=a * M+b:=by
 subst hM
 have:=Nat.two_pow_add_eq_or_of_lt (i:=k) (b:=b) h a
 rw [Nat.mul_comm a];exact this.symm
theorem ynk (A B C D E:Nat):(A ||| B) ||| C ||| D ||| E=C ||| (E ||| (A ||| (D ||| B))):=by
 apply Nat.eq_of_testBit_eq;intro i;simp only [Nat.testBit_or]
 cases A.testBit i <;> cases B.testBit i <;> cases C.testBit i <;> cases D.testBit i <;> cases E.testBit i <;> rfl
theorem ZI (n:Int) (low count:Nat):As.fO n low count < 2 ^ count:=by
 unfold As.fO;have hp:(0:Int) < (2:Int) ^ count:=Int.pow_pos (by omega);have h1:=Int.emod_lt_of_pos (n / (2:Int) ^ low) hp;have h0:=Int.emod_nonneg (n / (2:Int) ^ low) (Int.ne_of_gt hp);have e:((2 ^ count:Nat):Int)=(2:Int) ^ count:=by simp
 omega
theorem UU (n:Int) (low count:Nat):((As.fO n low count:Nat):Int)=(n / (2:Int) ^ low) % (2:Int) ^ count:=by
 unfold As.fO;have hp:(0:Int) < (2:Int) ^ count:=Int.pow_pos (by omega);have h0:=Int.emod_nonneg (n / (2:Int) ^ low) (Int.ne_of_gt hp);omega
theorem UW (r:Nat) (h:r < 32):As.fO (r:Int) 0 5=r:=by
 have:=UU (r:Int) 0 5
 simp only [Int.reducePow,Int.ediv_one] at this;omega
namespace Mc
structure Says (w:Int) (op:Nat) (rd au aC n:Int):Prop where
 lo:0<=w
 hi:w<=4294967295
 op:jX w=op
 rd:gI (aO w) w=rd
 au:bI (aO w) w=au
 aC:jC (aO w) w=aC
 n:jm (aO w) w=n
end Mc
theorem Wt (n:Int) (form:Int) (h0:0<=n) (h1:n<=4294967295) (hf:form=1\/form=2\/form=3\/form=6):gI form n=n / 128 % 32:=by
 unfold gI;rw [if_pos (by omega),yD n 128 h0 h1 (by omega)]
theorem yoJ (n:Int) (form:Int) (h0:0<=n) (h1:n<=4294967295) (hf:form=3\/form=4\/form=5\/form=6):bI form n=n / 32768 % 32:=by
 unfold bI;rw [if_pos (by omega),yD n 32768 h0 h1 (by omega)]
theorem Zy (n:Int):Mc.jm 3 n=if n / 1048576 % 4096 < 2048 then n / 1048576 % 4096 else n / 1048576 % 4096 - 4096:=by
 unfold Mc.jm;rw [if_neg (by decide),if_neg (by decide),if_pos rfl]
theorem yre (n:Int):Mc.jm 1 n=n / 4096 % 1048576:=by
 unfold Mc.jm;rw [if_pos rfl]
theorem ysd (form n:Int) (h:form=1\/form=2):bI form n=0:=by
 unfold bI;rw [if_neg (by omega)]
theorem VY (form n:Int) (h:form=1\/form=2\/form=3):jC form n=0:=by
 unfold jC;rw [if_neg (by omega)]
theorem ZH (op rd au:Nat) (n:Int) (fx:Nat) (ho:As.forms.getD op 0=3) (hx:As.jQ.getD op 0=fx) (hl:fx % 128+4096 * (fx / 4096)=fx) (hl2:fx < 32768) (h:rd < 32) (h1:au < 32):(As.enc op rd au 0 n:Int)=fx+128 * rd+32768 * au+1048576 * (n % 4096):=by
 have e:As.enc op rd au 0 n=(fx ||| As.fO n 0 12 * 1048576) ||| As.fO (rd:Int) 0 5 * 128 ||| As.fO (au:Int) 0 5 * 32768:=by
  have p:As.place' 3 n=As.fO n 0 12 * 1048576:=by unfold As.place'; rw [if_neg (by decide),if_neg (by decide),if_pos rfl]
  have a1:As.lM 3=true:=by decide
  have a2:As.jA 3=true:=by decide
  have a3:As.kE 3=false:=by decide
  unfold As.enc;rw [ho,hx];unfold As.kV;simp only [a1,a2,a3,if_true,Bool.false_eq_true,if_false,p]
 have f1:=ZI n 0 12;have g1:=UU n 0 12;simp only [Int.reducePow,Nat.reducePow,Int.ediv_one] at f1 g1;rw [UW rd h,UW au h1] at e;generalize As.fO n 0 12=a at *;obtain ⟨u,v,hu,hv⟩:∃ u v:Nat,u < 128/\fx=v * 4096+u:=⟨fx % 128,fx / 4096,by omega,by omega⟩
 have o1:fx=v * 4096 ||| u:=by rw [hv]; exact (LC v u 12 4096 (by decide) (by omega)).symm
 have o5:rd * 128 ||| u=rd * 128+u:=LC rd u 7 128 (by decide) (by omega);have o6:v * 4096 ||| (rd * 128+u)=v * 4096+(rd * 128+u):=LC v (rd * 128+u) 12 4096 (by decide) (by omega);have o7:au * 32768 ||| (v * 4096+(rd * 128+u))=au * 32768+(v * 4096+(rd * 128+u)):=LC au _ 15 32768 (by decide) (by omega);have o8:a * 1048576 ||| (au * 32768+(v * 4096+(rd * 128+u)))=a * 1048576+(au * 32768+(v * 4096+(rd * 128+u))):=LC a _ 20 1048576 (by decide) (by omega);have s:As.enc op rd au 0 n=a * 1048576 ||| (au * 32768 ||| (v * 4096 ||| (rd * 128 ||| u))):=by
  rw [e,o1];exact ynk _ _ _ _ _
 rw [o5,o6,o7,o8] at s;omega
namespace Op
open At
def Pw:Int:=(As.enc 7 0 5 6 0:Nat)
def FQ:Int:=(As.enc 10 0 5 6 0:Nat)
def Px:Int:=(As.enc 6 0 5 6 0:Nat)
def rest (k n:Nat):List Int:=[wY k,nE,115,jZ,Pw,iD,115,jZ,FQ,iD,115,jZ,Px,iD,115,(As.enc 13 10 5 0 (-(n:Int)):Nat),115,(As.enc 17 10 6 0 (n:Int):Nat),nE,115,iD,vM,115]
def kQ (a:Nat) (q:List Int):Lk.Obj:=⟨q,[],[],0,AL,[S0,⟨[97],0,1,4 * ((a:Int)+6)⟩,⟨[98],0,1,4 * ((a:Int)+10)⟩,⟨[99],0,1,4 * ((a:Int)+14)⟩],[⟨1,4 * ((a:Int)+4),2,1,0⟩,⟨1,4 * ((a:Int)+8),2,2,0⟩,⟨1,4 * ((a:Int)+12),2,3,0⟩]⟩
def two (vx vy:Int):List Int:=kP 5 vx ++ kP 6 vy
theorem uT (vx vy:Int):2<=(two vx vy).length/\(two vx vy).length<=4:=by
 have a:=kZ 5 vx;have b:=kZ 6 vy;unfold two;rw [eP];omega
theorem Ib (nx:Bool) (x:Nat) (ny:Bool) (y k n:Nat) (hx:x<=2147483647\/(nx=true/\x<=2147483648)) (hy:y<=2147483647\/(ny=true/\y<=2147483648)) (hk:k < 7) (hn:n<=2047) :
  ∃ o:Lk.Obj,At.Does (lines nx x ny y k n) 1 As.start.obj 1 o/\As.finish o=kQ (two (val nx x) (val ny y)).length (two (val nx x) (val ny y) ++ rest k n):=by
 have tl:=uT (val nx x) (val ny y);have e1:q1 (val nx x) (val ny y) k=two (val nx x) (val ny y) ++ [wY k,nE,115,jZ]:=by
  unfold q1 two;simp only [List.append_assoc,List.cons_append,List.nil_append]
 have D1:=NV nx (eG 11 x) x ny (eG 11 y) y k hx hy hk;rw [e1] at D1;obtain ⟨t,ht⟩:∃ t,two (val nx x) (val ny y)=t:=⟨_,rfl⟩
 rw [ht] at D1 tl ⊢;have D2:=NW (t ++ [wY k,nE,115,jZ]) (by simp; omega);refine ⟨_,D1.trans (D2.trans ((NY _ _ _ ?_).trans ((NZ _ _ _ _ _ ?_).trans (N7 (eG 11 n) n hn _ _ _ ?_)))),?_⟩
 ·simp; omega
 ·simp; omega
 ·simp; omega
 unfold As.finish kQ;simp only [List.append_assoc,List.cons_append,List.nil_append,eP,iV,List.length_nil];rfl
theorem Et (nx:Bool) (x:Nat) (ny:Bool) (y k n:Nat) (hx:x<=4294967296) (hy:y<=4294967296) (hk:k < 7) (hn:n<=4294967296):26<=(text nx x ny y k n).length/\(text nx x ny y k n).length<=1000:=by
 have a:=QM 11 x 10 (by omega) (by omega);have b:=QM 11 y 10 (by omega) (by omega);have c:=QM 11 n 10 (by omega) (by omega);have d:(names.getD k []).length<=4:=by
  have:∀ k,k < 7->(names.getD k []).length<=4:=by decide
  exact this k hk
 have e:∀ z,(sg z).length<=1:=by decide
 have e1:=e nx;have e2:=e ny;unfold text;simp only [eP,iV,List.length_nil];omega
theorem DZ (nx:Bool) (x:Nat) (ny:Bool) (y k n:Nat) (hx:x<=2147483647\/(nx=true/\x<=2147483648)) (hy:y<=2147483647\/(ny=true/\y<=2147483648)) (hk:k < 7) (hn:n<=2047) :
  (As.assemble (text nx x ny y k n)).1.1=0/\(As.assemble (text nx x ny y k n)).2=kQ (two (val nx x) (val ny y)).length (two (val nx x) (val ny y) ++ rest k n):=by
 obtain ⟨o,D,e⟩:=Ib nx x ny y k n hx hy hk hn;have tl:=Et nx x ny y k n (by omega) (by omega) hk (by omega);have q:=rX D (xV nx x ny y k n (by omega) (by omega) hk (by omega)) (wu nx x ny y k n) (wz nx x ny y k n) (by rw [nQ]; exact tl.2) (by rw [nQ,uz]; exact tl.1);rw [nQ,e] at q;exact q
end Op
namespace Op
open At
theorem Bl:∀ a,a < 5->2<=a->R9 (kQ a (List.replicate a 19 ++ rest 0 0))=true:=by decide +kernel
theorem fU (op rd au aC:Nat) (n:Int):0<=((As.enc op rd au aC n:Nat):Int)/\((As.enc op rd au aC n:Nat):Int)<=4294967295:=by
 have:=ynQ op rd au aC n
 omega
theorem Gs (rd:Nat) (n:Int) (h:rd < 32):(As.enc 1 rd 0 0 n:Int)=55+128 * rd+4096 * (n % 1048576):=by
 have e:As.enc 1 rd 0 0 n=(55 ||| As.fO n 0 20 * 4096) ||| As.fO (rd:Int) 0 5 * 128:=by
  have p:As.place' 1 n=As.fO n 0 20 * 4096:=by unfold As.place'; rw [if_pos rfl]
  have a1:As.lM 1=true:=by decide
  have a2:As.jA 1=false:=by decide
  have a3:As.kE 1=false:=by decide
  have ho:As.forms.getD 1 0=1:=by decide
  have hx:As.jQ.getD 1 0=55:=by decide
  unfold As.enc;rw [ho,hx];unfold As.kV;simp only [a1,a2,a3,if_true,Bool.false_eq_true,if_false,p]
 have f1:=ZI n 0 20;have g1:=UU n 0 20;simp only [Int.reducePow,Nat.reducePow,Int.ediv_one] at f1 g1;rw [UW rd h] at e;generalize As.fO n 0 20=a at *;have o5:55 ||| rd * 128=rd * 128+55:=by rw [Nat.or_comm]; exact LC rd 55 7 128 (by decide) (by omega)
 have o6:a * 4096 ||| (rd * 128+55)=a * 4096+(rd * 128+55):=LC a (rd * 128+55) 12 4096 (by decide) (by omega);rw [Nat.or_comm 55,Nat.or_assoc,o5,o6] at e;omega
theorem Dq (r:Nat) (v:Int):∀ w∈kP r v,0<=w/\w<=4294967295:=by
 unfold kP;split
 ·exact List.forall_mem_cons.2 ⟨fU _ _ _ _ _,fun w hw=>by cases hw⟩
 ·exact List.forall_mem_cons.2 ⟨fU _ _ _ _ _,List.forall_mem_cons.2 ⟨fU _ _ _ _ _,fun w hw=>by cases hw⟩⟩
theorem Ip (k n:Nat):∀ w∈rest k n,0<=w/\w<=4294967295:=by
 have h:0<=(115:Int)/\(115:Int)<=4294967295:=by omega
 exact List.forall_mem_cons.2 ⟨fU _ _ _ _ _,List.forall_mem_cons.2 ⟨fU _ _ _ _ _,List.forall_mem_cons.2 ⟨h,List.forall_mem_cons.2 ⟨fU _ _ _ _ _,List.forall_mem_cons.2 ⟨fU _ _ _ _ _,List.forall_mem_cons.2 ⟨fU _ _ _ _ _,List.forall_mem_cons.2 ⟨h,List.forall_mem_cons.2 ⟨fU _ _ _ _ _,List.forall_mem_cons.2 ⟨fU _ _ _ _ _,List.forall_mem_cons.2 ⟨fU _ _ _ _ _,List.forall_mem_cons.2 ⟨h,List.forall_mem_cons.2 ⟨fU _ _ _ _ _,List.forall_mem_cons.2 ⟨fU _ _ _ _ _,List.forall_mem_cons.2 ⟨fU _ _ _ _ _,List.forall_mem_cons.2 ⟨h,List.forall_mem_cons.2 ⟨fU _ _ _ _ _,List.forall_mem_cons.2 ⟨h,List.forall_mem_cons.2 ⟨fU _ _ _ _ _,List.forall_mem_cons.2 ⟨fU _ _ _ _ _,List.forall_mem_cons.2 ⟨h,List.forall_mem_cons.2 ⟨fU _ _ _ _ _,List.forall_mem_cons.2 ⟨fU _ _ _ _ _,List.forall_mem_cons.2 ⟨h,fun w hw=>by cases hw⟩⟩⟩⟩⟩⟩⟩⟩⟩⟩⟩⟩⟩⟩⟩⟩⟩⟩⟩⟩⟩⟩⟩
theorem oD (k n:Nat):(rest k n).length=23:=rfl
theorem mO (k n:Nat):((rest k n).drop 4).take 1=[Pw]/\((rest k n).drop 8).take 1=[FQ]/\((rest k n).drop 12).take 1=[Px]:=⟨by kernel_rfl,by kernel_rfl,by kernel_rfl⟩
theorem Eu (vx vy:Int):∀ w∈two vx vy,0<=w/\w<=4294967295:=by
 intro w hw;unfold two at hw;rcases List.mem_append.1 hw with h | h
 ·exact Dq 5 vx w h
 ·exact Dq 6 vy w h
theorem jJ (o:Lk.Obj) (r:Lk.Rel) (hs:r.ah=1) (hk:r.kind=2):yR o r=(o.text.drop (r.off / 4).toNat).take 1:=by
 unfold yR
 have:mX r=1:=by unfold mX; rw [if_neg (by omega),if_neg (by omega)]
 rw [this,hs];rfl
theorem wF (t:List Int) (k n:Nat) (ht:∀ w∈t,0<=w/\w<=4294967295) (h2:2<=t.length) (h4:t.length<=4):yx (kQ t.length (t ++ rest k n)):=by
 have v:=ynx (Bl t.length (by omega) h2);have q:=yny (kQ t.length (List.replicate t.length 19 ++ rest 0 0)) (t ++ rest k n) (by show (t ++ rest k n).length=(List.replicate t.length 19 ++ rest 0 0).length; rw [eP,eP,List.length_replicate,oD,oD]) (fun i hi=>?_) (fun r hr=>?_) v
 ·exact q
 ·have m:=iC hi;rcases List.mem_append.1 m with h | h
  ·exact ht _ h
  ·exact Ip k n _ h
 ·have hr':r=⟨1,4 * ((t.length:Int)+4),2,1,0⟩\/r=⟨1,4 * ((t.length:Int)+8),2,2,0⟩\/r=⟨1,4 * ((t.length:Int)+12),2,3,0⟩:=by
   simp only [kQ,List.mem_cons,List.not_mem_nil,or_false] at hr;exact hr
  have dr:∀ (c:Nat) (q:List Int),q.length=t.length->∀ R:List Int,(q ++ R).drop (4 * ((t.length:Int)+c) / 4).toNat=R.drop c:=fun c q hq R=>by
   rw [show (4 * ((t.length:Int)+c) / 4).toNat=q.length+c by omega,List.drop_append,List.drop_of_length_le (by omega),Nat.add_sub_cancel_left,List.nil_append]
  rcases hr' with rfl | rfl | rfl
  ·rw [jJ _ _ rfl rfl,jJ _ _ rfl rfl];show ((t ++ rest k n).drop (4 * ((t.length:Int)+(4:Nat)) / 4).toNat).take 1=((List.replicate t.length 19 ++ rest 0 0).drop (4 * ((t.length:Int)+(4:Nat)) / 4).toNat).take 1;rw [dr 4 t rfl,dr 4 (List.replicate t.length 19) (by simp),(mO k n).1,(mO 0 0).1]
  ·rw [jJ _ _ rfl rfl,jJ _ _ rfl rfl];show ((t ++ rest k n).drop (4 * ((t.length:Int)+(8:Nat)) / 4).toNat).take 1=((List.replicate t.length 19 ++ rest 0 0).drop (4 * ((t.length:Int)+(8:Nat)) / 4).toNat).take 1;rw [dr 8 t rfl,dr 8 (List.replicate t.length 19) (by simp),(mO k n).2.1,(mO 0 0).2.1]
  ·rw [jJ _ _ rfl rfl,jJ _ _ rfl rfl];show ((t ++ rest k n).drop (4 * ((t.length:Int)+(12:Nat)) / 4).toNat).take 1=((List.replicate t.length 19 ++ rest 0 0).drop (4 * ((t.length:Int)+(12:Nat)) / 4).toNat).take 1;rw [dr 12 t rfl,dr 12 (List.replicate t.length 19) (by simp),(mO k n).2.2,(mO 0 0).2.2]
end Op
namespace Im
theorem Am (a l:List UInt8) (p n:Nat):dW (a ++ l) (a.length+p) n=dW l p n:=by
 induction n generalizing p with
 | zero=>rfl
 | succ n ih =>
  have g:(a ++ l).getD (a.length+p) 0=l.getD p 0:=by rw [lN,lN,List.getElem?_append_right (by omega),Nat.add_sub_cancel_left]
  unfold dW;rw [Nat.add_assoc,ih (p+1),g]
theorem JQ (v:Int) (n:Nat) (b:List UInt8) (h0:0<=v) (h1:v < (256:Int) ^ n):dW (Lk.le v n ++ b) 0 n=v:=by
 have hl:=Lk.aA v n;rw [<- wE _ 0 n (by rw [eP]; omega),List.drop_zero,List.take_append_of_le_length (by omega),List.take_of_length_le (by omega)];exact Lk.DW v n h0 h1
theorem kS (a b:List UInt8) (v:Int) (n p:Nat) (hp:a.length=p) (h0:0<=v) (h1:v < (256:Int) ^ n):dW (a ++ (Lk.le v n ++ b)) p n=v:=by
 have:=Am a (Lk.le v n ++ b) 0 n
 rw [Nat.add_zero,hp] at this;rw [this,JQ v n b h0 h1]
theorem lg (xs:List Int):(Lk.nums xs 4).length=4 * xs.length:=by
 induction xs with
 | nil=>rfl
 | cons x xs ih =>
  have e:Lk.nums (x :: xs) 4=Lk.le x 4 ++ Lk.nums xs 4:=rfl;rw [e,eP,Lk.aA,ih,iV];omega
theorem rF (xs:List Int):∀ (a b:List UInt8) (p:Nat),a.length=p->(∀ x∈xs,0<=x/\x < 4294967296)->words (a ++ (Lk.nums xs 4 ++ b)) p xs.length=xs:=by
 induction xs with
 | nil=>intro a b p _ _; rfl
 | cons x xs ih =>
  intro a b p hp hx;have e:Lk.nums (x :: xs) 4=Lk.le x 4 ++ Lk.nums xs 4:=rfl;have h:=hx x List.mem_cons_self;rw [iV,rG,e,List.append_assoc,kS a (Lk.nums xs 4 ++ b) x 4 p hp h.1 (by simpa using h.2)]
  congr 1
  have q:=ih (a ++ Lk.le x 4) b (p+4) (by rw [eP,Lk.aA,hp]) (fun y hy=>hx y (List.mem_cons_of_mem _ hy));rw [List.append_assoc] at q;exact q
structure Fit (m:eU):Prop where
 start:0<=m.start/\m.start < 4294967296
 text:0<=m.text/\m.text < 4294967296
 far:0<=m.far/\m.far < 4294967296
 data:0<=m.data/\m.data < 4294967296
 lT:m.T.length<=65535
 lF:m.F.length<=65535
 lD:m.D.length<=65535
 no:0<=m.noughts/\m.noughts<=65535
 T:∀ x∈m.T,0<=x/\x < 4294967296
 F:∀ x∈m.F,0<=x/\x < 4294967296
 D:∀ x∈m.D,0<=x/\x < 4294967296
theorem xI (m:eU) (h:Fit m):fq (bytes m)=m/\Full (bytes m)/\(bytes m).take 2=[73,77]/\(bytes m).length=26+4 * (m.T.length+m.F.length+m.D.length):=by
 obtain ⟨st,tx,fr,da,T,F,D,no⟩:=m;obtain ⟨hs,ht,hf,hd,lT,lF,lD,hn,hT,hF,hD⟩:=h;simp only at hs ht hf hd lT lF lD hn hT hF hD;have E:bytes ⟨st,tx,fr,da,T,F,D,no⟩=[73,77] ++ (Lk.le st 4 ++ (Lk.le tx 4 ++ (Lk.le fr 4 ++ (Lk.le da 4 ++ (Lk.le (T.length:Int) 2 ++ (Lk.le (F.length:Int) 2 ++ (Lk.le (D.length:Int) 2 ++ (Lk.le no 2 ++ (Lk.nums T 4 ++ (Lk.nums F 4 ++ (Lk.nums D 4 ++ []))))))))))):=by
  unfold bytes;simp only [List.append_assoc,List.append_nil]
 have L:(bytes ⟨st,tx,fr,da,T,F,D,no⟩).length=26+4 * (T.length+F.length+D.length):=by
  rw [E];simp only [eP,Lk.aA,lg,iV,List.length_nil];omega
 have two:(256:Int) ^ 2=65536:=by decide
 have four:(256:Int) ^ 4=4294967296:=by decide
 have q1:dW (bytes ⟨st,tx,fr,da,T,F,D,no⟩) 2 4=st:=by rw [E]; exact kS [73,77] _ st 4 2 rfl hs.1 (by omega)
 have q2:dW (bytes ⟨st,tx,fr,da,T,F,D,no⟩) 6 4=tx:=by
  rw [E,<- List.append_assoc];exact kS _ _ tx 4 6 (by simp [Lk.aA]) ht.1 (by omega)
 have q3:dW (bytes ⟨st,tx,fr,da,T,F,D,no⟩) 10 4=fr:=by
  rw [E,<- List.append_assoc,<- List.append_assoc];exact kS _ _ fr 4 10 (by simp [Lk.aA]) hf.1 (by omega)
 have q4:dW (bytes ⟨st,tx,fr,da,T,F,D,no⟩) 14 4=da:=by
  rw [E,<- List.append_assoc,<- List.append_assoc,<- List.append_assoc];exact kS _ _ da 4 14 (by simp [Lk.aA]) hd.1 (by omega)
 have q5:dW (bytes ⟨st,tx,fr,da,T,F,D,no⟩) 18 2=T.length:=by
  rw [E,<- List.append_assoc,<- List.append_assoc,<- List.append_assoc,<- List.append_assoc];exact kS _ _ _ 2 18 (by simp [Lk.aA]) (by omega) (by omega)
 have q6:dW (bytes ⟨st,tx,fr,da,T,F,D,no⟩) 20 2=F.length:=by
  rw [E,<- List.append_assoc,<- List.append_assoc,<- List.append_assoc,<- List.append_assoc,<- List.append_assoc];exact kS _ _ _ 2 20 (by simp [Lk.aA]) (by omega) (by omega)
 have q7:dW (bytes ⟨st,tx,fr,da,T,F,D,no⟩) 22 2=D.length:=by
  rw [E,<- List.append_assoc,<- List.append_assoc,<- List.append_assoc,<- List.append_assoc,<- List.append_assoc,<- List.append_assoc];exact kS _ _ _ 2 22 (by simp [Lk.aA]) (by omega) (by omega)
 have q8:dW (bytes ⟨st,tx,fr,da,T,F,D,no⟩) 24 2=no:=by
  rw [E,<- List.append_assoc,<- List.append_assoc,<- List.append_assoc,<- List.append_assoc,<- List.append_assoc,<- List.append_assoc,<- List.append_assoc];exact kS _ _ _ 2 24 (by simp [Lk.aA]) hn.1 (by omega)
 have nt:nT (bytes ⟨st,tx,fr,da,T,F,D,no⟩)=T.length:=by unfold nT; rw [q5]; omega
 have nf:nF (bytes ⟨st,tx,fr,da,T,F,D,no⟩)=F.length:=by unfold nF; rw [q6]; omega
 have nd:nD (bytes ⟨st,tx,fr,da,T,F,D,no⟩)=D.length:=by unfold nD; rw [q7]; omega
 have w1:words (bytes ⟨st,tx,fr,da,T,F,D,no⟩) 26 T.length=T:=by
  rw [E,<- List.append_assoc,<- List.append_assoc,<- List.append_assoc,<- List.append_assoc,<- List.append_assoc,<- List.append_assoc,<- List.append_assoc,<- List.append_assoc];exact rF T _ _ 26 (by simp [Lk.aA]) hT
 have w2:words (bytes ⟨st,tx,fr,da,T,F,D,no⟩) (26+4 * T.length) F.length=F:=by
  rw [E,<- List.append_assoc,<- List.append_assoc,<- List.append_assoc,<- List.append_assoc,<- List.append_assoc,<- List.append_assoc,<- List.append_assoc,<- List.append_assoc,<- List.append_assoc];exact rF F _ _ _ (by simp [Lk.aA,lg]; omega) hF
 have w3:words (bytes ⟨st,tx,fr,da,T,F,D,no⟩) (26+4 * T.length+4 * F.length) D.length=D:=by
  rw [E,<- List.append_assoc,<- List.append_assoc,<- List.append_assoc,<- List.append_assoc,<- List.append_assoc,<- List.append_assoc,<- List.append_assoc,<- List.append_assoc,<- List.append_assoc,<- List.append_assoc];exact rF D _ _ _ (by simp [Lk.aA,lg]; omega) hD
 refine ⟨?_,?_,?_,L⟩
 ·unfold fq;rw [nt,nf,nd,q1,q2,q3,q4,q8,w1,w2,w3]
 ·unfold Full;rw [L,nt,nf,nd]
 ·rw [E];rfl
end Im
namespace Ln
def cn (st:Nat->Bool):Nat->Nat
 | 0=>0
 | n+1=>cn st n+if st n then 1 else 0
theorem Bg (m:Mod) (ah:Int) (st:Nat->Bool) (b:Int):∀ (ws:List Int) (i:Nat),(∀ n,n < ws.length->∀ a,stays m ah (4 * ((i+n:Nat):Int)) a=st (i+n)) ->
  (∀ n,n<=ws.length->(aQ m ah i ws (b+4 * (cn st i:Int))).getD n 0=b+4 * (cn st (i+n):Int))/\(aQ m ah i ws (b+4 * (cn st i:Int))).length=ws.length+1/\dP m ah i ws (b+4 * (cn st i:Int))=b+4 * (cn st (i+ws.length):Int):=by
 intro ws
 induction ws with
 | nil =>
  intro i _;refine ⟨fun n hn=>?_,rfl,rfl⟩;obtain rfl:n=0:=by simpa using hn
  rfl
 | cons w ws ih =>
  intro i h;have h0:=h 0 (by simp);have e:(if stays m ah (4 * (i:Int)) (b+4 * (cn st i:Int)) then b+4 * (cn st i:Int)+4 else b+4 * (cn st i:Int))=b+4 * (cn st (i+1):Int):=by
   have:=h0 (b+4 * (cn st i:Int))
   rw [Nat.add_zero] at this;rw [this];have c:cn st (i+1)=cn st i+if st i then 1 else 0:=rfl
   rw [c]
   cases st i <;> simp <;> omega
  have q:=ih (i+1) (fun n hn a=>by
   have:=h (n+1) (by simpa using hn) a
   rw [show i+(n+1)=i+1+n by omega] at this;exact this)
  have p1:aQ m ah i (w :: ws) (b+4 * (cn st i:Int))=(b+4 * (cn st i:Int)) :: aQ m ah (i+1) ws (b+4 * (cn st (i+1):Int)):=by rw [<- e]; rfl
  have p2:dP m ah i (w :: ws) (b+4 * (cn st i:Int))=dP m ah (i+1) ws (b+4 * (cn st (i+1):Int)):=by rw [<- e]; rfl
  rw [p1,p2];refine ⟨fun n hn=>?_,?_,?_⟩
  ·cases n with
   | zero=>rfl
   | succ n =>
    have:=q.1 n (by simpa using hn)
    rw [show i+(n+1)=i+1+n by omega];exact this
  ·rw [iV,q.2.1,iV]
  ·rw [q.2.2,iV,show i+(ws.length+1)=i+1+ws.length by omega]
theorem zD (st:Nat->Bool) (i n:Nat):cn st i<=cn st (i+n):=by
 induction n with
 | zero=>exact Nat.le_refl _
 | succ n ih =>
  have c:cn st (i+(n+1))=cn st (i+n)+if st (i+n) then 1 else 0:=rfl
  omega
theorem vO (ms:List Mod) (m:Mod) (ah:Int) (st:Nat->Bool) (b:Int):∀ (ws:List Int) (i:Nat),(∀ n,n<=ws.length->address m ah (4 * ((i+n:Nat):Int))=b+4 * (cn st (i+n):Int)) ->
  (aI ms m ah i ws).length=cn st (i+ws.length) - cn st i/\∀ n (hn:n < ws.length),st (i+n)=true->(aI ms m ah i ws)[cn st (i+n) - cn st i]?=some (linked ms m ah (4 * ((i+n:Nat):Int)) ws[n]):=by
 intro ws
 induction ws with
 | nil=>intro i _; exact ⟨by simp [aI],fun n hn=>by simp at hn⟩
 | cons w ws ih =>
  intro i h;have h0:=h 0 (by simp);have h1:=h 1 (by simp);rw [Nat.add_zero] at h0;have q:=ih (i+1) (fun n hn=>by
   have:=h (n+1) (by simpa using hn)
   rw [show i+(n+1)=i+1+n by omega] at this;exact this)
  have c:cn st (i+1)=cn st i+if st i then 1 else 0:=rfl
  have e4:4 * (i:Int)+4=4 * ((i+1:Nat):Int):=by omega
  have mo:=zD st (i+1) ws.length;have il:i+(w :: ws).length=i+1+ws.length:=by rw [iV]; omega
  by_cases s:st i=true
  ·rw [s,if_pos rfl] at c;have a:aI ms m ah i (w :: ws)=linked ms m ah (4 * (i:Int)) w :: aI ms m ah (i+1) ws:=by
    show (if address m ah (4 * (i:Int)) < address m ah (4 * (i:Int)+4) then _ else _)=_;rw [if_pos];rw [e4,h0,h1,c];omega
   rw [a];refine ⟨?_,fun n hn hs=>?_⟩
   ·rw [iV,q.1,il];omega
   ·cases n with
    | zero =>
     have z:cn st (i+0) - cn st i=0:=Nat.sub_self _;rw [z];rfl
    | succ n =>
     have m2:=zD st (i+1) n
     have:=q.2 n (by simpa using hn) (by rw [show i+1+n=i+(n+1) by omega]; exact hs)
     rw [show i+(n+1)=i+1+n by omega,show cn st (i+1+n) - cn st i=(cn st (i+1+n) - cn st (i+1))+1 by omega,bN,this];rfl
  ·rw [if_neg s] at c;have a:aI ms m ah i (w :: ws)=aI ms m ah (i+1) ws:=by
    show (if address m ah (4 * (i:Int)) < address m ah (4 * (i:Int)+4) then _ else _)=_;rw [if_neg];rw [e4,h0,h1,c];omega
   rw [a];refine ⟨?_,fun n hn hs=>?_⟩
   ·rw [q.1,il];omega
   ·cases n with
    | zero=>exact absurd hs s
    | succ n =>
     have:=q.2 n (by simpa using hn) (by rw [show i+1+n=i+(n+1) by omega]; exact hs)
     rw [show i+(n+1)=i+1+n by omega,show cn st (i+1+n) - cn st i=cn st (i+1+n) - cn st (i+1) by omega,this];rfl
theorem rz (ps:List Int) (n:Nat):placeOf ps (4 * (n:Int))=ps.getD n 0:=by
 have e:Int.tdiv (4 * (n:Int)) 4=n:=by rw [Int.tdiv_eq_ediv_of_nonneg (by omega)]; omega
 unfold placeOf;rw [e,if_neg (by omega)];rfl
theorem oF (a:Int) (h0:0<=a) (h1:a<=1125899906842624) (h4:a % 4=0):rup a 4=a:=by
 rw [yoK a 4 h0 h1 (.inl rfl)];omega
end Ln
namespace Ca
end Ca
namespace Ca
theorem oQ (n:Nat):Ln.cn (fun _=>true) n=n:=by
 induction n with
 | zero=>rfl
 | succ n ih=>unfold Ln.cn; rw [ih]; rfl
theorem pQ {o:Lk.Obj} (h:o.align=[2,2,2,2]) (n:Nat) (hn:1<=n/\n<=4):Ln.aG o n=4:=by
 unfold Ln.aG;rw [h];rcases (show n=1\/n=2\/n=3\/n=4 by omega) with rfl | rfl | rfl | rfl <;> rfl
end Ca
namespace Ca
section
variable {k:Nat} {F:Int} {s:List Bool} {A B:Ln.Mod}
end
end Ca
namespace Ca
end Ca
namespace Sy
end Sy
namespace Su
end Su
namespace Ca
section
variable {k:Nat} {F:Int} {s:List Bool} {A B:Ln.Mod} {T:List Int}
end
end Ca
end Go.Proofs.YtpgklkhgfcjceaaGreatDoor
