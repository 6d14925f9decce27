
import Derived.Test.YtpgklkhgfcjceaaGreatDoorV25
set_option maxHeartbeats 16000000
set_option maxRecDepth 100000
namespace Go.Proofs.YtpgklkhgfcjceaaGreatDoor
open Go.RowKit
theorem yjU (x g:Nat) (m:Im.dZ) (ai:Option Addr) (ci:Nat) (ins:List Int) (fuel:Int) (w:World) (hx:w.cell? ⟨x,0,none⟩=some (.pointer (some ⟨g,0,none⟩))) (hI:mQ w g m) (hT:Im.jF m) (hD:∀ i,0<=m.D.getD i 0/\m.D.getD i 0 < 4294967296) (hW:Im.uP m) (hin:yy w ai ins) (ht:dQ w) :
  Calls Tryz.prog 25 #[.pointer (some ⟨x,0,none⟩),.slice ai ins.length ci,.int .i64 fuel] w fun e w'=>Zb w m ins fuel e w'/\w.grownBy w' none:=by
 have G0:=hid (aJ w (.cells mO 37) none);have R0:=hid (yc.new w mO 37);have hsz:(w.alloc (.cells mO 37)).heap.size=w.heap.size+1:=Array.size_push _;have SZ:=hid hsz;have c0:=yd hx G0.o;have cR:=hid (yoj g m ai ci ins fuel (w.alloc (.cells mO 37)) (hI.kept G0.o) hT hD hW (hin.kept (fun a v e=>yd e G0.o)) (ht.grown G0.o));unfold mO at G0 R0 c0 cR SZ;clear hx hI hin ht hsz;go_enter Tryz.func25,Tryz.ntmps25;go_wp2_with fail;refine cR.o.mono ?_;rintro e V ⟨ht,hg⟩;have G1:=hid (ya G0.o hg);have RV:=hid (R0.o.grown hg (by simp));have x0:=RV.o.cell 0;have x1:=RV.o.cell 1;have x2:=RV.o.cell 2;have x3:=RV.o.cell 3
 have x4:=RV.o.cell 4;simp only [bI,bN,bK] at x0 x1 x2 x3 x4;have y0:=RV.o.free 0;have y1:=RV.o.free 1;have y2:=RV.o.free 2;have y3:=RV.o.free 3;have y4:=RV.o.free 4;clear hg cR c0;rcases ht with ⟨h1,rfl⟩ | ⟨h1,h2,rfl⟩ | ⟨h1,h2,h3,vo,rfl,ho⟩
 ·have H1:=hid h1;clear h1;unfold mP;go_wp2;have RF:=Nw (w:=w) (.int .i64 0) (.int .i64 0) (.slice none 0 0) (.int .i64 0) (.int .i64 0) RV.o (Nat.le_refl _) G1.o (World.ownsRow_nil V 0 3 1) (by simp [Value.ownBlock]);have h0:=RF.1.cell 0;have h1:=RF.1.cell 1;have h2:=RF.1.cell 2;have h3:=RF.1.cell 3;have h4:=RF.1.cell 4;simp only [bI,bN,bK] at h0 h1 h2 h3 h4;refine bodyPost_ret (v:=.tuple #[mP,.int .i64 40]) ?_ rfl ⟨.inl ⟨H1.o,rfl⟩,RF.2.1⟩;clear RF x0 x1 x2 x3 x4 y0 y1 y2 y3 y4;generalize World.setCell _ _ _=WF at *;simp [results,Tryz.results25,go_sem,mP,h0,h1,h2,h3,h4]
 ·have H1:=hid h1;have H2:=hid h2;clear h1 h2;unfold mP;go_wp2;have RF:=Nw (w:=w) (.int .i64 0) (.int .i64 0) (.slice none 0 0) (.int .i64 0) (.int .i64 0) RV.o (Nat.le_refl _) G1.o (World.ownsRow_nil V 0 3 1) (by simp [Value.ownBlock]);have h0:=RF.1.cell 0;have h1:=RF.1.cell 1;have h2:=RF.1.cell 2;have h3:=RF.1.cell 3;have h4:=RF.1.cell 4;simp only [bI,bN,bK] at h0 h1 h2 h3 h4;refine bodyPost_ret (v:=.tuple #[mP,.int .i64 41]) ?_ rfl ⟨.inr (.inl ⟨H1.o,H2.o,rfl⟩),RF.2.1⟩;clear RF x0 x1 x2 x3 x4 y0 y1 y2 y3 y4;generalize World.setCell _ _ _=WF at *;simp [results,Tryz.results25,go_sem,mP,h0,h1,h2,h3,h4]
 ·have H1:=hid (And.intro h1 (And.intro h2 h3));clear h1 h2 h3;obtain ⟨ao,co,rfl⟩:=yi ho;have HO:=hid ho;clear ho;go_wp2;have RF:=Nw (w:=w) (.int .i64 (Mc.run m ins fuel.toNat).fM) (.int .i64 (Mc.run m ins fuel.toNat).code) (.slice ao (Mc.run m ins fuel.toNat).o.length co) (.int .i64 (Mc.run m ins fuel.toNat).steps) (.int .i64 (Mc.run m ins fuel.toNat).read) RV.o (Nat.le_refl _) G1.o HO.o (fun j e=>by have:=(HO.o.lt j e).1; have:=SZ.o; omega);have h0:=RF.1.cell 0;have h1:=RF.1.cell 1;have h2:=RF.1.cell 2;have h3:=RF.1.cell 3;have h4:=RF.1.cell 4;simp only [bI,bN,bK] at h0 h1 h2 h3 h4;refine bodyPost_ret (v:=.tuple #[.agg #[.int .i64 (Mc.run m ins fuel.toNat).fM,.int .i64 (Mc.run m ins fuel.toNat).code,.slice ao (Mc.run m ins fuel.toNat).o.length co,.int .i64 (Mc.run m ins fuel.toNat).steps,.int .i64 (Mc.run m ins fuel.toNat).read],.int .i64 0]) ?_ rfl ⟨.inr (.inr ⟨H1.o.1,H1.o.2.1,H1.o.2.2,_,rfl,yX RF.2.2 (Nat.le_trans (Nat.le_succ _) (Nat.le_of_eq SZ.o.symm))⟩),RF.2.1⟩
  clear RF x0 x1 x2 x3 x4 y0 y1 y2 y3 y4;generalize World.setCell _ _ _=WF at *;simp [results,Tryz.results25,go_sem,h0,h1,h2,h3,h4]
instance (m:Im.dZ):Decidable (Im.lG m):=by unfold Im.lG Im.Base Im.kJ Im.In; infer_instance
instance (l:List UInt8):Decidable (Im.lH l):=by unfold Im.lH Im.Full; infer_instance
def DJ (os:List Lk.Obj) (bt bf bd:Int) (ins:List Int) (out:List Int) (code:Int):Prop :=
 Qn (Ln.gJ os bt bf bd).2 0 0 []/\Im.lH (Ln.gJ os bt bf bd).1/\(Mc.run (Im.fA (Ln.gJ os bt bf bd).1) ins 5000).fM=1/\(Mc.run (Im.fA (Ln.gJ os bt bf bd).1) ins 5000).code=code/\(Mc.run (Im.fA (Ln.gJ os bt bf bd).1) ins 5000).o=out
instance (os:List Lk.Obj) (bt bf bd:Int) (ins:List Int) (out:List Int) (code:Int):Decidable (DJ os bt bf bd ins out code):=by unfold DJ; infer_instance
namespace Bd
def head:List UInt8:=[46,103,108,111,98,108,32,95,115,116,97,114,116,10,95,115,116,97,114,116,58,32,108,105,32,120,49,48,44,48,10]
def call:List UInt8:=[99,97,108,108,32,102,10]
def aI:List UInt8:=[46,97,108,105,103,110,32,51,10,97,100,100,105,32,120,49,48,44,120,49,48,44,49,48,48,10]
def over:List UInt8:=[106,32,111,118,101,114,10,46,97,108,105,103,110,32,52,10,111,118,101,114,58,32,108,97,32,120,49,49,44,111,118,101,114,10,97,110,100,105,32,120,49,49,44,120,49,49,44,49,53,10,97,100,100,32,120,49,48,44,120,49,48,44,120,49,49,10]
def finish:List UInt8:=[108,105,32,120,49,55,44,49,10,101,99,97,108,108,10,108,105,32,120,49,48,44,48,10,108,105,32,120,49,55,44,48,10,101,99,97,108,108,10]
def far:List UInt8:=[46,102,97,114,10]
def text (j:Nat):Nat->List UInt8
 | 0=>head
 | i+1=>if i % 4=j then text j i ++ call ++ aI else text j i ++ call
def main (k j:Nat) (f:Bool):List UInt8:=if f then far ++ (text j k ++ over) ++ finish else (text j k ++ over) ++ finish
def want (j k:Nat):Nat->Int
 | 0=>k
 | i+1=>if i % 4=j then want j k i+100 else want j k i
def one:List UInt8:=[110,111,112,10,46,102,97,114,10,110,111,112,10]
def three:List UInt8:=[102,58,32,97,100,100,105,32,120,49,48,44,120,49,48,44,49,10,114,101,116,10,46,103,108,111,98,108,32,102,10]
end Bd
def yrP (t:List UInt8):Bool:=decide ((As.assemble t).1.1=0) && Ur (As.assemble t).2
def ZJ (k j:Nat) (f:Bool):Prop:=yrP (Bd.main k j f)=true/\DJ (Ln.bQ [(false,[(As.assemble Bd.one).2]),(false,[(As.assemble (Bd.main k j f)).2]),(false,[(As.assemble Bd.three).2])]) 4096 65536 131072 [] [Bd.want j k k] 0
instance (k j:Nat) (f:Bool):Decidable (ZJ k j f):=by unfold ZJ; infer_instance
namespace Ar
def uD (k:Nat):List UInt8:=[UInt8.ofNat (48+k)]
def Sg (k:Nat):List UInt8:=[102] ++ uD k
def text (n k:Nat):List UInt8 :=
 [46,103,108,111,98,108,32] ++ Sg k ++ [10] ++ Sg k ++ [58,32,97,100,100,105,32,120,49,48,44,120,49,48,44] ++ uD (k+1) ++ [10] ++ (if k+1 < n then [116,97,105,108,32] ++ Sg (k+1) ++ [10] else [114,101,116,10])
def last:List UInt8:=[46,103,108,111,98,108,32,111,116,104,101,114,10,46,103,108,111,98,108,32,95,115,116,97,114,116,10,95,115,116,97,114,116,58,10,111,116,104,101,114,58,32,108,105,32,120,49,55,44,48,10,101,99,97,108,108,10]
def main:List UInt8:=[46,103,108,111,98,108,32,95,115,116,97,114,116,10,95,115,116,97,114,116,58,32,108,105,32,120,49,48,44,48,10,99,97,108,108,32,102,48,10,108,105,32,120,49,55,44,49,10,101,99,97,108,108,10,108,105,32,120,49,48,44,48,10,108,105,32,120,49,55,44,48,10,101,99,97,108,108,10]
def texts (n:Nat):List (List UInt8):=(List.range n).map (text n) ++ [last]
def objs (n t:Nat):List Lk.Obj:=(List.range (n+1)).map fun k=>(As.assemble ((texts n).getD ((k+t) % (n+1)) [])).2
def lg:Lk.Obj:=(As.assemble main).2
end Ar
def ZI (n t:Nat):Prop:=DJ (Ln.bQ [(false,[Ar.lg]),(true,Ar.objs n t)]) 4096 65536 131072 [] [((n * (n+1) / 2:Nat):Int)] 0/\Um (Ln.bQ [(true,Ar.objs n t),(false,[Ar.lg])]) 4096 65536 131072 34 0 [102,48]
instance (n t:Nat):Decidable (ZI n t):=by unfold ZI; infer_instance
theorem ylA (ao bo:Option Addr) (ca cb:Nat) (xs:List Int) (w:World) (ha:yy w ao xs) (hb:yy w bo xs) (hl:xs.length<=65535) :
  Calls Tryz.prog 26 #[.slice ao xs.length ca,.slice bo xs.length cb] w fun e w'=>e = .returned (.bool true)/\w.grownBy w' none:=by
 have HA:=hid ha;have HB:=hid hb;clear ha hb;go_enter Tryz.func26,Tryz.ntmps26;go_wp2
 go_loopw [5] (fun i wr=>∃ k:Nat,k<=xs.length/\i = .int .i64 k/\w.grownBy wr none) (fun i _=>xs.length - (intOf i).toNat)
 case atStart=>exact ⟨0,Nat.zero_le _,rfl,World.grownBy.refl _ _⟩
 case round =>
  obtain ⟨k,hk,rfl,hgr⟩:=hrel;have G:=hid hgr;clear hgr;by_cases hlt:k < xs.length
  ·have g1:(k:Int) < (xs.length:Int):=by omega
   obtain ⟨ga,oa,rfl,hca⟩:=HA.o (by omega);obtain ⟨gb,ob,rfl,hcb⟩:=HB.o (by omega);have c1:=yd (hca k hlt) G.o;have c2:=yd (hcb k hlt) G.o;generalize xs[k]=x at *;have d1:(x == x)=true:=by simp
   have d2:(x != x)=false:=by simp
   clear hca hcb;go_wp2
   go_quiet (fail)
   go_wp2
   go_roundw
   case rel=>exact ⟨k+1,by omega,by go_num,yf G.o _⟩
   case measure=>simp [intOf]; omega
  ·obtain rfl:k=xs.length:=by omega
   have g3:decide ((xs.length:Int) < (xs.length:Int))=false:=by simp
   go_wp2;go_ret;exact ⟨rfl,G.o⟩
theorem YG (R:Nat) (ao bo:Option Addr) (ca cb:Nat) (xs:List Int) (code st rd:Int) (w:World) (hR:yc w R #[.int .i64 1,.int .i64 code,.slice ao xs.length ca,.int .i64 st,.int .i64 rd] 37) (ha:yy w ao xs) (hb:yy w bo xs) (hl:xs.length<=65535) :
  Calls Tryz.prog 19 #[.pointer (some ⟨R,0,none⟩),.slice bo xs.length cb,.int .i64 code] w fun e w'=>e = .returned (.bool true)/\w.grownBy w' none:=by
 have HR:=hid hR;have c0:w.cell? ⟨R,0,none⟩=some (.int .i64 1):=hR.cell 0;have c1:w.cell? ⟨R,1,none⟩=some (.int .i64 code):=hR.cell 1;have c2:w.cell? ⟨R,2,none⟩=some (.slice ao xs.length ca):=hR.cell 2;have cS:=hid (fun W (hg:w.grownBy W none)=>ylA ao bo ca cb xs W (ha.kept (fun a v e=>yd e hg)) (hb.kept (fun a v e=>yd e hg)) hl);clear ha hb hR;go_enter Tryz.func19,Tryz.ntmps19;go_wp2_with fail;refine (cS.o _ (World.grownBy.refl _ _)).mono ?_;rintro e V ⟨rfl,hg⟩;have G:=hid hg;have b0:=yd c0 hg;have b1:=yd c1 hg;have d1:(code == code)=true:=by simp
 clear hg cS c0 c1 c2;go_wp2;go_ret;exact ⟨rfl,G.o⟩
theorem YM {W:World} {X:Nat} {t:TypeId} (xs:List Int) (h:yc W X (xs.map (Value.int .i64)).toArray t):yy W (some ⟨X,0,none⟩) xs:=fun _=>⟨X,0,rfl,fun i hi=>by
 rw [Nat.zero_add,h.cell i,bI,List.getElem?_map,j3 hi];rfl⟩
theorem Ns (l:List UInt8) (p:Nat):0<=dR l p 4/\dR l p 4 < 4294967296:=by have:=TQ l p 4; simpa using this
theorem ynU (l:List UInt8):Im.jF (Im.fA l):=by
 have h:=Im.Ju l;have h2:=Im.jM l 24;refine ⟨Ns l 2,Ns l 6,Ns l 10,Ns l 14,⟨?_,?_,?_⟩,?_⟩
 ·simp only [Im.fA,Im.gX]; omega
 ·simp only [Im.fA,Im.gX]; omega
 ·simp only [Im.fA,Im.gX]; omega
 ·simp only [Im.fA]; omega
theorem T9 (l:List UInt8) (p n i:Nat):0<=(Im.words l p n).getD i 0/\(Im.words l p n).getD i 0 < 4294967296:=by
 rw [lC];by_cases h:i < (Im.words l p n).length
 ·rw [j3 h];have hm:(Im.words l p n)[i]∈(List.range n).map (fun i=>dR l (p+4 * i) 4):=iq h;obtain ⟨j,-,hj⟩:=List.mem_map.1 hm;rw [Option.getD_some,<- hj];exact Ns l _
 ·rw [List.getElem?_eq_none (by omega)];decide
theorem YN (bt bf bd:Int) (af:Option Addr) (cf:Nat) (fs:List (List UInt8)) (xs:List (Bool×List Lk.Obj)) (ai:Option Addr) (ci:Nat) (ins:List Int) (out:List Int) (code:Int) (w:World) (hin:AQ w af fs) (hsz:∀ f∈fs,f.length<=1048576) (hii:yy w ai ins) (hil:ins.length<=16) (ht:dQ w) (h1:1<=fs.length) (h8:fs.length<=8) (hb:Im.Base bt/\Im.Base bf/\Im.Base bd) (hf:K9 fs xs) (hr:DJ (Ln.bQ xs) bt bf bd ins out code) (hlen:(Ln.gJ (Ln.bQ xs) bt bf bd).1.length<=1048576) :
  Calls Tryz.prog 18 #[.slice af fs.length cf,.agg #[.int .i64 bt,.int .i64 bf,.int .i64 bd],.slice ai ins.length ci] w fun e w'=>(∃ (ao:Option Addr) (ca:Nat) (st:Int),e = .returned (.tuple #[.agg #[.int .i64 1,.int .i64 code,.slice ao out.length ca,.int .i64 st,.int .i64 (Mc.run (Im.fA (Ln.gJ (Ln.bQ xs) bt bf bd).1) ins 5000).read],.int .i64 ((Ln.gJ (Ln.bQ xs) bt bf bd).1.length:Nat),.bool true])/\∃ B,w'.ownsRow B 3 1 (.slice ao out.length ca) out.length (out.map (Value.int .i64)))/\w.grownBy w' none:=by
 have HT:=hid ht;have HI:=hid hin;have HII:=hid hii;have cL:=hid (fun W (hg:w.grownBy W none)=>ynW bt bf bd af cf fs W (HI.o.kept hg) hsz (HT.o.grown hg) (by omega));have LF:=hid (fun e (h:J2 bt bf bd fs e)=>ymQ h hb h1 h8 hf);obtain ⟨hr0,hr1,hr2,hr3,hr4⟩:=hr;have EQ:Ln.gJ (Ln.bQ xs) bt bf bd=((Ln.gJ (Ln.bQ xs) bt bf bd).1,⟨0,0,[]⟩):=by
  obtain ⟨q1,q2,q3⟩:=hr0;generalize Ln.gJ (Ln.bQ xs) bt bf bd=q at *;obtain ⟨tb,f⟩:=q;obtain ⟨x,y,z⟩:=f;simp only at q1 q2 q3;rw [q1,q2,q3]
 have EF:(Ln.gJ (Ln.bQ xs) bt bf bd).2=⟨0,0,[]⟩:=by rw [EQ]
 rw [EF] at LF;generalize (Ln.gJ (Ln.bQ xs) bt bf bd).1=tb at *;have HR1:=hid hr1;have Vs:=hid (And.intro hr2 (And.intro hr3 hr4));have tsz:(bs tb).size=tb.length:=zh tb;have Wj:=hid (fun W=>ynT (bs tb) W (by omega));have SB:=Gx tb;clear hin ht EF EQ hr0 hr1 hr2 hr3 hr4 hii hf;have hs1:(w.alloc (.cells #[.int .i64 bt,.int .i64 bf,.int .i64 bd] 33)).heap.size=w.heap.size+1:=Array.size_push _;have A1:=aJ (w.alloc (.cells #[.int .i64 bt,.int .i64 bf,.int .i64 bd] 33)) (.cells #[.int .i64 0,.int .i64 0,.slice none 0 0,.int .i64 0,.int .i64 0] 37) none;have G1:=hid (ya (aJ w (.cells #[.int .i64 bt,.int .i64 bf,.int .i64 bd] 33) none) A1)
 have BR:=hid (yc.new (w.alloc (.cells #[.int .i64 bt,.int .i64 bf,.int .i64 bd] 33)) #[.int .i64 0,.int .i64 0,.slice none 0 0,.int .i64 0,.int .i64 0] 37);rw [hs1] at BR;clear A1 hs1;go_enter Tryz.func18,Tryz.ntmps18;go_wp2_with fail;generalize (w.alloc (.cells #[.int .i64 bt,.int .i64 bf,.int .i64 bd] 33)).alloc (.cells #[.int .i64 0,.int .i64 0,.slice none 0 0,.int .i64 0,.int .i64 0] 37)=W1 at *;have GY:w.heap.size<=w.heap.size+1:=by omega
 generalize w.heap.size+1=R at *;refine (cL.o _ G1.o).mono ?_;rintro e V1 ⟨hret,h2⟩;obtain rfl:=LF.o e hret;have A2:=aJ V1 (.cells #[.int .i64 0,.int .i64 0,.string (bs [])] 45) none;have G2:=hid (ya (ya G1.o h2) A2);have vV:=hid (BR.o.grown (ya h2 A2) (by simp));clear hret h2 A2 cL LF BR G1;unfold fQ;dsimp only;go_wp2_with fail;generalize V1.alloc (.cells #[.int .i64 0,.int .i64 0,.string (bs [])] 45)=V2 at *;refine (Wj.o _).mono ?_;rintro e V3 ⟨hld,h3⟩;have G3:=hid (ya G2.o h3);have uz:=hid (vV.o.grown h3 (by simp));clear h3 Wj vV G2;unfold ZL at hld;rw [SB] at hld;rcases hld with ⟨-,x,rfl,g,hx,hI⟩ | ⟨hno,-⟩
 case inr=>exact (hno HR1.o).elim
 have cR:=hid (yjU x g (Im.fA tb) ai ci ins 5000 V3 (hx.cell 0) hI (ynU tb) (fun i=>T9 _ _ _ i) ⟨fun i=>T9 _ _ _ i,fun i=>T9 _ _ _ i⟩ (HII.o.kept (fun a v e=>yd e G3.o)) (HT.o.grown G3.o));clear hx hI HR1 SB;go_wp2_with fail;refine cR.o.mono ?_;rintro e V4 ⟨hrt,h4⟩;rcases hrt with ⟨h,-⟩ | ⟨-,h,-⟩ | ⟨-,-,-,vo,rfl,ho⟩
 case inl=>omega
 case inr.inl=>omega
 have E5:(5000:Int).toNat=5000:=rfl;rw [E5] at ho ⊢;have LD:=Vs.o;generalize hs:Mc.run (Im.fA tb) ins 5000=s at *;have HS:=hid hs;clear hs;obtain ⟨m1,m2,m3,m4,m5,m6,m7,m8,m9⟩:=s;simp only at LD ho ⊢;obtain ⟨q1,q2,q3⟩:=LD;subst q1 q2 q3;obtain ⟨ao,ca,rfl⟩:=yi ho;have A5:=aJ V4 (.cells #[.int .i64 1,.int .i64 m6,.slice ao m7.length ca,.int .i64 m8,.int .i64 m9] 37) none;have G5:=hid (ya (ya G3.o h4) A5);have wC:=hid (uz.o.grown (ya h4 A5) (by simp));have BX:=hid (yc.new V4 #[.int .i64 1,.int .i64 m6,.slice ao m7.length ca,.int .i64 m8,.int .i64 m9] 37);have HO:=hid (ho.kept A5 (Decidable.em _));have hne:R≠V4.heap.size:=by have:=uz.o.lt; have:=h4.size; omega
 clear h4 ho A5 cR uz G3 Vs;have z0:(V4.alloc (.cells #[.int .i64 1,.int .i64 m6,.slice ao m7.length ca,.int .i64 m8,.int .i64 m9] 37)).cell? ⟨R,0,none⟩=some (.int .i64 0):=wC.o.cell 0;have z1:(V4.alloc (.cells #[.int .i64 1,.int .i64 m6,.slice ao m7.length ca,.int .i64 m8,.int .i64 m9] 37)).cell? ⟨R,1,none⟩=some (.int .i64 0):=wC.o.cell 1;have z2:(V4.alloc (.cells #[.int .i64 1,.int .i64 m6,.slice ao m7.length ca,.int .i64 m8,.int .i64 m9] 37)).cell? ⟨R,2,none⟩=some (.slice none 0 0):=wC.o.cell 2;have z3:(V4.alloc (.cells #[.int .i64 1,.int .i64 m6,.slice ao m7.length ca,.int .i64 m8,.int .i64 m9] 37)).cell? ⟨R,3,none⟩=some (.int .i64 0):=wC.o.cell 3
 have z4:(V4.alloc (.cells #[.int .i64 1,.int .i64 m6,.slice ao m7.length ca,.int .i64 m8,.int .i64 m9] 37)).cell? ⟨R,4,none⟩=some (.int .i64 0):=wC.o.cell 4;have f0:=wC.o.free 0;have f1:=wC.o.free 1;have f2:=wC.o.free 2;have f3:=wC.o.free 3;have f4:=wC.o.free 4;go_wp2;have GS:=World.grownBy.trans (World.grownBy.trans (World.grownBy.trans (World.grownBy.trans (ye (V4.alloc (.cells #[.int .i64 1,.int .i64 m6,.slice ao m7.length ca,.int .i64 m8,.int .i64 m9] 37)) R 0 (.int .i64 1)) (ye _ R 1 (.int .i64 m6))) (ye _ R 2 (.slice ao m7.length ca))) (ye _ R 3 (.int .i64 m8))) (ye _ R 4 (.int .i64 m9))
 have OI:=yA HO.o GS (bR.blk wC.o) (by decide);have F:=((((wC.o.set 0 (.int .i64 1)).set 1 (.int .i64 m6)).set 2 (.slice ao m7.length ca)).set 3 (.int .i64 m8)).set 4 (.int .i64 m9);have h0:=F.cell 0;have h1:=F.cell 1;have h2:=F.cell 2;have h3:=F.cell 3;have h4:=F.cell 4;simp only [gu,fZ,gq,bI,bN,bK] at h0 h1 h2 h3 h4;refine bodyPost_ret (v:=.tuple #[.agg #[.int .i64 1,.int .i64 m6,.slice ao m7.length ca,.int .i64 m8,.int .i64 m9],.int .i64 (tb.length:Nat),.bool true]) ?_ rfl ⟨⟨ao,ca,m8,by rw [HS.o],_,OI⟩,Nh G5.o _ GY _ _ _ _ _⟩;clear F z0 z1 z2 z3 z4 f0 f1 f2 f3 f4 OI GS;generalize World.setCell _ _ _=WF at *
 simp [results,Tryz.results18,go_sem,h0,h1,h2,h3,h4]
theorem ZH (W:World) (x:Int):(convert 42 9 (.slice (some ⟨W.heap.size,0,none⟩) 1 1)).run Tryz.prog (W.alloc (.cells #[.int .u8 x] 5)) = .ok (.string (strOfNums [x])) (W.alloc (.cells #[.int .u8 x] 5)) :=
 run_convert_bytes_arg (P:=Tryz.prog) _ 42 5 Tryz.underlying42 Tryz.underlying5 W.heap.size 0 1 1 [x] rfl (fun i hi=>by
  have e:i=0:=by omega
  subst e;exact (yc.new W #[.int .u8 x] 5).cell 0) 9 Tryz.underlying9
theorem Ud (k:Nat) (hk:k < 10):strOfNums [48+(k:Int)]=bs (Ar.uD k):=by
 rcases (show k=0\/k=1\/k=2\/k=3\/k=4\/k=5\/k=6\/k=7\/k=8\/k=9 by omega) with rfl | rfl | rfl | rfl | rfl | rfl | rfl | rfl | rfl | rfl <;> rfl
theorem Zn (k:Nat) (w:World) (hk:k < 10) :
  Calls Tryz.prog 14 #[.int .i64 k] w fun e w'=>e = .returned (.string (bs (Ar.uD k)))/\w.grownBy w' none:=by
 have d0:decide ((k:Int) < 0)=false:=by simp
 have d1:decide ((k:Int) < 10)=true:=by simp; omega
 have hcv:=ZH;have HS:=hid (Ud k hk);have A0:=hid (aJ w (.cells #[.int .u8 (48+(k:Int))] 5) none);go_enter Tryz.func14,Tryz.ntmps14;go_wp2;go_ret;exact ⟨by rw [<- HS.o]; rfl,A0.o⟩
def fP:Nat->Nat->List UInt8
 | 0,_=>[]
 | f+1,n=>if n < 10 then Ar.uD n else fP f (n / 10) ++ Ar.uD (n % 10)
theorem Tg (f:Nat):∀ n,(fP f n).length<=f:=by
 induction f with
 | zero=>intro n; simp [fP]
 | succ f ih =>
  intro n;unfold fP;split
  ·simp [Ar.uD]
  ·have:=ih (n / 10)
   simp [Ar.uD];omega
theorem ZC (a b:List UInt8):bs a ++ bs b=bs (a ++ b):=by
 apply ByteArray.ext;simp [bs]
theorem YZ (f:Nat):∀ (n:Nat) (w:World),n < 10 ^ (f+1)->n<=4294967296->f<=30 ->
  Calls Tryz.prog 14 #[.int .i64 n] w fun e w'=>e = .returned (.string (bs (fP (f+1) n)))/\w.grownBy w' none:=by
 induction f with
 | zero =>
  intro n w hn _ _;have hn':n < 10:=by simpa using hn
  have q:=Zn n w hn';unfold fP;rw [if_pos hn'];exact q
 | succ f ih =>
  intro n w hn hb hf;by_cases hlt:n < 10
  ·have q:=Zn n w hlt;unfold fP;rw [if_pos hlt];exact q
  ·have d0:decide ((n:Int) < 0)=false:=by simp
   have d1:decide ((n:Int) < 10)=false:=by simp; omega
   have d2:¬ (n:Int) < 0:=by omega
   have d3:¬ (n:Int) < 10:=by omega
   have t1:Int.tdiv (n:Int) 10=((n / 10:Nat):Int):=by rw [Int.tdiv_eq_ediv_of_nonneg (by omega)]; rfl
   have t2:Int.tmod (n:Int) 10=((n % 10:Nat):Int):=by rw [Int.tmod_eq_emod_of_nonneg (by omega)]; rfl
   have t3:(n:Int) / 10=((n / 10:Nat):Int):=rfl;have t4:(n:Int) % 10=((n % 10:Nat):Int):=rfl;have cN:=hid (ih (n / 10) w (by rw [Nat.pow_succ] at hn; omega) (by omega) (by omega));have HS:=hid (show bs (fP (f+2) n)=bs (fP (f+1) (n / 10)) ++ strOfNums [48+((n % 10:Nat):Int)] by
    rw [Ud (n % 10) (Nat.mod_lt _ (by omega)),ZC]
    conv=>lhs; unfold fP
    rw [if_neg hlt])
   have sz:(bs (fP (f+1) (n / 10))).size<=31:=by rw [zh]; have:=Tg (f+1) (n / 10); omega
   have hm:n % 10 < 10:=Nat.mod_lt _ (by omega);have sz2:(strOfNums [48+((n % 10:Nat):Int)]).size=1:=by rw [Ud (n % 10) hm,zh]; rfl
   have hcv:=ZH;have ha:n / 10<=4294967296:=by omega
   have hwa:IntKind.i64.wrap ((n / 10:Nat):Int)=((n / 10:Nat):Int):=IntWalk.i64_in _ ⟨by omega,by omega⟩;generalize n / 10=a at *;generalize n % 10=b at *;generalize bs (fP (f+2) n)=X at *;generalize bs (fP (f+1) a)=Y at *;have q1:¬ 9223372036854775807 < Y.size+(strOfNums [48+(b:Int)]).size:=by omega
   clear ih hn hb hf hlt;go_enter Tryz.func14,Tryz.ntmps14;go_wp2_with fail;refine cN.o.mono ?_;rintro e V ⟨rfl,hg⟩;have G:=hid (ya hg (aJ V (.cells #[.int .u8 (48+(b:Int))] 5) none));clear hg cN;go_wp2;go_ret;exact ⟨by rw [HS.o]; rfl,G.o⟩
theorem Dy (k:Nat) (h:k < 10):(Ar.uD k).all As.bA=true/\(Ar.uD k).length=1/\As.dec (Ar.uD k)=k:=by
 rcases (show k=0\/k=1\/k=2\/k=3\/k=4\/k=5\/k=6\/k=7\/k=8\/k=9 by omega) with rfl | rfl | rfl | rfl | rfl | rfl | rfl | rfl | rfl | rfl <;> decide
theorem yqn (a:List UInt8) (k:Nat) (h:k < 10):As.dec (a ++ Ar.uD k)=10 * As.dec a+k:=by
 have e:As.dec (a ++ Ar.uD k)=10 * As.dec a+((UInt8.ofNat (48+k)).toNat - 48):=by
  unfold As.dec Ar.uD;rw [List.foldl_append];rfl
 have f:=(Dy k h).2.2;have g:As.dec (Ar.uD k)=10 * 0+((UInt8.ofNat (48+k)).toNat - 48):=rfl;rw [e];omega
theorem ymt (f:Nat):∀ n,n < 10 ^ (f+1)->(fP (f+1) n).all As.bA=true/\1<=(fP (f+1) n).length/\As.dec (fP (f+1) n)=n:=by
 induction f with
 | zero =>
  intro n hn;have h:n < 10:=by simpa using hn
  have e:fP 1 n=Ar.uD n:=by unfold fP; rw [if_pos h]
  rw [e];have q:=Dy n h;exact ⟨q.1,by omega,q.2.2⟩
 | succ f ih =>
  intro n hn;by_cases h:n < 10
  ·have e:fP (f+2) n=Ar.uD n:=by unfold fP; rw [if_pos h]
   rw [e];have q:=Dy n h;exact ⟨q.1,by omega,q.2.2⟩
  ·have e:fP (f+2) n=fP (f+1) (n / 10) ++ Ar.uD (n % 10):=by conv=>lhs; unfold fP; rw [if_neg h]
   have q:=ih (n / 10) (by rw [Nat.pow_succ] at hn; omega);have m:n % 10 < 10:=Nat.mod_lt _ (by omega);rw [e,yqn _ _ m,q.2.2,List.all_append,q.1,(Dy _ m).1,eZ];exact ⟨rfl,by omega,by omega⟩
theorem SX (f:Nat):∀ n g,1<=g->n < 10 ^ g->(fP f n).length<=g:=by
 induction f with
 | zero=>intro n g _ _; simp [fP]
 | succ f ih =>
  intro n g hg hn;unfold fP;by_cases h:n < 10
  ·rw [if_pos h,(Dy n h).2.1]; exact hg
  ·rw [if_neg h,eZ,(Dy (n % 10) (Nat.mod_lt _ (by omega))).2.1];obtain ⟨g',rfl⟩:∃ g',g=g'+1:=⟨g - 1,by omega⟩
   have g1:1<=g':=by
    rcases Nat.eq_zero_or_pos g' with rfl | h'
    ·simp at hn; omega
    ·exact h'
   have:=ih (n / 10) g' g1 (by rw [Nat.pow_succ] at hn; omega)
   omega
theorem Uh (n:Nat) (h:n<=4294967296):At.gL (At.nm (fP 11 n) n):=by
 have q:=ymt 10 n (by omega);have l:=SX 11 n 10 (by omega) (by omega);exact .inr (.inl ⟨rfl,q.2.2.symm,q.1,q.2.1,l⟩)
namespace Op
open At
def sg (neg:Bool):List UInt8:=if neg then [45] else []
theorem BI {Ls:List (List It)} (h:∀ L∈Ls,∀ i∈L,gL i):∀ i∈join Ls,gL i:=by
 intro i hi;unfold join at hi;obtain ⟨L,hL,hi⟩:=List.mem_flatMap.1 hi;rcases List.mem_append.1 hi with hi | hi
 ·exact h L hL i hi
 ·simp at hi;subst hi
  trivial
theorem zZ (neg:Bool) (n:Nat) (h:n<=4294967296):∀ i∈Da neg (fP 11 n) n,gL i:=by
 intro i hi
 cases neg
 ·simp [Da] at hi;subst hi;exact Uh n h
 ·simp [Da] at hi;rcases hi with rfl | rfl
  ·decide
  ·exact Uh n h
theorem uR {A B:List It} (ha:∀ i∈A,gL i) (hb:∀ i∈B,gL i):∀ i∈A ++ B,gL i:=fun i hi=>by
 rcases List.mem_append.1 hi with h | h
 ·exact ha i h
 ·exact hb i h
end Op
end Go.Proofs.YtpgklkhgfcjceaaGreatDoor

namespace Go.Proofs.YtpgklkhgfcjceaaGreatDoor
namespace Sd
open At
def CY:List (List It):=[[wd 0 [46,103,108,111,98,108],wd 1 [95,115,116,97,114,116]],[wd 0 [95,115,116,97,114,116],sn 58,wd 1 [108,119],wd 1 [120,53],sn 44,wd 0 [112]],[wd 0 [108,119],wd 1 [120,49,48],sn 44,nm [48] 0,sn 40,wd 0 [120,53],sn 41],[wd 0 [108,105],wd 1 [120,49,55],sn 44,nm [49] 1],[wd 0 [101,99,97,108,108]]]
def CZ:List (List It):=[[wd 0 [108,119],wd 1 [120,53],sn 44,wd 0 [113]],[wd 0 [108,119],wd 1 [120,49,48],sn 44,nm [48] 0,sn 40,wd 0 [120,53],sn 41],[wd 0 [101,99,97,108,108]],[wd 0 [108,119],wd 1 [120,49,48],sn 44,wd 0 [122],sn 43,nm [56] 8],[wd 0 [101,99,97,108,108]]]
def C8:List (List It):=[[wd 0 [115,119],wd 1 [120,54],sn 44,wd 0 [122],sn 43,nm [56] 8,sn 44,wd 0 [120,55]],[wd 0 [108,119],wd 1 [120,49,48],sn 44,wd 0 [122],sn 43,nm [56] 8],[wd 0 [101,99,97,108,108]],[wd 0 [99,97,108,108],wd 1 [111,116,104,101,114]]]
def C9:List (List It):=[[wd 0 [108,105],wd 1 [120,49,48],sn 44,nm [48] 0],[wd 0 [108,105],wd 1 [120,49,55],sn 44,nm [48] 0],[wd 0 [101,99,97,108,108]],[wd 0 [46,100,97,116,97]]]
def Gf:List (List It):=[[wd 0 [46,119,111,114,100],.tok 1 3 [45] 0,nm [49] 1],[wd 0 [112],sn 58,wd 1 [46,119,111,114,100],wd 1 [100]],[wd 0 [113],sn 58,wd 1 [46,119,111,114,100],wd 1 [100],sn 43,nm [52] 4],[wd 0 [46,98,115,115]],[wd 0 [46,115,112,97,99,101],.tok 1 2 [52] 4],[wd 0 [46,97,108,105,103,110],.tok 1 2 [52] 4],[wd 0 [122],sn 58,wd 1 [46,115,112,97,99,101],.tok 1 2 [49,54] 16]]
def liL (ny:Bool) (y:Nat):List It:=[wd 0 [108,105],wd 1 [120,54],sn 44] ++ Da ny (fP 11 y) y
def OO (nx:Bool) (t:List UInt8) (x:Nat):List It:=[wd 0 [100],sn 58,wd 1 [46,119,111,114,100]] ++ (if nx then [.tok 1 3 [45] 0,nm t x] else [.tok 1 2 t x])
def lines (nx:Bool) (x:Nat) (ny:Bool) (y:Nat):List (List It):=CY ++ (CZ ++ (liL ny y :: (C8 ++ (C9 ++ (OO nx (fP 11 x) x :: Gf)))))
def text (nx:Bool) (x:Nat) (ny:Bool) (y:Nat):List UInt8 :=
 [46,103,108,111,98,108,32,95,115,116,97,114,116,10,95,115,116,97,114,116,58,32,108,119,32,120,53,44,112,10,108,119,32,120,49,48,44,48,40,120,53,41,10,108,105,32,120,49,55,44,49,10,101,99,97,108,108,10,108,119,32,120,53,44,113,10,108,119,32,120,49,48,44,48,40,120,53,41,10,101,99,97,108,108,10,108,119,32,120,49,48,44,122,43,56,10,101,99,97,108,108,10,108,105,32,120,54,44] ++ (Op.sg ny ++ (fP 11 y ++ ([10,115,119,32,120,54,44,122,43,56,44,120,55,10,108,119,32,120,49,48,44,122,43,56,10,101,99,97,108,108,10,99,97,108,108,32,111,116,104,101,114,10,108,105,32,120,49,48,44,48,10,108,105,32,120,49,55,44,48,10,101,99,97,108,108,10,46,100,97,116,97,10,100,58,32,46,119,111,114,100,32] ++ (Op.sg nx ++ (fP 11 x ++ [10,46,119,111,114,100,32,45,49,10,112,58,32,46,119,111,114,100,32,100,10,113,58,32,46,119,111,114,100,32,100,43,52,10,46,98,115,115,10,46,115,112,97,99,101,32,52,10,46,97,108,105,103,110,32,52,10,122,58,32,46,115,112,97,99,101,32,49,54,10])))))
theorem nA (nx:Bool) (x:Nat) (ny:Bool) (y:Nat):spells (join (lines nx x ny y))=text nx x ny y:=by
 cases nx <;> cases ny <;> kernel_rfl
theorem vv (nx:Bool) (x:Nat) (ny:Bool) (y:Nat):apart (join (lines nx x ny y))=true:=by
 cases nx <;> cases ny <;> kernel_rfl
theorem zY:∀ L∈CY ++ CZ ++ C8 ++ C9 ++ Gf,∀ i∈L,gL i:=by decide
theorem wX (nx:Bool) (x:Nat) (ny:Bool) (y:Nat) (hx:x<=4294967296) (hy:y<=4294967296):∀ i∈join (lines nx x ny y),gL i:=by
 apply Op.BI;intro L hL;unfold lines at hL;have k:=zY L;simp only [List.mem_append,List.mem_cons] at hL k;rcases hL with h | h | h | h | h | h | h
 ·exact k (.inl (.inl (.inl (.inl h))))
 ·exact k (.inl (.inl (.inl (.inr h))))
 ·subst h;exact Op.uR (by decide) (Op.zZ _ _ hy)
 ·exact k (.inl (.inl (.inr h)))
 ·exact k (.inl (.inr h))
 ·subst h;refine Op.uR (by decide) ?_;have g:=Uh x hx
  cases nx
  ·exact List.forall_mem_cons.2 ⟨g,fun i hi=>by cases hi⟩
  ·exact List.forall_mem_cons.2 ⟨by decide,List.forall_mem_cons.2 ⟨g,fun i hi=>by cases hi⟩⟩
 ·exact k (.inr h)
abbrev E (op rd au aF:Nat) (n:Int):Int:=(As.enc op rd au aF n:Nat)
def Kw:List Int:=[E 1 5 0 0 0,E 11 5 5 0 0,E 11 10 5 0 0,E 13 17 0 0 1,115,E 1 5 0 0 0,E 11 5 5 0 0,E 11 10 5 0 0,115,E 1 10 0 0 0,E 11 10 10 0 0,115]
def OL:List Int:=[E 1 7 0 0 0,E 12 0 7 6 0,E 1 10 0 0 0,E 11 10 10 0 0,115,E 2 1 0 0 0,E 4 1 1 0 0,E 13 10 0 0 0,E 13 17 0 0 0,115]
def oA:Lk.Obj:=⟨Kw,[],[],0,AL,[⟨[95,115,116,97,114,116],1,1,0⟩,⟨[112],0,0,0⟩,⟨[113],0,0,0⟩,⟨[122],0,0,0⟩],[⟨1,0,5,1,0⟩,⟨1,20,5,2,0⟩,⟨1,36,5,3,8⟩]⟩
def Si:Lk.Obj:=⟨[E 1 5 0 0 0,E 11 5 5 0 0,E 11 10 5 0 0,E 13 17 0 0 1,115],[],[],0,AL,[⟨[95,115,116,97,114,116],1,1,0⟩,⟨[112],0,0,0⟩],[⟨1,0,5,1,0⟩]⟩
def OJ (n:Nat):List Lk.Rel:=[⟨1,0,5,1,0⟩,⟨1,20,5,2,0⟩,⟨1,36,5,3,8⟩,⟨1,48+4 * (n:Int),5,3,8⟩,⟨1,56+4 * (n:Int),5,3,8⟩,⟨1,68+4 * (n:Int),4,4,0⟩]
def Sj (t:List Int):Lk.Obj:=⟨Kw ++ (t ++ [E 1 7 0 0 0,E 12 0 7 6 0,E 1 10 0 0 0,E 11 10 10 0 0,115,E 2 1 0 0 0,E 4 1 1 0 0]),[],[],0,AL,[⟨[95,115,116,97,114,116],1,1,0⟩,⟨[112],0,0,0⟩,⟨[113],0,0,0⟩,⟨[122],0,0,0⟩,⟨[111,116,104,101,114],0,0,0⟩],OJ t.length⟩
def oB (t:List Int):Lk.Obj:=⟨Kw ++ (t ++ OL),[],[],0,AL,[⟨[95,115,116,97,114,116],1,1,0⟩,⟨[112],0,0,0⟩,⟨[113],0,0,0⟩,⟨[122],0,0,0⟩,⟨[111,116,104,101,114],0,0,0⟩],OJ t.length⟩
def oW (t:List Int):Lk.Obj:=⟨Kw ++ (t ++ OL),[],[],0,AL,[⟨[95,115,116,97,114,116],1,1,0⟩,⟨[112],0,0,0⟩,⟨[113],0,0,0⟩,⟨[122],0,0,0⟩,⟨[111,116,104,101,114],0,0,0⟩,⟨[100],0,3,0⟩],OJ t.length⟩
def oX (t:List Int) (X:Int):Lk.Obj:={ oW t with data:=[X] }
def lg (t:List Int) (X:Int):Lk.Obj:=⟨Kw ++ (t ++ OL),[],[X,4294967295,0,0],8,[2,2,2,4],[⟨[95,115,116,97,114,116],1,1,0⟩,⟨[112],0,3,8⟩,⟨[113],0,3,12⟩,⟨[122],0,4,16⟩,⟨[111,116,104,101,114],1,0,0⟩,⟨[100],0,3,0⟩],OJ t.length ++ [⟨3,8,1,5,0⟩,⟨3,12,1,5,4⟩]⟩
def oC (t:List Int) (X:Int):Lk.Obj:={ lg t X with syms:=[⟨[95,115,116,97,114,116],1,1,0⟩,⟨[112],0,3,8⟩,⟨[113],0,3,12⟩,⟨[122],0,4,16⟩,⟨[111,116,104,101,114],0,0,0⟩,⟨[100],0,3,0⟩] }
def vW (t:List Int):Prop:=(∃ a,t=[a])\/∃ a b,t=[a,b]
theorem nL (r:Nat) (v:Int):vW (lq r v):=by
 unfold lq;split
 ·exact .inl ⟨_,rfl⟩
 ·exact .inr ⟨_,_,rfl⟩
theorem Ga (f:Nat->As.Tok×As.Tok×Nat):runs f CY 1 As.start.obj=some (1,Si):=by kernel_rfl
theorem Gb (f:Nat->As.Tok×As.Tok×Nat):runs f CZ 1 Si=some (1,oA):=by kernel_rfl
theorem Gc (t:List Int) (h:vW t) (f:Nat->As.Tok×As.Tok×Nat):runs f C8 1 (more oA t)=some (1,Sj t):=by
 rcases h with ⟨a,rfl⟩ | ⟨a,b,rfl⟩
 ·kernel_rfl
 ·kernel_rfl
theorem Gd (t:List Int) (h:vW t) (f:Nat->As.Tok×As.Tok×Nat):runs f C9 1 (Sj t)=some (3,oB t):=by
 rcases h with ⟨a,rfl⟩ | ⟨a,b,rfl⟩
 ·kernel_rfl
 ·kernel_rfl
theorem JA (t:List Int) (X:Int) (h:vW t) (f:Nat->As.Tok×As.Tok×Nat):runs f Gf 3 (oX t X)=some (4,oC t X):=by
 rcases h with ⟨a,rfl⟩ | ⟨a,b,rfl⟩
 ·kernel_rfl
 ·kernel_rfl
def wo (p:Int×As.St):As.St:=ended (As.lay [p.1 % 4294967296] p.2)
theorem FN (nx:Bool) (s:List UInt8) (x:Nat) (t:List Int) (h:x<=2147483647\/(nx=true/\x<=2147483648)):kD (OO nx s x) 3 (oB t) 3 (oX t (val nx x % 4294967296)):=by
 cases nx
 ·refine ⟨tC rfl,fun tok op fa=>?_⟩;have e:At.line (sJ (OO false s x)) ⟨0,tok,0,fa,op,3,oB t⟩=wo (if (x:Int) < -2147483648\/4294967295 < (x:Int) then (0,As.refuse 8 4 ⟨4,⟨2,4,s,x⟩,0,fa,⟨1,3,[46,119,111,114,100],0⟩,3,oW t⟩) else ((x:Int),⟨4,⟨4,5,[],0⟩,0,fa,⟨1,3,[46,119,111,114,100],0⟩,3,oW t⟩)):=by kernel_rfl
  rw [e,if_neg (by rcases h with h | h; omega; cases h.1)];exact ⟨by kernel_rfl,by kernel_rfl,by kernel_rfl⟩
 ·refine ⟨tC rfl,fun tok op fa=>?_⟩;have e:At.line (sJ (OO true s x)) ⟨0,tok,0,fa,op,3,oB t⟩=wo (if -(x:Int) < -2147483648\/4294967295 < -(x:Int) then (0,As.refuse 8 4 ⟨5,⟨2,5,s,x⟩,0,fa,⟨1,3,[46,119,111,114,100],0⟩,3,oW t⟩) else (-(x:Int),⟨5,⟨4,6,[],0⟩,0,fa,⟨1,3,[46,119,111,114,100],0⟩,3,oW t⟩)):=by kernel_rfl
  rw [e,if_neg (by omega)];exact ⟨by kernel_rfl,by kernel_rfl,by kernel_rfl⟩
theorem gets (nx:Bool) (x:Nat) (ny:Bool) (y:Nat) (hx:x<=2147483647\/(nx=true/\x<=2147483648)) (hy:y<=2147483647\/(ny=true/\y<=2147483648)) :
  Gets (lines nx x ny y) 1 As.start.obj 4 (oC (lq 6 (val ny y)) (val nx x % 4294967296)):=by
 have W:=nL 6 (val ny y);have L:=Jq ny (fP 11 y) y hy oA (by decide);generalize lq 6 (val ny y)=t at *;have q:=Gets.many (Ls:=Gf) (Ms:=[]) (s'':=4) (by kernel_rfl) ⟨rfl,rfl⟩ 3 (oX t (val nx x % 4294967296)) (JA t (val nx x % 4294967296) W);rw [List.append_nil] at q;have q1:=Gets.many (by kernel_rfl) (Gets.one (FN nx (fP 11 x) x t hx) q) 1 (Sj t) (Gd t W);have q2:=Gets.many (by kernel_rfl) q1 1 (more oA t) (Gc t W);exact Gets.many (by kernel_rfl) (Gets.many (by kernel_rfl) (Gets.one L q2) 1 Si Gb) 1 As.start.obj Ga
theorem Dk (nx:Bool) (x:Nat) (ny:Bool) (y:Nat) (hx:x<=4294967296) (hy:y<=4294967296):27<=(text nx x ny y).length/\(text nx x ny y).length<=1000:=by
 have a:=SX 11 x 10 (by omega) (by omega);have b:=SX 11 y 10 (by omega) (by omega);have e:∀ z,(Op.sg z).length<=1:=by decide
 have e1:=e nx;have e2:=e ny;unfold text;simp only [eZ,jm,List.length_nil];omega
theorem Cw (nx:Bool) (x:Nat) (ny:Bool) (y:Nat) (hx:x<=2147483647\/(nx=true/\x<=2147483648)) (hy:y<=2147483647\/(ny=true/\y<=2147483648)) :
  (As.assemble (text nx x ny y)).1.1=0/\(As.assemble (text nx x ny y)).2=lg (lq 6 (val ny y)) (val nx x % 4294967296):=by
 have tl:=Dk nx x ny y (by omega) (by omega);have W:=nL 6 (val ny y);have q:=qY (gets nx x ny y hx hy) (wX nx x ny y (by omega) (by omega)) (vv nx x ny y) rfl (by rw [nA]; exact tl.2) (by rw [nA]; exact tl.1);rw [nA] at q;refine ⟨q.1,q.2.trans ?_⟩;generalize lq 6 (val ny y)=t at *;rcases W with ⟨a,rfl⟩ | ⟨a,b,rfl⟩
 ·kernel_rfl
 ·kernel_rfl
end Sd
end Go.Proofs.YtpgklkhgfcjceaaGreatDoor

namespace Go.Proofs.YtpgklkhgfcjceaaGreatDoor
open Go.RowKit
namespace Im
theorem zA (a l:List UInt8) (p n:Nat):dR (a ++ l) (a.length+p) n=dR l p n:=by
 induction n generalizing p with
 | zero=>rfl
 | succ n ih =>
  have g:(a ++ l).getD (a.length+p) 0=l.getD p 0:=by rw [lC,lC,List.getElem?_append_right (by omega),Nat.add_sub_cancel_left]
  unfold dR;rw [Nat.add_assoc,ih (p+1),g]
theorem Iq (v:Int) (n:Nat) (b:List UInt8) (h0:0<=v) (h1:v < (256:Int) ^ n):dR (Lk.le v n ++ b) 0 n=v:=by
 have hl:=Lk.aC v n;rw [<- vE _ 0 n (by rw [eZ]; omega),List.drop_zero,List.take_append_of_le_length (by omega),List.take_of_length_le (by omega)];exact Lk.CG v n h0 h1
theorem kK (a b:List UInt8) (v:Int) (n p:Nat) (hp:a.length=p) (h0:0<=v) (h1:v < (256:Int) ^ n):dR (a ++ (Lk.le v n ++ b)) p n=v:=by
 have:=zA a (Lk.le v n ++ b) 0 n
 rw [Nat.add_zero,hp] at this;rw [this,Iq v n b h0 h1]
theorem kR (xs:List Int):(Lk.nums xs 4).length=4 * xs.length:=by
 induction xs with
 | nil=>rfl
 | cons x xs ih =>
  have e:Lk.nums (x :: xs) 4=Lk.le x 4 ++ Lk.nums xs 4:=rfl;rw [e,eZ,Lk.aC,ih,jm];omega
theorem qJ (xs:List Int):∀ (a b:List UInt8) (p:Nat),a.length=p->(∀ x∈xs,0<=x/\x < 4294967296)->words (a ++ (Lk.nums xs 4 ++ b)) p xs.length=xs:=by
 induction xs with
 | nil=>intro a b p _ _; rfl
 | cons x xs ih =>
  intro a b p hp hx;have e:Lk.nums (x :: xs) 4=Lk.le x 4 ++ Lk.nums xs 4:=rfl;have h:=hx x List.mem_cons_self;rw [jm,qK,e,List.append_assoc,kK a (Lk.nums xs 4 ++ b) x 4 p hp h.1 (by simpa using h.2)]
  congr 1
  have q:=ih (a ++ Lk.le x 4) b (p+4) (by rw [eZ,Lk.aC,hp]) (fun y hy=>hx y (List.mem_cons_of_mem _ hy));rw [List.append_assoc] at q;exact q
structure Fit (m:dZ):Prop where
 start:0<=m.start/\m.start < 4294967296
 text:0<=m.text/\m.text < 4294967296
 far:0<=m.far/\m.far < 4294967296
 data:0<=m.data/\m.data < 4294967296
 lT:m.T.length<=65535
 lF:m.F.length<=65535
 lD:m.D.length<=65535
 no:0<=m.noughts/\m.noughts<=65535
 T:∀ x∈m.T,0<=x/\x < 4294967296
 F:∀ x∈m.F,0<=x/\x < 4294967296
 D:∀ x∈m.D,0<=x/\x < 4294967296
theorem wL (m:dZ) (h:Fit m):fA (bytes m)=m/\Full (bytes m)/\(bytes m).take 2=[73,77]/\(bytes m).length=26+4 * (m.T.length+m.F.length+m.D.length):=by
 obtain ⟨st,tx,fr,da,T,F,D,no⟩:=m;obtain ⟨hs,ht,hf,hd,lT,lF,lD,hn,hT,hF,hD⟩:=h;simp only at hs ht hf hd lT lF lD hn hT hF hD;have E:bytes ⟨st,tx,fr,da,T,F,D,no⟩=[73,77] ++ (Lk.le st 4 ++ (Lk.le tx 4 ++ (Lk.le fr 4 ++ (Lk.le da 4 ++ (Lk.le (T.length:Int) 2 ++ (Lk.le (F.length:Int) 2 ++ (Lk.le (D.length:Int) 2 ++ (Lk.le no 2 ++ (Lk.nums T 4 ++ (Lk.nums F 4 ++ (Lk.nums D 4 ++ []))))))))))):=by
  unfold bytes;simp only [List.append_assoc,List.append_nil]
 have L:(bytes ⟨st,tx,fr,da,T,F,D,no⟩).length=26+4 * (T.length+F.length+D.length):=by
  rw [E];simp only [eZ,Lk.aC,kR,jm,List.length_nil];omega
 have two:(256:Int) ^ 2=65536:=by decide
 have four:(256:Int) ^ 4=4294967296:=by decide
 have q1:dR (bytes ⟨st,tx,fr,da,T,F,D,no⟩) 2 4=st:=by rw [E]; exact kK [73,77] _ st 4 2 rfl hs.1 (by omega)
 have q2:dR (bytes ⟨st,tx,fr,da,T,F,D,no⟩) 6 4=tx:=by
  rw [E,<- List.append_assoc];exact kK _ _ tx 4 6 (by simp [Lk.aC]) ht.1 (by omega)
 have q3:dR (bytes ⟨st,tx,fr,da,T,F,D,no⟩) 10 4=fr:=by
  rw [E,<- List.append_assoc,<- List.append_assoc];exact kK _ _ fr 4 10 (by simp [Lk.aC]) hf.1 (by omega)
 have q4:dR (bytes ⟨st,tx,fr,da,T,F,D,no⟩) 14 4=da:=by
  rw [E,<- List.append_assoc,<- List.append_assoc,<- List.append_assoc];exact kK _ _ da 4 14 (by simp [Lk.aC]) hd.1 (by omega)
 have q5:dR (bytes ⟨st,tx,fr,da,T,F,D,no⟩) 18 2=T.length:=by
  rw [E,<- List.append_assoc,<- List.append_assoc,<- List.append_assoc,<- List.append_assoc];exact kK _ _ _ 2 18 (by simp [Lk.aC]) (by omega) (by omega)
 have q6:dR (bytes ⟨st,tx,fr,da,T,F,D,no⟩) 20 2=F.length:=by
  rw [E,<- List.append_assoc,<- List.append_assoc,<- List.append_assoc,<- List.append_assoc,<- List.append_assoc];exact kK _ _ _ 2 20 (by simp [Lk.aC]) (by omega) (by omega)
 have q7:dR (bytes ⟨st,tx,fr,da,T,F,D,no⟩) 22 2=D.length:=by
  rw [E,<- List.append_assoc,<- List.append_assoc,<- List.append_assoc,<- List.append_assoc,<- List.append_assoc,<- List.append_assoc];exact kK _ _ _ 2 22 (by simp [Lk.aC]) (by omega) (by omega)
 have q8:dR (bytes ⟨st,tx,fr,da,T,F,D,no⟩) 24 2=no:=by
  rw [E,<- List.append_assoc,<- List.append_assoc,<- List.append_assoc,<- List.append_assoc,<- List.append_assoc,<- List.append_assoc,<- List.append_assoc];exact kK _ _ _ 2 24 (by simp [Lk.aC]) hn.1 (by omega)
 have nt:nT (bytes ⟨st,tx,fr,da,T,F,D,no⟩)=T.length:=by unfold nT; rw [q5]; omega
 have nf:nF (bytes ⟨st,tx,fr,da,T,F,D,no⟩)=F.length:=by unfold nF; rw [q6]; omega
 have nd:nD (bytes ⟨st,tx,fr,da,T,F,D,no⟩)=D.length:=by unfold nD; rw [q7]; omega
 have w1:words (bytes ⟨st,tx,fr,da,T,F,D,no⟩) 26 T.length=T:=by
  rw [E,<- List.append_assoc,<- List.append_assoc,<- List.append_assoc,<- List.append_assoc,<- List.append_assoc,<- List.append_assoc,<- List.append_assoc,<- List.append_assoc];exact qJ T _ _ 26 (by simp [Lk.aC]) hT
 have w2:words (bytes ⟨st,tx,fr,da,T,F,D,no⟩) (26+4 * T.length) F.length=F:=by
  rw [E,<- List.append_assoc,<- List.append_assoc,<- List.append_assoc,<- List.append_assoc,<- List.append_assoc,<- List.append_assoc,<- List.append_assoc,<- List.append_assoc,<- List.append_assoc];exact qJ F _ _ _ (by simp [Lk.aC,kR]; omega) hF
 have w3:words (bytes ⟨st,tx,fr,da,T,F,D,no⟩) (26+4 * T.length+4 * F.length) D.length=D:=by
  rw [E,<- List.append_assoc,<- List.append_assoc,<- List.append_assoc,<- List.append_assoc,<- List.append_assoc,<- List.append_assoc,<- List.append_assoc,<- List.append_assoc,<- List.append_assoc,<- List.append_assoc];exact qJ D _ _ _ (by simp [Lk.aC,kR]; omega) hD
 refine ⟨?_,?_,?_,L⟩
 ·unfold fA;rw [nt,nf,nd,q1,q2,q3,q4,q8,w1,w2,w3]
 ·unfold Full;rw [L,nt,nf,nd]
 ·rw [E];rfl
end Im
theorem Ke (a b k M:Nat) (hM:M=2 ^ k) (h:b < M):a * M ||| b=a * M+b:=by
 subst hM
 have:=Nat.two_pow_add_eq_or_of_lt (i:=k) (b:=b) h a
 rw [Nat.mul_comm a];exact this.symm
theorem ynd (A B C D E:Nat):(A ||| B) ||| C ||| D ||| E=C ||| (E ||| (A ||| (D ||| B))):=by
 apply Nat.eq_of_testBit_eq;intro i;simp only [Nat.testBit_or]
 cases A.testBit i <;> cases B.testBit i <;> cases C.testBit i <;> cases D.testBit i <;> cases E.testBit i <;> rfl
theorem Yr (n:Int) (low count:Nat):As.fI n low count < 2 ^ count:=by
 unfold As.fI;have hp:(0:Int) < (2:Int) ^ count:=Int.pow_pos (by omega);have h1:=Int.emod_lt_of_pos (n / (2:Int) ^ low) hp;have h0:=Int.emod_nonneg (n / (2:Int) ^ low) (Int.ne_of_gt hp);have e:((2 ^ count:Nat):Int)=(2:Int) ^ count:=by simp
 omega
theorem Ta (n:Int) (low count:Nat):((As.fI n low count:Nat):Int)=(n / (2:Int) ^ low) % (2:Int) ^ count:=by
 unfold As.fI;have hp:(0:Int) < (2:Int) ^ count:=Int.pow_pos (by omega);have h0:=Int.emod_nonneg (n / (2:Int) ^ low) (Int.ne_of_gt hp);omega
theorem Tc (r:Nat) (h:r < 32):As.fI (r:Int) 0 5=r:=by
 have:=Ta (r:Int) 0 5
 simp only [Int.reducePow,Int.ediv_one] at this;omega
namespace Mc
structure Says (w:Int) (op:Nat) (rd au aF n:Int):Prop where
 lo:0<=w
 hi:w<=4294967295
 op:kH w=op
 rd:gB (aV w) w=rd
 au:bL (aV w) w=au
 aF:jG (aV w) w=aF
 n:jq (aV w) w=n
end Mc
theorem ZX (n:Int) (form:Int) (h0:0<=n) (h1:n<=4294967295) (hf:form=1\/form=2\/form=3\/form=6):gB form n=n / 128 % 32:=by
 unfold gB;rw [if_pos (by omega),yB n 128 h0 h1 (by omega)]
theorem yrH (n:Int) (form:Int) (h0:0<=n) (h1:n<=4294967295) (hf:form=3\/form=4\/form=5\/form=6):bL form n=n / 32768 % 32:=by
 unfold bL;rw [if_pos (by omega),yB n 32768 h0 h1 (by omega)]
theorem you (n:Int):Mc.jq 3 n=if n / 1048576 % 4096 < 2048 then n / 1048576 % 4096 else n / 1048576 % 4096 - 4096:=by
 unfold Mc.jq;rw [if_neg (by decide),if_neg (by decide),if_pos rfl]
theorem yqN (n:Int):Mc.jq 1 n=n / 4096 % 1048576:=by
 unfold Mc.jq;rw [if_pos rfl]
theorem yrI (form n:Int) (h:form=1\/form=2):bL form n=0:=by
 unfold bL;rw [if_neg (by omega)]
theorem ZO (form n:Int) (h:form=1\/form=2\/form=3):jG form n=0:=by
 unfold jG;rw [if_neg (by omega)]
theorem ynK (op rd au:Nat) (n:Int) (fx:Nat) (ho:As.forms.getD op 0=3) (hx:As.jO.getD op 0=fx) (hl:fx % 128+4096 * (fx / 4096)=fx) (hl2:fx < 32768) (h:rd < 32) (h1:au < 32):(As.enc op rd au 0 n:Int)=fx+128 * rd+32768 * au+1048576 * (n % 4096):=by
 have e:As.enc op rd au 0 n=(fx ||| As.fI n 0 12 * 1048576) ||| As.fI (rd:Int) 0 5 * 128 ||| As.fI (au:Int) 0 5 * 32768:=by
  have p:As.place' 3 n=As.fI n 0 12 * 1048576:=by unfold As.place'; rw [if_neg (by decide),if_neg (by decide),if_pos rfl]
  have a1:As.kZ 3=true:=by decide
  have a2:As.jy 3=true:=by decide
  have a3:As.j5 3=false:=by decide
  unfold As.enc;rw [ho,hx];unfold As.kM;simp only [a1,a2,a3,if_true,Bool.false_eq_true,if_false,p]
 have f1:=Yr n 0 12;have g1:=Ta n 0 12;simp only [Int.reducePow,Nat.reducePow,Int.ediv_one] at f1 g1;rw [Tc rd h,Tc au h1] at e;generalize As.fI n 0 12=a at *;obtain ⟨u,v,hu,hv⟩:∃ u v:Nat,u < 128/\fx=v * 4096+u:=⟨fx % 128,fx / 4096,by omega,by omega⟩
 have o1:fx=v * 4096 ||| u:=by rw [hv]; exact (Ke v u 12 4096 (by decide) (by omega)).symm
 have o5:rd * 128 ||| u=rd * 128+u:=Ke rd u 7 128 (by decide) (by omega);have o6:v * 4096 ||| (rd * 128+u)=v * 4096+(rd * 128+u):=Ke v (rd * 128+u) 12 4096 (by decide) (by omega);have o7:au * 32768 ||| (v * 4096+(rd * 128+u))=au * 32768+(v * 4096+(rd * 128+u)):=Ke au _ 15 32768 (by decide) (by omega);have o8:a * 1048576 ||| (au * 32768+(v * 4096+(rd * 128+u)))=a * 1048576+(au * 32768+(v * 4096+(rd * 128+u))):=Ke a _ 20 1048576 (by decide) (by omega);have s:As.enc op rd au 0 n=a * 1048576 ||| (au * 32768 ||| (v * 4096 ||| (rd * 128 ||| u))):=by
  rw [e,o1];exact ynd _ _ _ _ _
 rw [o5,o6,o7,o8] at s;omega
namespace Op
open At
theorem wO (op rd au aF:Nat) (n:Int):0<=((As.enc op rd au aF n:Nat):Int)/\((As.enc op rd au aF n:Nat):Int)<=4294967295:=by
 have:=ZF op rd au aF n
 omega
theorem Fh (rd:Nat) (n:Int) (h:rd < 32):(As.enc 1 rd 0 0 n:Int)=55+128 * rd+4096 * (n % 1048576):=by
 have e:As.enc 1 rd 0 0 n=(55 ||| As.fI n 0 20 * 4096) ||| As.fI (rd:Int) 0 5 * 128:=by
  have p:As.place' 1 n=As.fI n 0 20 * 4096:=by unfold As.place'; rw [if_pos rfl]
  have a1:As.kZ 1=true:=by decide
  have a2:As.jy 1=false:=by decide
  have a3:As.j5 1=false:=by decide
  have ho:As.forms.getD 1 0=1:=by decide
  have hx:As.jO.getD 1 0=55:=by decide
  unfold As.enc;rw [ho,hx];unfold As.kM;simp only [a1,a2,a3,if_true,Bool.false_eq_true,if_false,p]
 have f1:=Yr n 0 20;have g1:=Ta n 0 20;simp only [Int.reducePow,Nat.reducePow,Int.ediv_one] at f1 g1;rw [Tc rd h] at e;generalize As.fI n 0 20=a at *;have o5:55 ||| rd * 128=rd * 128+55:=by rw [Nat.or_comm]; exact Ke rd 55 7 128 (by decide) (by omega)
 have o6:a * 4096 ||| (rd * 128+55)=a * 4096+(rd * 128+55):=Ke a (rd * 128+55) 12 4096 (by decide) (by omega);rw [Nat.or_comm 55,Nat.or_assoc,o5,o6] at e;omega
theorem Jp (r:Nat) (v:Int):∀ w∈lq r v,0<=w/\w<=4294967295:=by
 unfold lq;split
 ·exact List.forall_mem_cons.2 ⟨wO _ _ _ _ _,fun w hw=>by cases hw⟩
 ·exact List.forall_mem_cons.2 ⟨wO _ _ _ _ _,List.forall_mem_cons.2 ⟨wO _ _ _ _ _,fun w hw=>by cases hw⟩⟩
end Op
theorem yss (x:Int) (h0:0<=x) (h1:x < 4294967296):Mc.wd x=x:=by unfold Mc.wd; omega
namespace Op
open At
def R4 (a b c d:Int):List Int:=[0,0,0,0,0,a,b,0,0,0,c,0,0,0,0,0,0,d,0,0,0,0,0,0,0,0,0,0,0,0,0,0]
theorem Aa {m:Im.dZ} {ins:List Int} {s:Mc.St} {w:Int} {op:Nat} {rd au aF n:Int} (hc:Im.code m s.pc=some w) (hw:Mc.Says w op rd au aF n) :
  Mc.step m ins s=(let x:=Mc.doIt m ins op rd au aF n { s with steps:=s.steps+1,next:=Mc.wd (s.pc+4) }; { x with pc:=x.next }):=by
 unfold Mc.step;rw [hc];simp only;rw [hw.op,hw.rd,hw.au,hw.aF,hw.n]
theorem Ab {m:Im.dZ} {s s':Mc.St} (h:Mc.step m [] s=s') (he:s.fM=0) (hs:s.steps < 5000) (N:Nat):Mc.steps m [] 5000 (N+1) s=Mc.steps m [] 5000 N s':=by
 show (if s.fM=0/\s.steps < 5000 then Mc.steps m [] 5000 N (Mc.step m [] s) else s)=_;rw [if_pos ⟨he,hs⟩,h]
section
variable {dt:List Int} (m:Im.dZ) (a b c d pc nx:Int) (o:List Int) (s:Nat)
theorem Fe (n:Int):Mc.doIt m [] ((1:Nat):Int) ((5:Nat):Int) 0 0 n ⟨R4 a b c d,dt,pc,nx,0,0,o,s,0⟩=⟨R4 (Mc.wd (n * 4096)) b c d,dt,pc,nx,0,0,o,s,0⟩:=rfl
theorem Fg (n:Int):Mc.doIt m [] ((1:Nat):Int) ((6:Nat):Int) 0 0 n ⟨R4 a b c d,dt,pc,nx,0,0,o,s,0⟩=⟨R4 a (Mc.wd (n * 4096)) c d,dt,pc,nx,0,0,o,s,0⟩:=rfl
theorem zG (n:Int):Mc.doIt m [] ((13:Nat):Int) ((5:Nat):Int) ((0:Nat):Int) 0 n ⟨R4 a b c d,dt,pc,nx,0,0,o,s,0⟩=⟨R4 (Mc.wd (0+Mc.wd n)) b c d,dt,pc,nx,0,0,o,s,0⟩:=rfl
theorem zH (n:Int):Mc.doIt m [] ((13:Nat):Int) ((5:Nat):Int) ((5:Nat):Int) 0 n ⟨R4 a b c d,dt,pc,nx,0,0,o,s,0⟩=⟨R4 (Mc.wd (a+Mc.wd n)) b c d,dt,pc,nx,0,0,o,s,0⟩:=rfl
theorem zI (n:Int):Mc.doIt m [] ((13:Nat):Int) ((6:Nat):Int) ((0:Nat):Int) 0 n ⟨R4 a b c d,dt,pc,nx,0,0,o,s,0⟩=⟨R4 a (Mc.wd (0+Mc.wd n)) c d,dt,pc,nx,0,0,o,s,0⟩:=rfl
theorem zJ (n:Int):Mc.doIt m [] ((13:Nat):Int) ((6:Nat):Int) ((6:Nat):Int) 0 n ⟨R4 a b c d,dt,pc,nx,0,0,o,s,0⟩=⟨R4 a (Mc.wd (b+Mc.wd n)) c d,dt,pc,nx,0,0,o,s,0⟩:=rfl
end
theorem vI (rd:Nat) (n:Int) (h:rd < 32):Mc.Says (As.enc 1 rd 0 0 n) 1 rd 0 0 (n % 1048576):=by
 have e:=Fh rd n h;generalize ((As.enc 1 rd 0 0 n:Nat):Int)=w at *;have w0:0<=w:=by omega
 have w1:w<=4294967295:=by omega
 have o:Mc.kH w=1:=Mc.tJ w 1 (by omega) (by omega) ((Fx w w0 w1).2 (by omega)) (fun j hj1 hj2=>by omega);have f:Mc.aV w=1:=by unfold Mc.aV; rw [o]; rfl
 refine ⟨w0,w1,o,?_,?_,?_,?_⟩
 ·rw [f,ZX w 1 w0 w1 (by omega)]; omega
 ·rw [f,yrI 1 w (by omega)]
 ·rw [f,ZO 1 w (by omega)]
 ·rw [f,yqN];omega
theorem mD (rd au:Nat) (n:Int) (h:rd < 32) (h1:au < 32) (h2:-2048<=n) (h3:n < 2048):Mc.Says (As.enc 13 rd au 0 n) 13 rd au 0 n:=by
 have e:=ynK 13 rd au n 19 (by decide) (by decide) (by decide) (by omega) h h1;generalize ((As.enc 13 rd au 0 n:Nat):Int)=w at *;have w0:0<=w:=by omega
 have w1:w<=4294967295:=by omega
 have l7:w % 128=19:=by omega
 have f3:w / 4096 % 8=0:=by omega
 have o:Mc.kH w=13:=Mc.tJ w 13 (by omega) (by omega) ((UA w w0 w1).2 (by omega)) (fun j hj1 hj2=>by
  rcases (show j=1\/j=2\/j=3\/j=4\/j=5\/j=6\/j=7\/j=8\/j=9\/j=10\/j=11\/j=12 by omega) with rfl | rfl | rfl | rfl | rfl | rfl | rfl | rfl | rfl | rfl | rfl | rfl
  ·rw [Fx w w0 w1]; omega
  ·rw [Jf w w0 w1]; omega
  ·rw [Jg w w0 w1]; omega
  ·rw [Jh w w0 w1]; omega
  ·rw [Ji w w0 w1]; omega
  ·rw [Jj w w0 w1]; omega
  ·rw [Jk w w0 w1]; omega
  ·rw [Jl w w0 w1]; omega
  ·rw [Jm w w0 w1]; omega
  ·rw [Ux w w0 w1]; omega
  ·rw [Uy w w0 w1]; omega
  ·rw [Uz w w0 w1]; omega)
 have f:Mc.aV w=3:=by unfold Mc.aV; rw [o]; rfl
 refine ⟨w0,w1,o,?_,?_,?_,?_⟩
 ·rw [f,ZX w 3 w0 w1 (by omega)]; omega
 ·rw [f,yrH w 3 w0 w1 (by omega)]; omega
 ·rw [f,ZO 3 w (by omega)]
 ·rw [f,you];split <;> omega
end Op
namespace Op
open At
def Goes (m:Im.dZ) (j:Nat) (X Y:Mc.St):Prop:=∀ N,Mc.steps m [] 5000 (N+j) X=Mc.steps m [] 5000 N Y
theorem Goes.trans {m:Im.dZ} {i j:Nat} {X Y Z:Mc.St} (h:Goes m i X Y) (k:Goes m j Y Z):Goes m (i+j) X Z:=fun N=>by
 rw [show N+(i+j)=N+j+i by omega,h,k]
section
variable {m:Im.dZ} {a b c d pc nx:Int} {dt o:List Int} {s:Nat}
theorem ow {w:Int} {op:Nat} {rd au aF n a' b' c' d' pc':Int} {o':List Int} (hc:Im.code m pc=some w) (hw:Mc.Says w op rd au aF n) (hd:Mc.doIt m [] op rd au aF n ⟨R4 a b c d,dt,pc,Mc.wd (pc+4),0,0,o,s+1,0⟩=⟨R4 a' b' c' d',dt,pc,pc',0,0,o',s+1,0⟩) (hs:s < 5000) :
  Goes m 1 ⟨R4 a b c d,dt,pc,nx,0,0,o,s,0⟩ ⟨R4 a' b' c' d',dt,pc',pc',0,0,o',s+1,0⟩:=by
 intro N;refine Ab ?_ rfl hs N;rw [Aa (s:=⟨R4 a b c d,dt,pc,nx,0,0,o,s,0⟩) hc hw];have e:Mc.doIt m [] op rd au aF n { (⟨R4 a b c d,dt,pc,nx,0,0,o,s,0⟩:Mc.St) with steps:=s+1,next:=Mc.wd (pc+4) }=⟨R4 a' b' c' d',dt,pc,pc',0,0,o',s+1,0⟩:=hd;show (let x:=Mc.doIt m [] op rd au aF n { (⟨R4 a b c d,dt,pc,nx,0,0,o,s,0⟩:Mc.St) with steps:=s+1,next:=Mc.wd (pc+4) }; { x with pc:=x.next })=_;rw [e]
theorem wd4 (h:0<=pc/\pc<=2000000000):Mc.wd (pc+4)=pc+4:=yss _ (by omega) (by omega)
theorem Rq (v:Int) (hv:-2147483648<=v/\v<=2147483647) (hp:0<=pc/\pc<=1000000000) (hs:s < 4000) (hc:∀ (i:Nat) (w:Int),(lq 5 v)[i]?=some w->Im.code m (pc+4 * (i:Int))=some w) :
  Goes m (lq 5 v).length ⟨R4 a b c d,dt,pc,nx,0,0,o,s,0⟩ ⟨R4 (Mc.wd v) b c d,dt,pc+4 * ((lq 5 v).length:Int),pc+4 * ((lq 5 v).length:Int),0,0,o,s+(lq 5 v).length,0⟩:=by
 unfold lq at *;by_cases h:-2048<=v/\v<=2047
 ·rw [if_pos h] at hc ⊢;have c0:=hc 0 _ rfl;rw [show pc+4 * ((0:Nat):Int)=pc by omega] at c0;have g:=ow (dt:=dt) (s:=s) (nx:=nx) (o:=o) c0 (mD 5 0 v (by omega) (by omega) h.1 (by omega)) (zG m a b c d pc _ o (s+1) v) (by omega);rw [wd4 (by omega),show Mc.wd (0+Mc.wd v)=Mc.wd v by unfold Mc.wd; omega] at g;exact g
 ·rw [if_neg h] at hc ⊢;have c0:=hc 0 _ rfl;have c1:=hc 1 _ rfl;rw [show pc+4 * ((0:Nat):Int)=pc by omega] at c0;rw [show pc+4 * ((1:Nat):Int)=pc+4 by omega] at c1;have lw:-2048<=As.bP v/\As.bP v < 2048/\∃ z,v=4096 * z+As.bP v:=by
   unfold As.bP;split
   ·exact ⟨by omega,by omega,v / 4096,by omega⟩
   ·exact ⟨by omega,by omega,v / 4096+1,by omega⟩
  obtain ⟨l1,l2,z,hz⟩:=lw;have hg:As.dG v=z % 1048576:=by
   unfold As.dG;rw [show (v - As.bP v) / 4096=z by omega]
  rw [hg] at c0;obtain ⟨lo,hlo⟩:∃ lo,As.bP v=lo:=⟨_,rfl⟩
  rw [hlo] at c1 l1 l2 hz;have y:=vI 5 (z % 1048576) (by omega);rw [show z % 1048576 % 1048576=z % 1048576 by omega] at y;have g1:=ow (dt:=dt) (s:=s) (nx:=nx) (o:=o) c0 y (Fe m a b c d pc _ o (s+1) (z % 1048576)) (by omega);rw [wd4 (by omega)] at g1;have g2:=ow (dt:=dt) (s:=s+1) (nx:=pc+4) (o:=o) c1 (mD 5 5 lo (by omega) (by omega) l1 l2) (zH m (Mc.wd (z % 1048576 * 4096)) b c d (pc+4) _ o (s+1+1) lo) (by omega);rw [wd4 (by omega),show Mc.wd (Mc.wd (z % 1048576 * 4096)+Mc.wd lo)=Mc.wd v by unfold Mc.wd; omega] at g2;have g:=g1.trans g2;rw [show pc+4+4=pc+4 * ((2:Nat):Int) by omega] at g;exact g
theorem BH (v:Int) (hv:-2147483648<=v/\v<=2147483647) (hp:0<=pc/\pc<=1000000000) (hs:s < 4000) (hc:∀ (i:Nat) (w:Int),(lq 6 v)[i]?=some w->Im.code m (pc+4 * (i:Int))=some w) :
  Goes m (lq 6 v).length ⟨R4 a b c d,dt,pc,nx,0,0,o,s,0⟩ ⟨R4 a (Mc.wd v) c d,dt,pc+4 * ((lq 6 v).length:Int),pc+4 * ((lq 6 v).length:Int),0,0,o,s+(lq 6 v).length,0⟩:=by
 unfold lq at *;by_cases h:-2048<=v/\v<=2047
 ·rw [if_pos h] at hc ⊢;have c0:=hc 0 _ rfl;rw [show pc+4 * ((0:Nat):Int)=pc by omega] at c0;have g:=ow (dt:=dt) (s:=s) (nx:=nx) (o:=o) c0 (mD 6 0 v (by omega) (by omega) h.1 (by omega)) (zI m a b c d pc _ o (s+1) v) (by omega);rw [wd4 (by omega),show Mc.wd (0+Mc.wd v)=Mc.wd v by unfold Mc.wd; omega] at g;exact g
 ·rw [if_neg h] at hc ⊢;have c0:=hc 0 _ rfl;have c1:=hc 1 _ rfl;rw [show pc+4 * ((0:Nat):Int)=pc by omega] at c0;rw [show pc+4 * ((1:Nat):Int)=pc+4 by omega] at c1;have lw:-2048<=As.bP v/\As.bP v < 2048/\∃ z,v=4096 * z+As.bP v:=by
   unfold As.bP;split
   ·exact ⟨by omega,by omega,v / 4096,by omega⟩
   ·exact ⟨by omega,by omega,v / 4096+1,by omega⟩
  obtain ⟨l1,l2,z,hz⟩:=lw;have hg:As.dG v=z % 1048576:=by
   unfold As.dG;rw [show (v - As.bP v) / 4096=z by omega]
  rw [hg] at c0;obtain ⟨lo,hlo⟩:∃ lo,As.bP v=lo:=⟨_,rfl⟩
  rw [hlo] at c1 l1 l2 hz;have y:=vI 6 (z % 1048576) (by omega);rw [show z % 1048576 % 1048576=z % 1048576 by omega] at y;have g1:=ow (dt:=dt) (s:=s) (nx:=nx) (o:=o) c0 y (Fg m a b c d pc _ o (s+1) (z % 1048576)) (by omega);rw [wd4 (by omega)] at g1;have g2:=ow (dt:=dt) (s:=s+1) (nx:=pc+4) (o:=o) c1 (mD 6 6 lo (by omega) (by omega) l1 l2) (zJ m a (Mc.wd (z % 1048576 * 4096)) c d (pc+4) _ o (s+1+1) lo) (by omega);rw [wd4 (by omega),show Mc.wd (Mc.wd (z % 1048576 * 4096)+Mc.wd lo)=Mc.wd v by unfold Mc.wd; omega] at g2;have g:=g1.trans g2;rw [show pc+4+4=pc+4 * ((2:Nat):Int) by omega] at g;exact g
end
end Op
end Go.Proofs.YtpgklkhgfcjceaaGreatDoor
