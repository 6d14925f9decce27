
import Derived.Test.YtpgklkhgfcjceaaGreatDoorV26
import Derived.ProofKit
import Derived.OpenShut
import Derived.ChangeMaps5
import Derived.Deep.DeepHandedRow
import Derived.Lib.LaidTab
import Derived.Test.YtpgklkhgfcjceaaGreatDoorCards
import Derived.Test.YtpgklkhgfcjceaaGreatDoorTie
set_option maxHeartbeats 16000000
set_option maxRecDepth 100000
namespace Go.Proofs.YtpgklkhgfcjceaaGreatDoor
open Go.RowKit
namespace Sd
open At
def tN:List UInt8:=[46,103,108,111,98,108,32,111,116,104,101,114,10,111,116,104,101,114,58,32,108,119,32,120,49,48,44,122,10,101,99,97,108,108,10,108,119,32,120,49,48,44,100,10,101,99,97,108,108,10,114,101,116,10,46,100,97,116,97,10,100,58,32,46,119,111,114,100,32,55,10,46,98,115,115,10,122,58,32,46,115,112,97,99,101,32,52,10]
def thd:List UInt8:=[46,103,108,111,98,108,32,100,10,46,103,108,111,98,108,32,122,10,46,100,97,116,97,10,100,58,32,46,119,111,114,100,32,57,57,10,122,58,32,46,119,111,114,100,32,57,56,10]
def F3:Lk.Obj:=⟨[E 1 10 0 0 0,E 11 10 10 0 0,115,E 1 10 0 0 0,E 11 10 10 0 0,115,E 4 0 1 0 0],[],[7],1,AL,[⟨[111,116,104,101,114],1,1,0⟩,⟨[122],0,4,0⟩,⟨[100],0,3,0⟩],[⟨1,0,5,1,0⟩,⟨1,12,5,2,0⟩]⟩
def Gi:Lk.Obj:=⟨[],[],[99,98],0,AL,[⟨[100],1,3,0⟩,⟨[122],1,3,4⟩],[]⟩
theorem Jy:(As.assemble tN).1.1=0:=by decide +kernel
theorem JE:(As.assemble thd).1.1=0:=by decide +kernel
theorem tO:(As.assemble tN).2=F3:=by kernel_rfl
theorem tY:(As.assemble thd).2=Gi:=by kernel_rfl
theorem zS:yv F3:=Yl (by decide +kernel)
theorem Ac:yv Gi:=Yl (by decide +kernel)
def Wd (w:Int):Prop:=0<=w/\w<=4294967295
instance (w:Int):Decidable (Wd w):=by unfold Wd; infer_instance
theorem Ho:(∀ w∈Kw,Wd w)/\∀ w∈OL,Wd w:=by decide +kernel
theorem mem3 {A B t:List Int} (hA:∀ w∈A,Wd w) (ht:∀ w∈t,Wd w) (hB:∀ w∈B,Wd w):∀ w∈A ++ (t ++ B),Wd w:=fun w hw=>by
 rcases List.mem_append.1 hw with h | h
 ·exact hA w h
 ·rcases List.mem_append.1 h with h | h
  ·exact ht w h
  ·exact hB w h
theorem wY (t:List Int) (X:Int) (h:vW t) (ht:∀ w∈t,Wd w) (hX:Wd X):yv (lg t X):=by
 have w1:=mem3 Ho.1 ht Ho.2;have w2:∀ w∈[X,4294967295,0,0],Wd w:=List.forall_mem_cons.2 ⟨hX,by decide⟩
 have hw:qL (lg t X).text/\qL (lg t X).far/\qL (lg t X).data:=⟨fun i hi=>w1 _ (iq hi),fun i hi=>(by cases hi),fun i hi=>w2 _ (iq hi)⟩
 rcases h with ⟨a,rfl⟩ | ⟨a,b,rfl⟩
 ·exact ⟨of_decide_eq_true (by kernel_rfl),of_decide_eq_true (by kernel_rfl),hw,of_decide_eq_true (by kernel_rfl),of_decide_eq_true (by kernel_rfl)⟩
 ·exact ⟨of_decide_eq_true (by kernel_rfl),of_decide_eq_true (by kernel_rfl),hw,of_decide_eq_true (by kernel_rfl),of_decide_eq_true (by kernel_rfl)⟩
theorem CW {os:List Lk.Obj} {bt bf bd:Int} {ins out:List Int} {code:Int} (m:Im.dZ) (h1:(Ln.bJ os).e=0) (h2:Ln.eY os bt bf bd=m) (h3:(Ln.bZ m (Ln.dM os bt bf bd)).e=0) (hf:Im.Fit m) (ho:Im.lG m)
  (hr:(Mc.run m ins 5000).fM=1/\(Mc.run m ins 5000).code=code/\(Mc.run m ins 5000).o=out):DJ os bt bf bd ins out code:=by
 obtain ⟨b1,b2,b3,-⟩:=Im.wL m hf;have e:Ln.gJ os bt bf bd=(Im.bytes m,Ln.ok):=by
  unfold Ln.gJ;rw [if_neg (by rw [h1]; simp),h2,if_neg (by rw [h3]; simp)]
 unfold DJ;rw [e];refine ⟨⟨rfl,rfl,rfl⟩,⟨b3,b2,by rw [b1]; exact ho⟩,?_⟩;show (Mc.run (Im.fA (Im.bytes m)) ins 5000).fM=1/\(Mc.run (Im.fA (Im.bytes m)) ins 5000).code=code/\(Mc.run (Im.fA (Im.bytes m)) ins 5000).o=out;rw [b1];exact hr
end Sd
namespace Sd
open At
def iA:List Int:=[E 1 5 0 0 32,E 11 5 5 0 8,E 11 10 5 0 0,E 13 17 0 0 1,115,E 1 5 0 0 32,E 11 5 5 0 12,E 11 10 5 0 0,115,E 1 10 0 0 32,E 11 10 10 0 56,115]
def iB:List Int:=[E 1 7 0 0 32,E 12 0 7 6 56,E 1 10 0 0 32,E 11 10 10 0 56,115,E 3 1 0 0 16,E 13 10 0 0 0,E 13 17 0 0 0,115,E 1 10 0 0 32,E 11 10 10 0 64,115,E 1 10 0 0 32,E 11 10 10 0 16,115,E 4 0 1 0 0]
def aA:List Int:=[E 1 10 0 0 256,E 11 10 10 0 28,115,E 1 10 0 0 256,E 11 10 10 0 8,115,E 4 0 1 0 0,E 1 5 0 0 256,E 11 5 5 0 20,E 11 10 5 0 0,E 13 17 0 0 1,115,E 1 5 0 0 256,E 11 5 5 0 24,E 11 10 5 0 0,115,E 1 10 0 0 256,E 11 10 10 0 56,115]
def aB (n:Nat):List Int:=[E 1 7 0 0 256,E 12 0 7 6 56,E 1 10 0 0 256,E 11 10 10 0 56,115,E 3 1 0 0 (-96 - 4 * (n:Int)),E 13 10 0 0 0,E 13 17 0 0 0,115]
def Fv (t:List Int) (X:Int):Im.dZ:=⟨4096,4096,65536,131072,iA ++ (t ++ iB),[],[X,4294967295,131072,131076,7,99,98],10⟩
def Fu (t:List Int) (X:Int):Im.dZ:=⟨16777244,16777216,67108864,1048576,aA ++ (t ++ aB t.length),[],[99,98,7,X,4294967295,1048588,1048592],9⟩
def dN (X:Int):List Int:=[X,4294967295,131072,131076,7,99,98,0,0,0,0,0,0,0,0,0,0]
def dA (X:Int):List Int:=[99,98,7,X,4294967295,1048588,1048592,0,0,0,0,0,0,0,0,0]
def oN (t:List Int) (X:Int):List Lk.Obj:=[lg t X,F3,Gi]
def oF (t:List Int) (X:Int):List Lk.Obj:=[Gi,F3,lg t X]
theorem MO (t:List Int) (X:Int) (h:vW t):(Ln.bJ (oN t X)).e=0/\Ln.eY (oN t X) 4096 65536 131072=Fv t X/\(Ln.bZ (Fv t X) (Ln.dM (oN t X) 4096 65536 131072)).e=0/\Im.lG (Fv t X):=by
 rcases h with ⟨a,rfl⟩ | ⟨a,b,rfl⟩
 ·exact ⟨by kernel_rfl,by kernel_rfl,by kernel_rfl,of_decide_eq_true (by kernel_rfl)⟩
 ·exact ⟨by kernel_rfl,by kernel_rfl,by kernel_rfl,of_decide_eq_true (by kernel_rfl)⟩
theorem ML (t:List Int) (X:Int) (h:vW t):(Ln.bJ (oF t X)).e=0/\Ln.eY (oF t X) 16777216 67108864 1048576=Fu t X/\(Ln.bZ (Fu t X) (Ln.dM (oF t X) 16777216 67108864 1048576)).e=0/\Im.lG (Fu t X):=by
 rcases h with ⟨a,rfl⟩ | ⟨a,b,rfl⟩
 ·exact ⟨by kernel_rfl,by kernel_rfl,by kernel_rfl,of_decide_eq_true (by kernel_rfl)⟩
 ·exact ⟨by kernel_rfl,by kernel_rfl,by kernel_rfl,of_decide_eq_true (by kernel_rfl)⟩
theorem pV {t:List Int} (h:vW t):t.length<=2:=by
 rcases h with ⟨a,rfl⟩ | ⟨a,b,rfl⟩ <;> simp
theorem u7:(∀ w∈iA,Wd w)/\(∀ w∈iB,Wd w)/\(∀ w∈aA,Wd w)/\(∀ w∈aB 1,Wd w)/\∀ w∈aB 2,Wd w:=by decide +kernel
theorem BA {st tx fr da no:Int} {T D:List Int} (h:(0<=st/\st < 4294967296)/\(0<=tx/\tx < 4294967296)/\(0<=fr/\fr < 4294967296)/\(0<=da/\da < 4294967296)/\0<=no/\no<=65535) (hT:∀ w∈T,Wd w) (hD:∀ w∈D,Wd w) (lT:T.length<=65535) (lD:D.length<=65535):Im.Fit ⟨st,tx,fr,da,T,[],D,no⟩ :=
 ⟨h.1,h.2.1,h.2.2.1,h.2.2.2.1,lT,Nat.zero_le _,lD,h.2.2.2.2,fun x hx=>by have:=hT x hx; unfold Wd at this; omega,fun x hx=>(by cases hx),fun x hx=>by have:=hD x hx; unfold Wd at this; omega⟩
theorem Mq (t:List Int) (X:Int) (h:vW t) (ht:∀ w∈t,Wd w) (hX:Wd X):Im.Fit (Fv t X) :=
 BA (by decide) (mem3 u7.1 ht u7.2.1) (List.forall_mem_cons.2 ⟨hX,by decide⟩) (by have:=pV h; rw [eZ,eZ]; show 12+(t.length+16)<=65535; omega) (by show 7<=65535; omega)
theorem Ml (t:List Int) (X:Int) (h:vW t) (ht:∀ w∈t,Wd w) (hX:Wd X):Im.Fit (Fu t X) :=
 BA (by decide) (mem3 u7.2.2.1 ht (by rcases h with ⟨a,rfl⟩ | ⟨a,b,rfl⟩; exact u7.2.2.2.1; exact u7.2.2.2.2)) (List.forall_mem_cons.2 ⟨by decide,List.forall_mem_cons.2 ⟨by decide,List.forall_mem_cons.2 ⟨by decide,List.forall_mem_cons.2 ⟨hX,by decide⟩⟩⟩⟩) (by have:=pV h; rw [eZ,eZ]; show 19+(t.length+9)<=65535; omega) (by show 7<=65535; omega)
theorem Rp (t:List Int) (X:Int) (h:vW t):Op.Goes (Fv t X) 12 (Mc.start (Fv t X)) ⟨Op.R4 131076 0 0 1,dN X,4144,4144,0,0,[Mc.sg (Mc.wd X),-1,0],12,0⟩:=by
 intro N;rcases h with ⟨a,rfl⟩ | ⟨a,b,rfl⟩
 ·kernel_rfl
 ·kernel_rfl
theorem Ro (t:List Int) (X:Int) (h:vW t):Op.Goes (Fu t X) 12 (Mc.start (Fu t X)) ⟨Op.R4 1048592 0 0 1,dA X,16777292,16777292,0,0,[Mc.sg (Mc.wd X),-1,0],12,0⟩:=by
 intro N;rcases h with ⟨a,rfl⟩ | ⟨a,b,rfl⟩
 ·kernel_rfl
 ·kernel_rfl
theorem IL (t:List Int) (X:Int) (h:vW t) (i:Nat) (w:Int) (e:t[i]?=some w):Im.code (Fv t X) (4144+4 * (i:Int))=some w:=by
 rcases h with ⟨a,rfl⟩ | ⟨a,b,rfl⟩
 ·rcases i with _ | i
  ·cases e; kernel_rfl
  ·cases e
 ·rcases i with _ | _ | i
  ·cases e; kernel_rfl
  ·cases e; kernel_rfl
  ·cases e
theorem IK (t:List Int) (X:Int) (h:vW t) (i:Nat) (w:Int) (e:t[i]?=some w):Im.code (Fu t X) (16777292+4 * (i:Int))=some w:=by
 rcases h with ⟨a,rfl⟩ | ⟨a,b,rfl⟩
 ·rcases i with _ | i
  ·cases e; kernel_rfl
  ·cases e
 ·rcases i with _ | _ | i
  ·cases e; kernel_rfl
  ·cases e; kernel_rfl
  ·cases e
def wD (s:Mc.St) (out:List Int):Prop:=s.fM=1/\s.code=0/\s.o=out
theorem Mk (t:List Int) (X V:Int) (h:vW t):wD (Mc.steps (Fv t X) [] 5000 (5000 - (12+t.length)) ⟨Op.R4 131076 V 0 1,dN X,4144+4 * (t.length:Int),4144+4 * (t.length:Int),0,0,[Mc.sg (Mc.wd X),-1,0],12+t.length,0⟩) [Mc.sg (Mc.wd X),-1,0,Mc.sg (Mc.wd V),0,7]:=by
 rcases h with ⟨a,rfl⟩ | ⟨a,b,rfl⟩
 ·exact ⟨by kernel_rfl,by kernel_rfl,by kernel_rfl⟩
 ·exact ⟨by kernel_rfl,by kernel_rfl,by kernel_rfl⟩
theorem Mj (t:List Int) (X V:Int) (h:vW t):wD (Mc.steps (Fu t X) [] 5000 (5000 - (12+t.length)) ⟨Op.R4 1048592 V 0 1,dA X,16777292+4 * (t.length:Int),16777292+4 * (t.length:Int),0,0,[Mc.sg (Mc.wd X),-1,0],12+t.length,0⟩) [Mc.sg (Mc.wd X),-1,0,Mc.sg (Mc.wd V),0,7]:=by
 rcases h with ⟨a,rfl⟩ | ⟨a,b,rfl⟩
 ·exact ⟨by kernel_rfl,by kernel_rfl,by kernel_rfl⟩
 ·exact ⟨by kernel_rfl,by kernel_rfl,by kernel_rfl⟩
theorem Bz {m:Im.dZ} {k:Nat} {S:Mc.St} {out:List Int} (hk:k<=5000) (g:Op.Goes m k (Mc.start m) S) (h:wD (Mc.steps m [] 5000 (5000 - k) S) out):(Mc.run m [] 5000).fM=1/\(Mc.run m [] 5000).code=0/\(Mc.run m [] 5000).o=out:=by
 have e:=g (5000 - k);rw [Nat.sub_add_cancel hk] at e;unfold Mc.run;simp only;rw [e,if_neg (by rw [h.1]; decide)];exact h
theorem back (x:Int) (h:-2147483648<=x/\x<=2147483647):Mc.sg (Mc.wd (x % 4294967296))=x/\Mc.sg (Mc.wd (Mc.wd x))=x:=by
 unfold Mc.sg Mc.wd;constructor <;> split <;> omega
theorem Ck (v:Int):∀ w∈lq 6 v,Wd w:=Op.Jp 6 v
theorem JC (x y:Int) (hx:-2147483648<=x/\x<=2147483647) (hy:-2147483648<=y/\y<=2147483647):DJ (oN (lq 6 y) (x % 4294967296)) 4096 65536 131072 [] [x,-1,0,y,0,7] 0:=by
 have W:=nL 6 y;have g:=Op.BH (m:=Fv (lq 6 y) (x % 4294967296)) (a:=131076) (b:=0) (c:=0) (d:=1) (pc:=4144) (nx:=4144) (dt:=dN (x % 4294967296)) (o:=[Mc.sg (Mc.wd (x % 4294967296)),-1,0]) (s:=12) y hy (by omega) (by omega) (IL _ _ W);obtain ⟨h1,h2,h3,h4⟩:=MO (lq 6 y) (x % 4294967296) W;have r:=Bz (by have:=pV W; omega) ((Rp _ _ W).trans g) (Mk _ _ (Mc.wd y) W);rw [(back x hx).1,(back y hy).2] at r;exact CW _ h1 h2 h3 (Mq _ _ W (Ck y) (by unfold Wd; omega)) h4 r
theorem JB (x y:Int) (hx:-2147483648<=x/\x<=2147483647) (hy:-2147483648<=y/\y<=2147483647):DJ (oF (lq 6 y) (x % 4294967296)) 16777216 67108864 1048576 [] [x,-1,0,y,0,7] 0:=by
 have W:=nL 6 y;have g:=Op.BH (m:=Fu (lq 6 y) (x % 4294967296)) (a:=1048592) (b:=0) (c:=0) (d:=1) (pc:=16777292) (nx:=16777292) (dt:=dA (x % 4294967296)) (o:=[Mc.sg (Mc.wd (x % 4294967296)),-1,0]) (s:=12) y hy (by omega) (by omega) (IK _ _ W);obtain ⟨h1,h2,h3,h4⟩:=ML (lq 6 y) (x % 4294967296) W;have r:=Bz (by have:=pV W; omega) ((Ro _ _ W).trans g) (Mj _ _ (Mc.wd y) W);rw [(back x hx).1,(back y hy).2] at r;exact CW _ h1 h2 h3 (Ml _ _ W (Ck y) (by unfold Wd; omega)) h4 r
def txt (x y:Int):List UInt8:=text (decide (x < 0)) x.natAbs (decide (y < 0)) y.natAbs
theorem vP (x:Int):val (decide (x < 0)) x.natAbs=x:=by
 unfold val;by_cases h:x < 0
 ·rw [decide_eq_true h,if_pos rfl]; omega
 ·rw [decide_eq_false h,if_neg (by decide)]; omega
theorem Bj (x:Int) (h:-2147483648<=x/\x<=2147483647):x.natAbs<=2147483647\/(decide (x < 0)=true/\x.natAbs<=2147483648):=by
 by_cases c:x < 0
 ·exact .inr ⟨decide_eq_true c,by omega⟩
 ·exact .inl (by omega)
theorem uh (x y:Int) (hx:-2147483648<=x/\x<=2147483647) (hy:-2147483648<=y/\y<=2147483647):(As.assemble (txt x y)).1.1=0/\(As.assemble (txt x y)).2=lg (lq 6 y) (x % 4294967296):=by
 have q:=Cw _ _ _ _ (Bj x hx) (Bj y hy);rw [vP,vP] at q;exact q
theorem FT (x y:Int) (hx:-2147483648<=x/\x<=2147483647) (hy:-2147483648<=y/\y<=2147483647):J7 (txt x y):=by
 obtain ⟨h1,h2⟩:=uh x y hx hy;refine ⟨h1,?_⟩;rw [h2];exact wY _ _ (nL 6 y) (Ck y) (by unfold Wd; omega)
theorem sH:J7 tN:=⟨Jy,by rw [tO]; exact zS⟩
theorem sM:J7 thd:=⟨JE,by rw [tY]; exact Ac⟩
theorem Cy (x y:Int) (hx:-2147483648<=x/\x<=2147483647) (hy:-2147483648<=y/\y<=2147483647):DJ (Ln.bQ [(false,[(As.assemble (txt x y)).2]),(false,[(As.assemble tN).2]),(false,[(As.assemble thd).2])]) 4096 65536 131072 [] [x,-1,0,y,0,7] 0:=by
 rw [(uh x y hx hy).2,tO,tY];exact JC x y hx hy
theorem Bq (x y:Int) (hx:-2147483648<=x/\x<=2147483647) (hy:-2147483648<=y/\y<=2147483647):DJ (Ln.bQ [(false,[(As.assemble thd).2]),(false,[(As.assemble tN).2]),(false,[(As.assemble (txt x y)).2])]) 16777216 67108864 1048576 [] [x,-1,0,y,0,7] 0:=by
 rw [(uh x y hx hy).2,tO,tY];exact JB x y hx hy
end Sd
theorem Yu {l:List UInt8} (h:Im.lH l):l.length<=1048576:=by
 have f:l.length=26+4 * (Im.nT l+Im.nF l+Im.nD l):=h.2.1;have n:=Im.Ju l;omega
theorem Pf {W:World} {R g o:Nat} {v:Value} (h:W.cell? ⟨g,o,none⟩=some v) (hne:g≠R) (a b c:Value):(((W.setCell ⟨R,0,none⟩ a).setCell ⟨R,1,none⟩ b).setCell ⟨R,2,none⟩ c).cell? ⟨g,o,none⟩=some v :=
 World.grownBy.cell (World.grownBy.trans (World.grownBy.trans (ye W R 0 a) (ye _ R 1 b)) (ye _ R 2 c)) h (by simpa using hne)
namespace Su
theorem vK (x:Int):-2147483648<=Mc.sg (Mc.wd x)/\Mc.sg (Mc.wd x)<=2147483647:=by
 unfold Mc.sg Mc.wd;split <;> omega
end Su
theorem ylf (n:Int) (w:World) (h0:0<=n) (h1:n < 4294967296):Calls Tryz.prog 21 #[.int .i64 n] w fun e w'=>e = .returned (.int .i64 (Mc.sg n))/\w'=w:=by
 by_cases h:n < 2147483648
 ·have E:=hid (show n=Mc.sg n by unfold Mc.sg; rw [if_pos h]);have d:decide (n < 2147483648)=true:=by simpa using h
  have d2:decide (2147483648<=n)=false:=by simpa using h
  go_enter Tryz.func21,Tryz.ntmps21;go_wp2;go_ret;exact ⟨yM E.o,rfl⟩
 ·have E:=hid (show n - 4294967296=Mc.sg n by unfold Mc.sg; rw [if_neg h]);have d:decide (n < 2147483648)=false:=by simpa using h
  have d2:decide (2147483648<=n)=true:=by simp; omega
  have e1:IntKind.i64.wrap (n - 4294967296)=n - 4294967296:=IntWalk.i64_in _ ⟨by omega,by omega⟩;go_enter Tryz.func21,Tryz.ntmps21;go_wp2;go_ret;exact ⟨yM E.o,rfl⟩
theorem Yv (n:Int) (w:World):Calls Tryz.prog 11 #[.int .i64 n] w fun e w'=>e = .returned (.int .i64 (Mc.sg (Mc.wd n)))/\w'=w:=by
 have E:=ZB n;have r:=Mc.gH n;have cS:=hid (ylf (Mc.wd n) w r.1 r.2);go_enter Tryz.func11,Tryz.ntmps11;go_wp2_with fail;refine cS.o.mono ?_;rintro e w' ⟨rfl,rfl⟩;go_wp2;go_ret;exact ⟨rfl,rfl⟩
def Op.wM (v:Int):List UInt8:=Op.sg (decide (v < 0)) ++ fP 11 v.natAbs
theorem Y0 (v:Int) (w:World) (h:-2147483648<=v/\v<=2147483647) :
  Calls Tryz.prog 14 #[.int .i64 v] w fun e w'=>e = .returned (.string (bs (Op.wM v)))/\w.grownBy w' none:=by
 by_cases c:v < 0
 ·have e:Op.wM v=[45] ++ fP 11 v.natAbs:=by unfold Op.wM; rw [decide_eq_true c]; rfl
  have cN:=hid (YZ 10 v.natAbs w (by omega) (by omega) (by omega));have na:((v.natAbs:Nat):Int) = -v:=by omega
  rw [na] at cN;have sz:(bs (fP 11 v.natAbs)).size<=31:=by rw [zh]; have:=Tg 11 v.natAbs; omega
  have HS:=hid (show (⟨#[45]⟩:ByteArray) ++ bs (fP 11 v.natAbs)=bs (Op.wM v) by rw [e]; apply ByteArray.ext; simp [bs]);have wn:IntKind.i64.wrap (-v) = -v:=IntWalk.i64_in _ ⟨by omega,by omega⟩;have d:decide (v < 0)=true:=by simpa using c
  generalize bs (fP 11 v.natAbs)=Y at *;have q1:¬ 9223372036854775807 < 1+Y.size:=by omega
  clear na e;go_enter Tryz.func14,Tryz.ntmps14;go_wp2_with fail;refine cN.o.mono ?_;rintro e V ⟨rfl,hg⟩;have G:=hid hg;clear hg cN;go_wp2;go_ret;exact ⟨by rw [<- HS.o]; rfl,G.o⟩
 ·have e:Op.wM v=fP 11 v.natAbs:=by unfold Op.wM; rw [decide_eq_false c]; rfl
  have q:=YZ 10 v.natAbs w (by omega) (by omega) (by omega);rw [show ((v.natAbs:Nat):Int)=v by omega] at q;rw [e];exact q
namespace Op
theorem uV (v:Int):(bs (wM v)).size<=13:=by
 rw [zh];unfold wM;rw [eZ];have a:=Tg 11 v.natAbs;have b:∀ z,(sg z).length<=1:=by decide
 have c:=b (decide (v < 0));omega
end Op
end Go.Proofs.YtpgklkhgfcjceaaGreatDoor

namespace Go.Proofs.YtpgklkhgfcjceaaGreatDoor
open Go.ChangeShapes Go.WideShapes Go.ChangeAt Go.RowKit
theorem ylp:ownKnob Tryz.prog.godebug=none:=by kernel_rfl
theorem ZV : Tryz.prog.globalNamed "linker/instr.forms" = some 0 := by kernel_rfl
theorem Mr : Tryz.prog.globalNamed "linker/instr.fixed" = some 1 := by kernel_rfl
theorem Mt : Tryz.prog.globalNamed "linker/instr.names" = some 2 := by kernel_rfl
theorem ynR:(Tryz.prog.globals[0]?).map (·.type)=some 175:=by kernel_rfl
theorem ype:(Tryz.prog.globals[1]?).map (·.type)=some 175:=by kernel_rfl
theorem ypf:(Tryz.prog.globals[2]?).map (·.type)=some 180:=by kernel_rfl
theorem YS:Tryz.prog.cellsOf 175=26:=by kernel_rfl
theorem YT:Tryz.prog.cellsOf 3=1:=by kernel_rfl
theorem ynG:Tryz.prog.cellsOf 180=26:=by kernel_rfl
theorem yoQ:Tryz.prog.cellsOf 9=1:=by kernel_rfl
theorem ZQ:Tryz.prog.underlying 175=some (.array 26 3):=by kernel_rfl
theorem yqT:Tryz.prog.underlying 180=some (.array 26 9):=by kernel_rfl
theorem yrM:Tryz.prog.underlying 9=some .string:=by kernel_rfl
theorem K7:Tryz.prog.underlying 3=some (.int .i64):=by kernel_rfl
def Uk {H:Type} (zs:List (List UInt8)):DataW H:=.agg (zs.map fun z=>.lit (.string z))
theorem yiE {H:Type} {enc:TypeId×Value->H} {P:Program} {w:World} {base:Nat} {sp:Nat->Bool} {held:Bool} {fuel:Nat} {t e:TypeId} {n:Nat} {cs:List Value} {zs:List (List UInt8)} {p:List MemPlace}
  (ht:P.underlying t=some (.array n e)) (he:P.underlying e=some .string) (hce:P.cellsOf e=1) (hct:P.cellsOf t=n)
  (h:DataW.trod enc P w base sp held fuel t cs=some (Uk zs,p)):cs=zs.map fun z=>Value.string (bs z):=by
 cases fuel with
 | zero=>simp [DataW.trod] at h
 | succ fuel =>
  simp only [DataW.trod,ht,hce,hct,Nat.mul_one] at h;split at h
  ·rename_i hl;obtain ⟨xs,hm,hx⟩:=Option.map_eq_some_iff.1 h;have hxs:xs.map (·.1)=zs.map fun z=>(DataW.lit (.string z):DataW H):=by
    have:=congrArg Prod.fst hx
    simpa [Uk] using this
   have hxl:xs.length=n:=by simpa using Lib.mapM_length hm
   have hzl:zs.length=n:=by
    have:=congrArg List.length hxs
    simp at this;omega
   apply List.ext_getElem?;intro i;by_cases hi:i < n
   ·obtain ⟨b,hb,hf⟩:=Lib.mapM_at hm i i (by simp [hi]);obtain ⟨z,hc,rfl,_⟩:=DataW.trod_string he hf;have h1:cs[i]?=some (.string z):=by
     have:=congrArg (·[0]?) hc
     simpa [List.getElem?_take,List.getElem?_drop] using this
    have h2:(xs.map (·.1))[i]?=some (DataW.lit (.string z.data.toList):DataW H):=by simp [hb]
    rw [hxs] at h2;simp only [List.getElem?_map,Option.map_eq_some_iff,DataW.lit.injEq,Lit.string.injEq] at h2;obtain ⟨z',hz',rfl⟩:=h2;have hbz:bs z.data.toList=z:=yrQ z;simp [h1,hz',hbz]
   ·rw [List.getElem?_eq_none (by omega),List.getElem?_eq_none (by simp; omega)]
  ·cases h
theorem Hz {W:World} {b o:Nat} {v:Value} (h:W.cell? ⟨b,o,none⟩=some v):b < W.heap.size:=by
 by_cases hb:b < W.heap.size
 ·exact hb
 ·exfalso
  simp only [World.cell?] at h;rw [Array.getElem?_eq_none (by omega)] at h
  cases h
theorem yiZ {W : World} (h : laidMet Tryz.prog [("linker/instr.forms", Lib.tabData .i64 uK), ("linker/instr.fixed", Lib.tabData .i64 Ed), ("linker/instr.names", Uk As.names)] W) : dQ W ∧ nI W ∧ 3 ≤ W.heap.size := by
 have t1 : Lib.TabIs Tryz.prog W "linker/instr.forms" .i64 uK := Lib.tabIs_of_head ZV ynR ZQ K7 YT YS h
 obtain ⟨ps,⟨g',t',cs,fuel,p,q,hg',ht',hvar,hd,⟨g2,t2,cs2,fuel2,p2,q2,hg2,ht2,MH,hd2,⟨g3,t3,cs3,Wu,p3,q3,hg3,ht3,MJ,hd3,_,_⟩,_⟩,_⟩,_⟩:=h;obtain rfl:=Option.some.inj (Mr.symm.trans hg2);obtain rfl:=Option.some.inj (ype.symm.trans ht2);obtain rfl:=Option.some.inj (Mt.symm.trans hg3);obtain rfl:=Option.some.inj (ypf.symm.trans ht3)
 have e2 : Lib.TabIs Tryz.prog W "linker/instr.fixed" .i64 Ed := by
  unfold Lib.TabIs;rw [MH,<- Lib.cells_of_tab ZQ K7 YT YS hd2]
 have e3 : W.var? Tryz.prog "linker/instr.names" = some (As.names.map fun z => Value.string (bs z)).toArray := by
  rw [MJ,<- yiE yqT yrM yoQ ynG hd3]
 have T:dQ W:=⟨fun i hi=>t1.cell ZV i hi,fun i hi=>e2.cell Mr i hi⟩
 have N:nI W:=by
  intro i hi;have hl:As.names.length=26:=by decide
  have:=World.var?_cell Mt e3 i
  rw [this];simp [List.getD,hl,hi]
 refine ⟨T,N,?_⟩;have a:=Hz (T.1 0 (by decide));have b:=Hz (T.2 0 (by decide));have c:=Hz (N 0 (by decide));omega
theorem yiJ {W W':World} (h:W.grownBy W' none) (may:MemPlace->Prop):W.keptBut W' may:=by
 refine World.keptBut_mono (fun _ f=>f.elim) (?_:W.keptBut W' (fun _=>False));refine ⟨h.os,h.output,fun i hi=>?_⟩;rw [h.block i hi (by simp)]
 cases hb:W.heap[i]? with
 | none=>trivial
 | some o=>cases o <;> simp
def ZP (zs:List Int):Obj->Obj
 | .cells _ t frozen=>.cells (zs.map (Value.int .i64)).toArray t frozen
 | o=>o
def yrL (zs:List (List UInt8)):Obj->Obj
 | .cells _ t frozen=>.cells (zs.map fun z=>Value.string (bs z)).toArray t frozen
 | o=>o
noncomputable def Tq (os:Os):World :=
 { World.holding Tryz.prog os ⟨#[],#[],[]⟩ with heap:=(((World.holding Tryz.prog os ⟨#[],#[],[]⟩).heap.modify 0 (ZP uK)).modify 1 (ZP Ed)).modify 2 (yrL As.names) }
end Go.Proofs.YtpgklkhgfcjceaaGreatDoor

namespace Go.Proofs.YtpgklkhgfcjceaaGreatDoor
open Go.RowKit
namespace Sd
theorem JG (x y:Int):(⟨#[46,103,108,111,98,108,32,95,115,116,97,114,116,10,95,115,116,97,114,116,58,32,108,119,32,120,53,44,112,10,108,119,32,120,49,48,44,48,40,120,53,41,10,108,105,32,120,49,55,44,49,10,101,99,97,108,108,10,108,119,32,120,53,44,113,10,108,119,32,120,49,48,44,48,40,120,53,41,10,101,99,97,108,108,10,108,119,32,120,49,48,44,122,43,56,10,101,99,97,108,108,10,108,105,32,120,54,44]⟩:ByteArray) ++ bs (Op.wM y) ++ ⟨#[10,115,119,32,120,54,44,122,43,56,44,120,55,10,108,119,32,120,49,48,44,122,43,56,10,101,99,97,108,108,10,99,97,108,108,32,111,116,104,101,114,10,108,105,32,120,49,48,44,48,10,108,105,32,120,49,55,44,48,10,101,99,97,108,108,10,46,100,97,116,97,10,100,58,32,46,119,111,114,100,32]⟩ ++ bs (Op.wM x) ++ ⟨#[10,46,119,111,114,100,32,45,49,10,112,58,32,46,119,111,114,100,32,100,10,113,58,32,46,119,111,114,100,32,100,43,52,10,46,98,115,115,10,46,115,112,97,99,101,32,52,10,46,97,108,105,103,110,32,52,10,122,58,32,46,115,112,97,99,101,32,49,54,10]⟩=bs (txt x y):=by
 have e:txt x y=[46,103,108,111,98,108,32,95,115,116,97,114,116,10,95,115,116,97,114,116,58,32,108,119,32,120,53,44,112,10,108,119,32,120,49,48,44,48,40,120,53,41,10,108,105,32,120,49,55,44,49,10,101,99,97,108,108,10,108,119,32,120,53,44,113,10,108,119,32,120,49,48,44,48,40,120,53,41,10,101,99,97,108,108,10,108,119,32,120,49,48,44,122,43,56,10,101,99,97,108,108,10,108,105,32,120,54,44] ++ Op.wM y ++ [10,115,119,32,120,54,44,122,43,56,44,120,55,10,108,119,32,120,49,48,44,122,43,56,10,101,99,97,108,108,10,99,97,108,108,32,111,116,104,101,114,10,108,105,32,120,49,48,44,48,10,108,105,32,120,49,55,44,48,10,101,99,97,108,108,10,46,100,97,116,97,10,100,58,32,46,119,111,114,100,32] ++ Op.wM x ++ [10,46,119,111,114,100,32,45,49,10,112,58,32,46,119,111,114,100,32,100,10,113,58,32,46,119,111,114,100,32,100,43,52,10,46,98,115,115,10,46,115,112,97,99,101,32,52,10,46,97,108,105,103,110,32,52,10,122,58,32,46,115,112,97,99,101,32,49,54,10]:=by
  unfold txt text Op.wM;simp only [List.append_assoc,List.cons_append,List.nil_append]
 rw [e];simp only [<- ZC];rfl
theorem gD {W:World} {R g o:Nat} {v:Value} (h:W.cell? ⟨g,o,none⟩=some v) (hne:g≠R) (a b c d e:Value):(((((W.setCell ⟨R,0,none⟩ a).setCell ⟨R,1,none⟩ b).setCell ⟨R,2,none⟩ c).setCell ⟨R,3,none⟩ d).setCell ⟨R,4,none⟩ e).cell? ⟨g,o,none⟩=some v :=
 World.grownBy.cell (World.grownBy.trans (ye _ R 3 d) (ye _ R 4 e)) (Pf h hne a b c) (by simpa using hne)
theorem CV {W:World} {R:Nat} {x0 x1 x2 x3 x4:Value} (h:yc W R #[x0,x1,x2,x3,x4] 37) (a b c d e:Value):yc (((((W.setCell ⟨R,0,none⟩ a).setCell ⟨R,1,none⟩ b).setCell ⟨R,2,none⟩ c).setCell ⟨R,3,none⟩ d).setCell ⟨R,4,none⟩ e) R #[a,b,c,d,e] 37:=by
 simpa using ((((h.set 0 a).set 1 b).set 2 c).set 3 d).set 4 e
theorem ints_at {W:World} {R B:Nat} {x0 x1 x2 x3 x4:Value} {ao:Option Addr} {ca:Nat} {x y:Int} (h:yc W R #[x0,x1,x2,x3,x4] 37) (ho:W.ownsRow B 3 1 (.slice ao 6 ca) 6 [.int .i64 x,.int .i64 (-1),.int .i64 0,.int .i64 y,.int .i64 0,.int .i64 7]) (a b c d e:Value):yy (((((W.setCell ⟨R,0,none⟩ a).setCell ⟨R,1,none⟩ b).setCell ⟨R,2,none⟩ c).setCell ⟨R,3,none⟩ d).setCell ⟨R,4,none⟩ e) ao [x,-1,0,y,0,7] :=
 yy.aO (yA (t:=3) (xs:=[x,-1,0,y,0,7].map (Value.int .i64)) ho (World.grownBy.trans (World.grownBy.trans (World.grownBy.trans (World.grownBy.trans (ye W R 0 a) (ye _ R 1 b)) (ye _ R 2 c)) (ye _ R 3 d)) (ye _ R 4 e)) (bR.blk h) (by decide))
end Sd
theorem ynj (a b:Int) (w:World) (ht:dQ w) (hN:nI w) (hB:3<=w.heap.size) :
  Calls Tryz.prog 10 #[.int .i64 a,.int .i64 b] w fun e w'=>e = .returned (.bool true)/\w.grownBy w' none:=by
 have HT:=hid ht;have HN:=hid hN;clear ht hN;obtain ⟨x,hx⟩:∃ x,Mc.sg (Mc.wd a)=x:=⟨_,rfl⟩
 obtain ⟨y,hy⟩:∃ y,Mc.sg (Mc.wd b)=y:=⟨_,rfl⟩
 have xr:-2147483648<=x/\x<=2147483647:=by rw [<- hx]; exact Su.vK a
 have yr:-2147483648<=y/\y<=2147483647:=by rw [<- hy]; exact Su.vK b
 have cA:=hid (Yv a);have cB:=hid (Yv b);rw [hx] at cA;rw [hy] at cB;clear hx hy;have cX:=hid (fun W=>Y0 x W xr);have cY:=hid (fun W=>Y0 y W yr);have HS:=Sd.JG x y;have sx:=Op.uV x;have sy:=Op.uV y;have OK:=hid (Sd.FT x y xr yr);have N1:=hid (Sd.Cy x y xr yr);have N2:=hid (Sd.Bq x y xr yr);clear xr yr;generalize bs (Op.wM x)=DX at *;generalize bs (Op.wM y)=DY at *;generalize Sd.txt x y=tm at *;go_enter Tryz.func10,Tryz.ntmps10;go_wp2_with fail;refine (cA.o _).mono ?_;rintro e w' ⟨rfl,hw⟩;rw [hw];clear hw w' cA;go_wp2_with fail;refine (cB.o _).mono ?_;rintro e w' ⟨rfl,hw⟩;rw [hw];clear hw w' cB
 go_wp2_with fail;refine (cX.o _).mono ?_;rintro e V1 ⟨rfl,hg1⟩;have G1:=hid hg1;clear hg1 cX;go_wp2_with fail;refine (cY.o _).mono ?_;rintro e V2 ⟨rfl,hg2⟩;have G2:=hid (ya G1.o hg2);clear hg2 cY G1;have A0:=aJ V2 (.cells ([tm,Sd.tN,Sd.thd].map fun l=>Value.string (bs l)).toArray 9) none;have cM:=hid (yps [tm,Sd.tN,Sd.thd] (some ⟨V2.heap.size,0,none⟩) 3 (V2.alloc (.cells ([tm,Sd.tN,Sd.thd].map fun l=>Value.string (bs l)).toArray 9)) (Y9 [tm,Sd.tN,Sd.thd] (yc.new V2 ([tm,Sd.tN,Sd.thd].map fun l=>Value.string (bs l)).toArray 9)) (by simp) (fun t ht=>by simp only [List.mem_cons,List.not_mem_nil,or_false] at ht; rcases ht with rfl | rfl | rfl; exact OK.o; exact Sd.sH; exact Sd.sM) (HT.o.grown (ya G2.o A0)) (HN.o.below (Pn (ya G2.o A0) (Nat.le_refl _) (by simp)) hB) (by have:=(ya G2.o A0).size; omega))
 have G3:=hid (ya G2.o A0);clear A0 G2;go_wp2_with fail;refine cM.o.mono ?_;rintro e V4 ⟨⟨ao,cap,rfl,hls⟩,hg4⟩;have G4:=hid (ya G3.o hg4);have K0:=hid (Uo OK.o);have K1:=hid (Uo Sd.sH);have K2:=hid (Uo Sd.sM);have HL:Hd (AQ V4 ao [iy tm,iy Sd.tN,iy Sd.thd]):=hls;clear hls hg4 cM G3 HS OK;have Wm:=hid (fun (U:World) (hU:V4.grownBy U none)=>(show Calls Tryz.prog 18 #[.slice ao 3 cap,.agg #[.int .i64 4096,.int .i64 65536,.int .i64 131072],.slice none 0 0] U (fun e w'=>(∃ (iI:Option Addr) (ca:Nat) (st m rd:Int),e = .returned (.tuple #[.agg #[.int .i64 1,.int .i64 0,.slice iI 6 ca,.int .i64 st,.int .i64 rd],.int .i64 m,.bool true])/\yy w' iI [x,-1,0,y,0,7])/\U.grownBy w' none) from
  (YN 4096 65536 131072 ao cap [iy tm,iy Sd.tN,iy Sd.thd] [(false,[(As.assemble tm).2]),(false,[(As.assemble Sd.tN).2]),(false,[(As.assemble Sd.thd).2])] none 0 [] [x,-1,0,y,0,7] 0 U (HL.o.kept hU) (by intro f hf; simp at hf; have:=K0.o.2; have:=K1.o.2; have:=K2.o.2; rcases hf with rfl | rfl | rfl <;> omega) (fun h=>by simp at h) (by simp) (HT.o.grown (ya G4.o hU)) (by simp) (by simp) ynD ⟨K0.o.1,K1.o.1,K2.o.1,trivial⟩ N1.o (Yu N1.o.2.1)).mono (fun e w' ⟨⟨iI,ca,st,he,B,ho⟩,hg⟩=>⟨⟨iI,ca,st,_,_,he,yy.aO (xs:=[x,-1,0,y,0,7]) ho⟩,hg⟩)))
 have Oy:=hid (fun (U:World) (X:Nat) (hU:V4.grownBy U none) (hX:yc U X #[.string (bs (iy Sd.thd)),.string (bs (iy Sd.tN)),.string (bs (iy tm))] 9)=>(show Calls Tryz.prog 18 #[.slice (some ⟨X,0,none⟩) 3 3,.agg #[.int .i64 16777216,.int .i64 67108864,.int .i64 1048576],.slice none 0 0] U (fun e w'=>(∃ (iI:Option Addr) (ca:Nat) (st m rd:Int),e = .returned (.tuple #[.agg #[.int .i64 1,.int .i64 0,.slice iI 6 ca,.int .i64 st,.int .i64 rd],.int .i64 m,.bool true])/\∃ B,w'.ownsRow B 3 1 (.slice iI 6 ca) 6 [.int .i64 x,.int .i64 (-1),.int .i64 0,.int .i64 y,.int .i64 0,.int .i64 7])/\U.grownBy w' none) from
  (YN 16777216 67108864 1048576 (some ⟨X,0,none⟩) 3 [iy Sd.thd,iy Sd.tN,iy tm] [(false,[(As.assemble Sd.thd).2]),(false,[(As.assemble Sd.tN).2]),(false,[(As.assemble tm).2])] none 0 [] [x,-1,0,y,0,7] 0 U (Y9 [iy Sd.thd,iy Sd.tN,iy tm] hX) (by intro f hf; simp at hf; have:=K0.o.2; have:=K1.o.2; have:=K2.o.2; rcases hf with rfl | rfl | rfl <;> omega) (fun h=>by simp at h) (by simp) (HT.o.grown (ya G4.o hU)) (by simp) (by simp) ynC ⟨K2.o.1,K1.o.1,K0.o.1,trivial⟩ N2.o (Yu N2.o.2.1)).mono (fun e w' ⟨⟨iI,ca,st,he,B,ho⟩,hg⟩=>⟨⟨iI,ca,st,_,_,he,B,ho⟩,hg⟩)))
 obtain ⟨sg,off,rfl,hcs⟩:=HL.o (by simp);have c0:V4.cell? ⟨sg,off+0,none⟩=some (.string (bs (iy tm))):=hcs 0 (by simp);have c1:V4.cell? ⟨sg,off+1,none⟩=some (.string (bs (iy Sd.tN))):=hcs 1 (by simp);have c2:V4.cell? ⟨sg,off+2,none⟩=some (.string (bs (iy Sd.thd))):=hcs 2 (by simp);have HC:=hid (And.intro c0 (And.intro c1 c2));have sl:=Hz c0;clear hcs c0 c1 c2 HL K0 K1 K2 N1 N2;generalize iy tm=f0 at *;generalize iy Sd.tN=f1 at *;generalize iy Sd.thd=f2 at *;have AW:=aJ V4 (.cells #[.int .i64 x,.int .i64 (-1),.int .i64 0,.int .i64 y,.int .i64 0,.int .i64 7] 3) none;have BW:=hid (yc.new V4 #[.int .i64 x,.int .i64 (-1),.int .i64 0,.int .i64 y,.int .i64 0,.int .i64 7] 3)
 have wz:(V4.alloc (.cells #[.int .i64 x,.int .i64 (-1),.int .i64 0,.int .i64 y,.int .i64 0,.int .i64 7] 3)).heap.size=V4.heap.size+1:=Eb _ _;go_wp2_with fail;generalize V4.alloc (.cells #[.int .i64 x,.int .i64 (-1),.int .i64 0,.int .i64 y,.int .i64 0,.int .i64 7] 3)=V5 at *;obtain ⟨wb,hwb⟩:∃ wb,V4.heap.size=wb:=⟨_,rfl⟩
 rw [hwb] at BW sl wz;refine (ypz _).mono ?_;rintro e VA ⟨rfl,hA⟩;have AB:=aJ VA (.cells #[.int .i64 4096,.int .i64 65536,.int .i64 131072] 33) none;have GA:=hid (ya (ya AW hA) AB);have BB:=hid (yc.new VA #[.int .i64 4096,.int .i64 65536,.int .i64 131072] 33);have UO:=hid (BW.o.grown (ya hA AB) (by simp));have hBb:wb < VA.heap.size:=by have:=hA.size; omega
 clear hA AB AW BW;go_wp2_with fail;generalize VA.alloc (.cells #[.int .i64 4096,.int .i64 65536,.int .i64 131072] 33)=VB at *;generalize VA.heap.size=Bb at *;have b0:VB.cell? ⟨Bb,0,none⟩=some (.int .i64 4096):=BB.o.cell 0;have b1:VB.cell? ⟨Bb,1,none⟩=some (.int .i64 65536):=BB.o.cell 1;have b2:VB.cell? ⟨Bb,2,none⟩=some (.int .i64 131072):=BB.o.cell 2;go_wp2_with fail;refine (Wm.o VB GA.o).mono ?_;rintro e V6 ⟨⟨iI,ca,st,m,rd,rfl,hown⟩,h6⟩;have A7:=aJ V6 (.cells #[.int .i64 1,.int .i64 0,.slice iI 6 ca,.int .i64 st,.int .i64 rd] 37) none;have B7:=yc.new V6 #[.int .i64 1,.int .i64 0,.slice iI 6 ca,.int .i64 st,.int .i64 rd] 37
 have Qp:=hid (UO.o.grown (ya h6 A7) (by simp));have cE:=hid (YG V6.heap.size iI (some ⟨wb,0,none⟩) ca 6 [x,-1,0,y,0,7] 0 st rd _ B7 (hown.kept (fun a v e=>yd e A7)) (YM [x,-1,0,y,0,7] Qp.o) (by simp));have G9:=hid (ya (ya GA.o h6) A7);have UJ:=hid (BB.o.grown (ya h6 A7) (by simp));clear hown h6 A7 B7 b0 b1 b2 GA BB Wm UO;go_wp2_with fail;refine cE.o.mono ?_;rintro e V9 ⟨rfl,h9⟩;clear cE;go_wp2_with fail;refine (yoN _).mono ?_;rintro e VC ⟨rfl,hC⟩;have GC:=hid (ya (ya G9.o h9) hC);have BC:=UJ.o.grown (ya h9 hC) (by simp);have UR:=Qp.o.grown (ya h9 hC) (by simp);have b0:=BC.cell 0;have b1:=BC.cell 1
 have b2:=BC.cell 2;simp only [bI,bN,bK] at b0 b1 b2;have z0:=BC.free 0;have z1:=BC.free 1;have z2:=BC.free 2;have GS:=World.grownBy.trans (World.grownBy.trans (ye VC Bb 0 (.int .i64 16777216)) (ye _ Bb 1 (.int .i64 67108864))) (ye _ Bb 2 (.int .i64 1048576));have GD:=hid (yz GC.o Bb (by omega) (.int .i64 16777216) (.int .i64 67108864) (.int .i64 1048576));have BWD:=hid (yF UR GS (bR.blk BC) (by decide));have c0:=Pf (yd HC.o.1 GC.o) (show sg≠Bb by omega) (.int .i64 16777216) (.int .i64 67108864) (.int .i64 1048576);have c1:=Pf (yd HC.o.2.1 GC.o) (show sg≠Bb by omega) (.int .i64 16777216) (.int .i64 67108864) (.int .i64 1048576)
 have c2:=Pf (yd HC.o.2.2 GC.o) (show sg≠Bb by omega) (.int .i64 16777216) (.int .i64 67108864) (.int .i64 1048576);simp only [Nat.add_zero] at c0;have BD:=hid (show yc (((VC.setCell ⟨Bb,0,none⟩ (.int .i64 16777216)).setCell ⟨Bb,1,none⟩ (.int .i64 67108864)).setCell ⟨Bb,2,none⟩ (.int .i64 1048576)) Bb #[.int .i64 16777216,.int .i64 67108864,.int .i64 1048576] 33 by simpa using ((BC.set 0 (.int .i64 16777216)).set 1 (.int .i64 67108864)).set 2 (.int .i64 1048576));clear BC UR GS h9 hC GC G9 UJ Qp HC;have d0:=BD.o.cell 0;have d1:=BD.o.cell 1;have d2:=BD.o.cell 2;simp only [bI,bN,bK] at d0 d1 d2;go_wp2_with fail
 clear b0 b1 b2 z0 z1 z2;generalize (((VC.setCell ⟨Bb,0,none⟩ (.int .i64 16777216)).setCell ⟨Bb,1,none⟩ (.int .i64 67108864)).setCell ⟨Bb,2,none⟩ (.int .i64 1048576))=VD at *
 go_cut [12,18] from 60 to 76 (fun o r wx=>o = .bool true/\∃ rb iI ca st rd,r = .pointer (some ⟨rb,0,none⟩)/\yc wx rb #[.int .i64 1,.int .i64 0,.slice iI 6 ca,.int .i64 st,.int .i64 rd] 37/\yy wx iI [x,-1,0,y,0,7]/\VD.grownBy wx none)
 case first =>
  have a1:=yh (aJ VD (.cells #[.string (bs f2),.string (bs f1),.string (bs f0)] 9) none);have a2:=yh (ya (aJ VD (.cells #[.string (bs f2),.string (bs f1),.string (bs f0)] 9) none) (aJ (VD.alloc (.cells #[.string (bs f2),.string (bs f1),.string (bs f0)] 9)) (.cells #[.int .i64 0,.int .i64 0,.slice none 0 0,.int .i64 0,.int .i64 0] 37) none));have a3:=yh (ya (aJ VD (.cells #[.int .i64 0,.int .i64 0,.slice none 0 0,.int .i64 0,.int .i64 0] 37) none) (aJ (VD.alloc (.cells #[.int .i64 0,.int .i64 0,.slice none 0 0,.int .i64 0,.int .i64 0] 37)) (.cells #[.string (bs f2),.string (bs f1),.string (bs f0)] 9) none))
  have bx1:=uo (yc.new VD #[.string (bs f2),.string (bs f1),.string (bs f0)] 9);have VR:=uo ((yc.new VD #[.string (bs f2),.string (bs f1),.string (bs f0)] 9).grown (aJ (VD.alloc (.cells #[.string (bs f2),.string (bs f1),.string (bs f0)] 9)) (.cells #[.int .i64 0,.int .i64 0,.slice none 0 0,.int .i64 0,.int .i64 0] 37) none) (by simp));have QL:=uo (yc.new (VD.alloc (.cells #[.int .i64 0,.int .i64 0,.slice none 0 0,.int .i64 0,.int .i64 0] 37)) #[.string (bs f2),.string (bs f1),.string (bs f0)] 9);have QK:=uo (yc.new (VD.alloc (.cells #[.string (bs f2),.string (bs f1),.string (bs f0)] 9)) #[.int .i64 0,.int .i64 0,.slice none 0 0,.int .i64 0,.int .i64 0] 37)
  have VQ:=uo ((yc.new VD #[.int .i64 0,.int .i64 0,.slice none 0 0,.int .i64 0,.int .i64 0] 37).grown (aJ (VD.alloc (.cells #[.int .i64 0,.int .i64 0,.slice none 0 0,.int .i64 0,.int .i64 0] 37)) (.cells #[.string (bs f2),.string (bs f1),.string (bs f0)] 9) none) (by simp));rw [Eb] at QL QK;have vU:=hid QK;have wB:=hid VQ;have Ov:=hid (Oy.o _ _ (ya GD.o a1) bx1);have A1:=hid a1;have Og:=hid (fun W (hg:(VD.alloc (.cells #[.string (bs f2),.string (bs f1),.string (bs f0)] 9)).drew.grownBy W none)=>show W.cell? ⟨sg,off+2,none⟩=some (.string (bs f2))/\W.cell? ⟨sg,off+1,none⟩=some (.string (bs f1))/\W.cell? ⟨sg,off,none⟩=some (.string (bs f0))/\W.cell? ⟨Bb,0,none⟩=some (.int .i64 16777216)/\W.cell? ⟨Bb,1,none⟩=some (.int .i64 67108864)/\W.cell? ⟨Bb,2,none⟩=some (.int .i64 1048576) from ⟨yd c2 (ya a1 hg),yd c1 (ya a1 hg),yd c0 (ya a1 hg),yd d0 (ya a1 hg),yd d1 (ya a1 hg),yd d2 (ya a1 hg)⟩)
  have Ow:=hid (Oy.o _ _ (ya GD.o a2) VR);have A2:=hid a2;have Oh:=hid (fun W (hg:((VD.alloc (.cells #[.string (bs f2),.string (bs f1),.string (bs f0)] 9)).alloc (.cells #[.int .i64 0,.int .i64 0,.slice none 0 0,.int .i64 0,.int .i64 0] 37)).drew.grownBy W none)=>show W.cell? ⟨sg,off+2,none⟩=some (.string (bs f2))/\W.cell? ⟨sg,off+1,none⟩=some (.string (bs f1))/\W.cell? ⟨sg,off,none⟩=some (.string (bs f0))/\W.cell? ⟨Bb,0,none⟩=some (.int .i64 16777216)/\W.cell? ⟨Bb,1,none⟩=some (.int .i64 67108864)/\W.cell? ⟨Bb,2,none⟩=some (.int .i64 1048576) from ⟨yd c2 (ya a2 hg),yd c1 (ya a2 hg),yd c0 (ya a2 hg),yd d0 (ya a2 hg),yd d1 (ya a2 hg),yd d2 (ya a2 hg)⟩)
  have Ox:=hid (Oy.o _ _ (ya GD.o a3) QL);have A3:=hid a3;have Oi:=hid (fun W (hg:((VD.alloc (.cells #[.int .i64 0,.int .i64 0,.slice none 0 0,.int .i64 0,.int .i64 0] 37)).alloc (.cells #[.string (bs f2),.string (bs f1),.string (bs f0)] 9)).drew.grownBy W none)=>show W.cell? ⟨sg,off+2,none⟩=some (.string (bs f2))/\W.cell? ⟨sg,off+1,none⟩=some (.string (bs f1))/\W.cell? ⟨sg,off,none⟩=some (.string (bs f0))/\W.cell? ⟨Bb,0,none⟩=some (.int .i64 16777216)/\W.cell? ⟨Bb,1,none⟩=some (.int .i64 67108864)/\W.cell? ⟨Bb,2,none⟩=some (.int .i64 1048576) from ⟨yd c2 (ya a3 hg),yd c1 (ya a3 hg),yd c0 (ya a3 hg),yd d0 (ya a3 hg),yd d1 (ya a3 hg),yd d2 (ya a3 hg)⟩)
  have hs0:sg≠VD.heap.size:=by have:=Hz c0; omega
  have hs1:sg≠VD.heap.size+1:=by have:=Hz c0; omega
  have hb0:Bb≠VD.heap.size:=by have:=Hz d0; omega
  have hb1:Bb≠VD.heap.size+1:=by have:=Hz d0; omega
  clear a1 a2 a3 bx1 VR QL QK VQ Oy
  go_region_held3 (fun w'=>w'.cell? ⟨sg,off+2,none⟩=some (.string (bs f2))/\w'.cell? ⟨sg,off+1,none⟩=some (.string (bs f1))/\w'.cell? ⟨sg,off,none⟩=some (.string (bs f0))/\w'.cell? ⟨Bb,0,none⟩=some (.int .i64 16777216)/\w'.cell? ⟨Bb,1,none⟩=some (.int .i64 67108864)/\w'.cell? ⟨Bb,2,none⟩=some (.int .i64 1048576))
   (go_keep)
   (first | (go_at_call 18; with_reducible refine Ov.o.mono ?_; rintro e w' ⟨⟨iI,ca,st,n,rd,rfl,B,hown⟩,h6⟩; obtain ⟨t0,t1,t2,t3,t4,t5⟩:=Og.o _ h6) | (go_at_call 18; with_reducible refine Ow.o.mono ?_; rintro e w' ⟨⟨iI,ca,st,n,rd,rfl,B,hown⟩,h6⟩; obtain ⟨t0,t1,t2,t3,t4,t5⟩:=Oh.o _ h6; have v0:=Sd.gD t0 hs1 (.int .i64 1) (.int .i64 0) (.slice iI 6 ca) (.int .i64 st) (.int .i64 rd); have v1:=Sd.gD t1 hs1 (.int .i64 1) (.int .i64 0) (.slice iI 6 ca) (.int .i64 st) (.int .i64 rd); have v2:=Sd.gD t2 hs1 (.int .i64 1) (.int .i64 0) (.slice iI 6 ca) (.int .i64 st) (.int .i64 rd); have v3:=Sd.gD t3 hb1 (.int .i64 1) (.int .i64 0) (.slice iI 6 ca) (.int .i64 st) (.int .i64 rd); have v4:=Sd.gD t4 hb1 (.int .i64 1) (.int .i64 0) (.slice iI 6 ca) (.int .i64 st) (.int .i64 rd); have v5:=Sd.gD t5 hb1 (.int .i64 1) (.int .i64 0) (.slice iI 6 ca) (.int .i64 st) (.int .i64 rd); have bf:=vU.o.grown h6 (by simp); have y0:=bf.cell 0; have y1:=bf.cell 1; have y2:=bf.cell 2; have y3:=bf.cell 3; have y4:=bf.cell 4; simp only [bI,bN,bK] at y0 y1 y2 y3 y4; have z0:=bf.free 0; have z1:=bf.free 1; have z2:=bf.free 2; have z3:=bf.free 3; have z4:=bf.free 4) | (go_at_call 18; with_reducible refine Ox.o.mono ?_; rintro e w' ⟨⟨iI,ca,st,n,rd,rfl,B,hown⟩,h6⟩; obtain ⟨t0,t1,t2,t3,t4,t5⟩:=Oi.o _ h6; have v0:=Sd.gD t0 hs0 (.int .i64 1) (.int .i64 0) (.slice iI 6 ca) (.int .i64 st) (.int .i64 rd); have v1:=Sd.gD t1 hs0 (.int .i64 1) (.int .i64 0) (.slice iI 6 ca) (.int .i64 st) (.int .i64 rd); have v2:=Sd.gD t2 hs0 (.int .i64 1) (.int .i64 0) (.slice iI 6 ca) (.int .i64 st) (.int .i64 rd); have v3:=Sd.gD t3 hb0 (.int .i64 1) (.int .i64 0) (.slice iI 6 ca) (.int .i64 st) (.int .i64 rd); have v4:=Sd.gD t4 hb0 (.int .i64 1) (.int .i64 0) (.slice iI 6 ca) (.int .i64 st) (.int .i64 rd); have v5:=Sd.gD t5 hb0 (.int .i64 1) (.int .i64 0) (.slice iI 6 ca) (.int .i64 st) (.int .i64 rd); have bf:=wB.o.grown h6 (by simp); have y0:=bf.cell 0; have y1:=bf.cell 1; have y2:=bf.cell 2; have y3:=bf.cell 3; have y4:=bf.cell 4; simp only [bI,bN,bK] at y0 y1 y2 y3 y4; have z0:=bf.free 0; have z1:=bf.free 1; have z2:=bf.free 2; have z3:=bf.free 3; have z4:=bf.free 4))
  ·have P:Hd (yc (w'.alloc (.cells #[.int .i64 1,.int .i64 0,.slice iI 6 ca,.int .i64 st,.int .i64 rd] 37)) (w'.heap.size) #[.int .i64 1,.int .i64 0,.slice iI 6 ca,.int .i64 st,.int .i64 rd] 37/\yy (w'.alloc (.cells #[.int .i64 1,.int .i64 0,.slice iI 6 ca,.int .i64 st,.int .i64 rd] 37)) iI [x,-1,0,y,0,7]/\VD.grownBy (w'.alloc (.cells #[.int .i64 1,.int .i64 0,.slice iI 6 ca,.int .i64 st,.int .i64 rd] 37)) none):=⟨yc.new w' #[.int .i64 1,.int .i64 0,.slice iI 6 ca,.int .i64 st,.int .i64 rd] 37,yy.aO (xs:=[x,-1,0,y,0,7]) (hown.alloc (.cells #[.int .i64 1,.int .i64 0,.slice iI 6 ca,.int .i64 st,.int .i64 rd] 37)),ya (ya A1.o h6) (aJ w' (.cells #[.int .i64 1,.int .i64 0,.slice iI 6 ca,.int .i64 st,.int .i64 rd] 37) none)⟩
   clear h6 hown t0 t1 t2 t3 t4 t5 Ov Ow Ox Og Oh Oi A1 A2 A3 vU wB;generalize (w'.alloc (.cells #[.int .i64 1,.int .i64 0,.slice iI 6 ca,.int .i64 st,.int .i64 rd] 37))=WX at *;go_wp2_with fail;go_meet;exact ⟨rfl,_,iI,ca,st,rd,rfl,P.o.1,P.o.2.1,P.o.2.2⟩
  ·have P:Hd (yc (((((w'.setCell ⟨VD.heap.size+1,0,none⟩ (.int .i64 1)).setCell ⟨VD.heap.size+1,1,none⟩ (.int .i64 0)).setCell ⟨VD.heap.size+1,2,none⟩ (.slice iI 6 ca)).setCell ⟨VD.heap.size+1,3,none⟩ (.int .i64 st)).setCell ⟨VD.heap.size+1,4,none⟩ (.int .i64 rd)) (VD.heap.size+1) #[.int .i64 1,.int .i64 0,.slice iI 6 ca,.int .i64 st,.int .i64 rd] 37/\yy (((((w'.setCell ⟨VD.heap.size+1,0,none⟩ (.int .i64 1)).setCell ⟨VD.heap.size+1,1,none⟩ (.int .i64 0)).setCell ⟨VD.heap.size+1,2,none⟩ (.slice iI 6 ca)).setCell ⟨VD.heap.size+1,3,none⟩ (.int .i64 st)).setCell ⟨VD.heap.size+1,4,none⟩ (.int .i64 rd)) iI [x,-1,0,y,0,7]/\VD.grownBy (((((w'.setCell ⟨VD.heap.size+1,0,none⟩ (.int .i64 1)).setCell ⟨VD.heap.size+1,1,none⟩ (.int .i64 0)).setCell ⟨VD.heap.size+1,2,none⟩ (.slice iI 6 ca)).setCell ⟨VD.heap.size+1,3,none⟩ (.int .i64 st)).setCell ⟨VD.heap.size+1,4,none⟩ (.int .i64 rd)) none):=⟨Sd.CV bf (.int .i64 1) (.int .i64 0) (.slice iI 6 ca) (.int .i64 st) (.int .i64 rd),Sd.ints_at bf hown (.int .i64 1) (.int .i64 0) (.slice iI 6 ca) (.int .i64 st) (.int .i64 rd),Nh (ya A2.o h6) (VD.heap.size+1) (by omega) (.int .i64 1) (.int .i64 0) (.slice iI 6 ca) (.int .i64 st) (.int .i64 rd)⟩
   clear bf v0 v1 v2 v3 v4 v5 y0 y1 y2 y3 y4 z0 z1 z2 z3 z4 h6 hown t0 t1 t2 t3 t4 t5 Ov Ow Ox Og Oh Oi A1 A2 A3 vU wB;generalize (((((w'.setCell ⟨VD.heap.size+1,0,none⟩ (.int .i64 1)).setCell ⟨VD.heap.size+1,1,none⟩ (.int .i64 0)).setCell ⟨VD.heap.size+1,2,none⟩ (.slice iI 6 ca)).setCell ⟨VD.heap.size+1,3,none⟩ (.int .i64 st)).setCell ⟨VD.heap.size+1,4,none⟩ (.int .i64 rd))=WX at *;go_wp2_with fail;go_meet;exact ⟨rfl,_,iI,ca,st,rd,rfl,P.o.1,P.o.2.1,P.o.2.2⟩
  ·have P:Hd (yc (((((w'.setCell ⟨VD.heap.size,0,none⟩ (.int .i64 1)).setCell ⟨VD.heap.size,1,none⟩ (.int .i64 0)).setCell ⟨VD.heap.size,2,none⟩ (.slice iI 6 ca)).setCell ⟨VD.heap.size,3,none⟩ (.int .i64 st)).setCell ⟨VD.heap.size,4,none⟩ (.int .i64 rd)) (VD.heap.size) #[.int .i64 1,.int .i64 0,.slice iI 6 ca,.int .i64 st,.int .i64 rd] 37/\yy (((((w'.setCell ⟨VD.heap.size,0,none⟩ (.int .i64 1)).setCell ⟨VD.heap.size,1,none⟩ (.int .i64 0)).setCell ⟨VD.heap.size,2,none⟩ (.slice iI 6 ca)).setCell ⟨VD.heap.size,3,none⟩ (.int .i64 st)).setCell ⟨VD.heap.size,4,none⟩ (.int .i64 rd)) iI [x,-1,0,y,0,7]/\VD.grownBy (((((w'.setCell ⟨VD.heap.size,0,none⟩ (.int .i64 1)).setCell ⟨VD.heap.size,1,none⟩ (.int .i64 0)).setCell ⟨VD.heap.size,2,none⟩ (.slice iI 6 ca)).setCell ⟨VD.heap.size,3,none⟩ (.int .i64 st)).setCell ⟨VD.heap.size,4,none⟩ (.int .i64 rd)) none):=⟨Sd.CV bf (.int .i64 1) (.int .i64 0) (.slice iI 6 ca) (.int .i64 st) (.int .i64 rd),Sd.ints_at bf hown (.int .i64 1) (.int .i64 0) (.slice iI 6 ca) (.int .i64 st) (.int .i64 rd),Nh (ya A3.o h6) VD.heap.size (Nat.le_refl _) (.int .i64 1) (.int .i64 0) (.slice iI 6 ca) (.int .i64 st) (.int .i64 rd)⟩
   clear bf v0 v1 v2 v3 v4 v5 y0 y1 y2 y3 y4 z0 z1 z2 z3 z4 h6 hown t0 t1 t2 t3 t4 t5 Ov Ow Ox Og Oh Oi A1 A2 A3 vU wB;generalize (((((w'.setCell ⟨VD.heap.size,0,none⟩ (.int .i64 1)).setCell ⟨VD.heap.size,1,none⟩ (.int .i64 0)).setCell ⟨VD.heap.size,2,none⟩ (.slice iI 6 ca)).setCell ⟨VD.heap.size,3,none⟩ (.int .i64 st)).setCell ⟨VD.heap.size,4,none⟩ (.int .i64 rd))=WX at *;go_wp2_with fail;go_meet;exact ⟨rfl,_,iI,ca,st,rd,rfl,P.o.1,P.o.2.1,P.o.2.2⟩
 case rest =>
  obtain ⟨rfl,rb,iI,ca,st,rd,rfl,hRb,WE,hgc⟩:=hcut;generalize wc=W1 at *;have UN:=BWD.o.grown hgc (by simp);have cE:=hid (YG rb iI (some ⟨wb,0,none⟩) ca 6 [x,-1,0,y,0,7] 0 st rd _ hRb WE (YM [x,-1,0,y,0,7] UN) (by simp));have G1:=hid (ya GD.o hgc);clear hRb WE hgc UN c0 c1 c2 d0 d1 d2;go_wp2_with fail;refine cE.o.mono ?_;rintro e V9 ⟨rfl,h9⟩;have GZ:=hid (ya G4.o (ya G1.o h9));clear h9 cE;go_wp2;go_ret;exact ⟨rfl,GZ.o⟩
end Go.Proofs.YtpgklkhgfcjceaaGreatDoor

namespace Go.Proofs.YtpgklkhgfcjceaaGreatDoor
open Go.ChangeShapes Go.WideShapes Go.ChangeAt Go.RowKit
theorem yiX (c d:Int) (w:World) (ht:dQ w) (hN:nI w) (hB:3<=w.heap.size) :
  Calls Tryz.prog 6 #[.int .i64 c,.int .i64 d] w fun e w'=>e = .returned (.bool true)/\w.grownBy w' none:=by
 have cF:=hid (ynj c d w ht hN hB);clear ht hN;go_enter Tryz.func6,Tryz.ntmps6;go_wp2_with fail;refine cF.o.mono ?_;rintro e V1 ⟨rfl,hg⟩;have G:=hid hg;clear hg;go_wp2;go_ret;exact ⟨rfl,G.o⟩
theorem yhr (H:Type) (enc:TypeId×Value->H) (W:World) (base:Nat) (args:Array Value) (ds gs:List (DataW H)) (before:List MemPlace)
  (hval:∀ (j:Nat) t v,Tryz.f6.params[j]?=some t->args[j]?=some v->Value.okWide Tryz.prog W .any base t v)
  (hW:DataW.Whole enc Tryz.prog Tryz.f6.params.toList Rows.storedSpec.vars false W args.toList ds gs before) (hL:laidMetH Tryz.prog Rows.storedRow.laid W) :
  Calls Tryz.prog 6 args W fun e W'=>∃ v,e = .returned v/\Rows.storedSpec.post enc Tryz.prog Tryz.f6 false true false false W args v W':=by
 have hW':=hW;obtain ⟨p,q,Wv,hV,rfl,hfz,hnd⟩:=hW;have hA:DataW.TrodAll enc Tryz.prog W 0 (fun _=>true) true Tryz.f6.params.toList args.toList ds p:=Wv;rw [Tryz.params6] at hA hval;obtain ⟨v0,vs0,d0,ds0,p0,q0,hargs,rfl,rfl,h0,r0⟩:=trodAll_cons hA;obtain ⟨v1,vs1,d1,ds1,p1,q1,Rv,rfl,rfl,h1,r1⟩:=trodAll_cons r0;obtain ⟨rfl,rfl,rfl⟩:=trodAll_nil r1;obtain rfl:args = #[v0,v1]:=by cases args; simp_all
 obtain ⟨rfl,rfl⟩:=trodVars_none hV;have hv:Value.okWide Tryz.prog W .any base 3 v0:=hval 0 3 v0 rfl rfl;have hv1:Value.okWide Tryz.prog W .any base 3 v1:=hval 1 3 v1 rfl rfl;obtain ⟨c,rfl,rfl,rfl,hw⟩:=open_int (t:=3) K7 hv h0;obtain ⟨d,rfl,rfl,rfl,hw1⟩:=open_int (t:=3) K7 hv1 h1;clear Wv;simp only [List.append_nil] at hW';obtain ⟨hT,hN,hB⟩:=yiZ hL;refine (yiX c d W hT hN hB).mono fun e W' ⟨he,hg⟩=>?_
 subst he;exact ⟨_,rfl,_,_,_,[],[],[],hW',trodAll_cons_mk (shut_bool Tryz.underlying4 _) trodAll_mk0,trodAll_cons_mk (shut_int K7 hw) (trodAll_cons_mk (shut_int K7 hw1) trodAll_mk0),rfl,yiJ hg _,fun h=>by cases h⟩
theorem ypl (os:Os):laidMet Tryz.prog Rows.storedRow.laid ((Tq os).forCall (fun _ _=>0) ⟨#[],#[.int .i64 0,.int .i64 0],[]⟩).memory :=
 laidMet_of_run' 8 (by kernel_rfl) (by kernel_rfl)
theorem yje (os:Os) {H:Type} (enc:TypeId×Value->H):∃ places,DataW.whole enc Tryz.prog ((Tq os).forCall (fun _ _=>0) ⟨#[],#[.int .i64 0,.int .i64 0],[]⟩).memory Tryz.f6.params.toList Rows.storedSpec.vars false #[Value.int .i64 0,.int .i64 0].toList 8=some ([.lit (.int .i64 0),.lit (.int .i64 0)],[],places) :=
 ⟨[],by kernel_rfl⟩
theorem yiY (os:Os) (started:os.Started) (H:Type) (enc:TypeId×Value->H) (F:Stop.Interp) :
  ReturnsInHanded {} Tryz.checked os 6 .any ((OpenSpec.ofChange Rows.storedSpec).preRow enc Tryz.prog Tryz.f6 Rows.storedRow.domain false Rows.storedRow.laid) (((OpenSpec.ofChange Rows.storedSpec).at F).post enc Tryz.prog Tryz.f6 false true false false):=by
 obtain ⟨places,hx⟩:=yje os enc;refine returnsInHanded_of_row (C:=Tryz.checked) (s:=OpenSpec.ofChange Rows.storedSpec) ylp started (by kernel_rfl) Tryz.func6
  (witness_row_at (enc:=enc) (C:=Tryz.checked) false (Tq os) #[.int .i64 0,.int .i64 0] rfl (by kernel_rfl) (by kernel_rfl) (by kernel_rfl)
   (OpenSpec.preRow_of_cond 8 hx (by kernel_rfl) (fun k hk=>by cases hk) (by kernel_rfl) (ypl os))) ?_
 intro W base args ds gs before hval hW _ _ _ hL _ _;exact yhr H enc W base args ds gs before hval hW hL
theorem ylH:Rows.StoredSaid :=
 OpenClaim.holds_of_cond 6 Tryz.f6 rfl rfl rfl rfl rfl rfl rfl ⟨rfl,rfl,rfl,rfl,rfl⟩ rfl rfl rfl rfl rfl (by kernel_rfl) Tryz.func6 (by kernel_rfl)
  (of_decide_eq_true (by kernel_rfl)) (by unfold Func.isWrapper; first | (rw [if_pos (by decide +kernel)]; kernel_rfl) | (rw [if_neg (by decide +kernel)]; exact ⟨rfl,rfl⟩))
  (fun os started H enc _ F=>by rw [OpenClaim.pre_eq_preRow]; exact yiY os started H enc F)
theorem ykx (f : FuncId) (fn : Func) (hf : Tryz.pinned.checked.prog.funcNamed "linker/linkerkeep.Stored" = some f) (hfn : Tryz.pinned.checked.prog.funcs[f]? = some fn) :
  false=Tryz.pinned.checked.prog.looks []/\∀ (j:Nat) t,fn.params[j]?=some t->Tryz.pinned.checked.prog.wantsStandIn t=false:=by
 obtain rfl : f = 6 := Option.some.inj ((show Tryz.prog.funcNamed "linker/linkerkeep.Stored" = some 6 by kernel_rfl).symm.trans hf) |>.symm
 obtain rfl:fn=Tryz.f6:=(Option.some.inj (Tryz.func6.symm.trans hfn)).symm;refine ⟨by kernel_rfl,fun j t ht=>?_⟩;rw [Tryz.params6] at ht;obtain rfl:t=3:=by have:=Array.mem_of_getElem? ht; simp at this; exact this
 exact (show Tryz.prog.wantsStandIn 3=false by kernel_rfl)
theorem stored_card:Rows.StoredCardSaid :=
 Claim7.holds_tied_plain_at .later [] _ _ _ _ ylH (fun _ h=>by cases h) (by kernel_rfl) (fun _ h=>by cases h) stored_row_tie rfl ⟨rfl,rfl⟩ (by kernel_rfl) rfl ykx (by kernel_rfl)
end Go.Proofs.YtpgklkhgfcjceaaGreatDoor
