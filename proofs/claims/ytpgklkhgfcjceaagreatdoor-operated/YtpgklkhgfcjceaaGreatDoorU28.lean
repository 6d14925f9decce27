
import Derived.Test.YtpgklkhgfcjceaaGreatDoorU27
import Derived.ProofKit
import Derived.OpenShut
import Derived.ChangeMaps5
import Derived.Deep.DeepHandedRow
import Derived.Lib.LaidTab
import Derived.Test.YtpgklkhgfcjceaaGreatDoorCards
import Derived.Test.YtpgklkhgfcjceaaGreatDoorTie
set_option maxHeartbeats 16000000
set_option maxRecDepth 100000
namespace Go.Proofs.YtpgklkhgfcjceaaGreatDoor
open Go.RowKit
theorem Wi (k:Nat) (hk:k < 7) (a b:Int) (w:World) (ha:-2147483648<=a/\a<=2147483647) (hb:-2147483648<=b/\b<=2147483647) :
  Calls Tryz.prog 13 #[.int .i64 k,.int .i64 a,.int .i64 b] w fun e w'=>e = .returned (.tuple #[.string (bs (Op.names.getD k [])),.int .i64 (Op.Bf k a b)])/\w'=w:=by
 obtain ⟨x,hx,xl⟩:=Op.pG a;obtain ⟨y,hy,yl⟩:=Op.pG b;have E1:bits .and .i64 a 4294967295=(x:Int):=(Pm a).trans hx;have E2:bits .and .i64 b 4294967295=(y:Int):=(Pm b).trans hy;have cW:=hid Ro;have cB:=hid (fun W=>ZN x y W xl yl);have l1:x &&& y<=x:=Nat.and_le_left;have V1:=hid (Op.nM a b);have V2:=hid (Op.uI a b);rw [hx,hy] at V1 V2;have BE:Op.both (x:Int) (y:Int)=((x &&& y:Nat):Int):=by unfold Op.both; rw [Int.toNat_natCast,Int.toNat_natCast]
 rw [BE] at V2;generalize x &&& y=z at *;have w1:IntKind.i64.wrap (a+b)=a+b:=IntWalk.i64_in _ ⟨by omega,by omega⟩;have w2:IntKind.i64.wrap (a - b)=a - b:=IntWalk.i64_in _ ⟨by omega,by omega⟩;have w3:IntKind.i64.wrap ((x:Int)+(y:Int))=(x:Int)+(y:Int):=IntWalk.i64_in _ ⟨by omega,by omega⟩;have w4:IntKind.i64.wrap (2 * (z:Int))=2 * (z:Int):=IntWalk.i64_in _ ⟨by omega,by omega⟩;have w5:IntKind.i64.wrap ((x:Int)+(y:Int) - 2 * (z:Int))=(x:Int)+(y:Int) - 2 * (z:Int):=IntWalk.i64_in _ ⟨by omega,by omega⟩;have w6:IntKind.i64.wrap ((x:Int)+(y:Int) - (z:Int))=(x:Int)+(y:Int) - (z:Int):=IntWalk.i64_in _ ⟨by omega,by omega⟩
 clear hx hy BE;by_cases c1:a < b <;> by_cases c2:(x:Int) < (y:Int)
 all_goals
  rcases (show k=0\/k=1\/k=2\/k=3\/k=4\/k=5\/k=6 by omega) with rfl | rfl | rfl | rfl | rfl | rfl | rfl
 all_goals
  clear hk;go_enter Tryz.func13,Tryz.ntmps13;go_wp2_with fail
 all_goals first
  | (refine (cW.o _ _).mono ?_; rintro e w' ⟨rfl,hw⟩; rw [hw]; clear hw w'; go_wp2; go_ret2; first | exact ⟨by rw [V1.o.1]; rfl,rfl⟩ | exact ⟨by rw [V1.o.2.1]; rfl,rfl⟩)
  | (refine (cB.o _).mono ?_; rintro e w' ⟨rfl,hw⟩; rw [hw]; clear hw w'; go_wp2_with fail; refine (cW.o _ _).mono ?_; rintro e w' ⟨rfl,hw⟩; rw [hw]; clear hw w'; go_wp2; go_ret2; first | exact ⟨by rw [V2.o.1]; rfl,rfl⟩ | exact ⟨by rw [V2.o.2.1]; rfl,rfl⟩ | exact ⟨by rw [V2.o.2.2]; rfl,rfl⟩)
  | (go_ret2; first | exact ⟨by rw [V1.o.2.2.1,if_pos (by omega)]; rfl,rfl⟩ | exact ⟨by rw [V1.o.2.2.1,if_neg (by omega)]; rfl,rfl⟩ | exact ⟨by rw [V1.o.2.2.2,if_pos (by omega)]; rfl,rfl⟩ | exact ⟨by rw [V1.o.2.2.2,if_neg (by omega)]; rfl,rfl⟩)
def Op.vU (v:Int):List UInt8:=Op.sg (decide (v < 0)) ++ eG 11 v.natAbs
theorem VE (v:Int) (w:World) (h:-2147483648<=v/\v<=2147483647) :
  Calls Tryz.prog 14 #[.int .i64 v] w fun e w'=>e = .returned (.string (bs (Op.vU v)))/\w.grownBy w' none:=by
 by_cases c:v < 0
 ·have e:Op.vU v=[45] ++ eG 11 v.natAbs:=by unfold Op.vU; rw [decide_eq_true c]; rfl
  have cN:=hid (ykl 10 v.natAbs w (by omega) (by omega) (by omega));have na:((v.natAbs:Nat):Int) = -v:=by omega
  rw [na] at cN;have sz:(bs (eG 11 v.natAbs)).size<=31:=by rw [w9]; have:=QZ 11 v.natAbs; omega
  have HS:=hid (show (⟨#[45]⟩:ByteArray) ++ bs (eG 11 v.natAbs)=bs (Op.vU v) by rw [e]; apply ByteArray.ext; simp [bs]);have wn:IntKind.i64.wrap (-v) = -v:=IntWalk.i64_in _ ⟨by omega,by omega⟩;have d:decide (v < 0)=true:=by simpa using c
  generalize bs (eG 11 v.natAbs)=Y at *;have q1:¬ 9223372036854775807 < 1+Y.size:=by omega
  clear na e;go_enter Tryz.func14,Tryz.ntmps14;go_wp2_with fail;refine cN.o.mono ?_;rintro e V ⟨rfl,hg⟩;have G:=hid hg;clear hg cN;go_wp2;go_ret;exact ⟨by rw [<- HS.o]; rfl,G.o⟩
 ·have e:Op.vU v=eG 11 v.natAbs:=by unfold Op.vU; rw [decide_eq_false c]; rfl
  have q:=ykl 10 v.natAbs w (by omega) (by omega) (by omega);rw [show ((v.natAbs:Nat):Int)=v by omega] at q;rw [e];exact q
theorem yoW (n:Int):bits .and .i64 n 2047=n % 2048:=by
 have h1:(BitVec.ofInt 64 2047).toNat=2 ^ 11 - 1:=by decide
 have key:(BitVec.ofInt 64 n &&& BitVec.ofInt 64 2047).toNat=(n % ((2 ^ 64:Nat):Int)).toNat % 2 ^ 11:=by
  rw [BitVec.toNat_and,BitVec.toNat_ofInt,h1,Nat.and_two_pow_sub_one_eq_mod]
 show IntKind.i64.wrap ((BitVec.ofInt 64 n &&& BitVec.ofInt 64 2047).toNat:Nat)=n % 2048;rw [key,IntKind.wrap_i64];omega
namespace Op
theorem vV (v:Int):(bs (vU v)).size<=13:=by
 rw [w9];unfold vU;rw [eP];have a:=QZ 11 v.natAbs;have b:∀ z,(sg z).length<=1:=by decide
 have c:=b (decide (v < 0));omega
theorem Gm (n:Nat):vU (n:Int)=eG 11 n:=by
 unfold vU;rw [decide_eq_false (by omega)];rfl
def txt (x y:Int) (k n:Nat):List UInt8:=text (decide (x < 0)) x.natAbs (decide (y < 0)) y.natAbs k n
theorem KV (x y:Int) (k n:Nat):(⟨#[46,103,108,111,98,108,32,95,115,116,97,114,116,10,95,115,116,97,114,116,58,32,108,105,32,120,53,44]⟩:ByteArray) ++ bs (vU x) ++ ⟨#[10,108,105,32,120,54,44]⟩ ++ bs (vU y) ++ ⟨#[10]⟩ ++ bs (names.getD k []) ++ ⟨#[32,120,49,48,44,120,53,44,120,54,10,108,105,32,120,49,55,44,49,10,101,99,97,108,108,10,108,105,32,120,49,48,44,49,10,98,108,116,32,120,53,44,120,54,44,97,10,108,105,32,120,49,48,44,48,10,97,58,32,101,99,97,108,108,10,108,105,32,120,49,48,44,49,10,98,103,101,117,32,120,53,44,120,54,44,98,10,108,105,32,120,49,48,44,48,10,98,58,32,101,99,97,108,108,10,108,105,32,120,49,48,44,49,10,98,110,101,32,120,53,44,120,54,44,99,10,108,105,32,120,49,48,44,48,10,99,58,32,101,99,97,108,108,10]⟩ ++ ⟨#[97,100,100,105,32,120,49,48,44,120,53,44,45]⟩ ++ bs (eG 11 n) ++ ⟨#[10,101,99,97,108,108,10,97,110,100,105,32,120,49,48,44,120,54,44]⟩ ++ bs (eG 11 n) ++ ⟨#[10]⟩ ++ ⟨#[108,105,32,120,49,55,44,49,10,101,99,97,108,108,10,108,105,32,120,49,48,44,48,10,108,105,32,120,49,55,44,48,10,101,99,97,108,108,10]⟩=bs (txt x y k n):=by
 have e:txt x y k n=[46,103,108,111,98,108,32,95,115,116,97,114,116,10,95,115,116,97,114,116,58,32,108,105,32,120,53,44] ++ vU x ++ [10,108,105,32,120,54,44] ++ vU y ++ [10] ++ names.getD k [] ++ [32,120,49,48,44,120,53,44,120,54,10,108,105,32,120,49,55,44,49,10,101,99,97,108,108,10,108,105,32,120,49,48,44,49,10,98,108,116,32,120,53,44,120,54,44,97,10,108,105,32,120,49,48,44,48,10,97,58,32,101,99,97,108,108,10,108,105,32,120,49,48,44,49,10,98,103,101,117,32,120,53,44,120,54,44,98,10,108,105,32,120,49,48,44,48,10,98,58,32,101,99,97,108,108,10,108,105,32,120,49,48,44,49,10,98,110,101,32,120,53,44,120,54,44,99,10,108,105,32,120,49,48,44,48,10,99,58,32,101,99,97,108,108,10] ++ [97,100,100,105,32,120,49,48,44,120,53,44,45] ++ eG 11 n ++ [10,101,99,97,108,108,10,97,110,100,105,32,120,49,48,44,120,54,44] ++ eG 11 n ++ [10] ++ [108,105,32,120,49,55,44,49,10,101,99,97,108,108,10,108,105,32,120,49,48,44,48,10,108,105,32,120,49,55,44,48,10,101,99,97,108,108,10]:=by
  unfold txt text vU;simp only [List.append_assoc,List.cons_append,List.nil_append]
 rw [e];simp only [<- ynL];rfl
theorem zV (x:Int):At.val (decide (x < 0)) x.natAbs=x:=by
 unfold At.val;by_cases h:x < 0
 ·rw [decide_eq_true h,if_pos rfl]; omega
 ·rw [decide_eq_false h,if_neg (by decide)]; omega
theorem tZ (x:Int) (h:-2147483648<=x/\x<=2147483647):x.natAbs<=2147483647\/(decide (x < 0)=true/\x.natAbs<=2147483648):=by
 by_cases c:x < 0
 ·exact .inr ⟨decide_eq_true c,by omega⟩
 ·exact .inl (by omega)
end Op
theorem ykn (a b c:Int) (w:World) (ht:dV w) (hN:nY w) (hB:3<=w.heap.size) (h0:-9223372036854775808<=c) (h1:c<=9223372036854775807) :
  Calls Tryz.prog 7 #[.int .i64 a,.int .i64 b,.int .i64 c] w fun e w'=>e = .returned (.bool true)/\w.grownBy w' none:=by
 have HT:=hid ht;have HN:=hid hN;clear ht hN;obtain ⟨k,hk⟩:∃ k,pk c 7=k:=⟨_,rfl⟩
 have kl:k < 7:=by rw [<- hk]; exact ysG c 7 (by omega)
 have cP:=hid (fun W=>yoF c 7 W (by omega) (by omega) h0 h1);rw [hk] at cP;clear hk h0 h1;obtain ⟨x,hx⟩:∃ x,Mc.sg (Mc.wd a)=x:=⟨_,rfl⟩
 obtain ⟨y,hy⟩:∃ y,Mc.sg (Mc.wd b)=y:=⟨_,rfl⟩
 have xr:-2147483648<=x/\x<=2147483647:=by rw [<- hx]; exact Su.wL a
 have yr:-2147483648<=y/\y<=2147483647:=by rw [<- hy]; exact Su.wL b
 have cA:=hid (Ro a);have Qo:=hid (Ro b);rw [hx] at cA;rw [hy] at Qo;clear hx hy;obtain ⟨n,hn⟩:∃ n:Nat,y % 2048=(n:Int):=⟨(y % 2048).toNat,by omega⟩
 have nl:n<=2047:=by omega
 have E0:bits .and .i64 y 2047=(n:Int):=(yoW y).trans hn;have cO:=hid (fun W=>Wi k kl x y W xr yr);have Qq:=hid (fun W=>Wi 2 (by omega) x y W xr yr);have Qr:=hid (fun W=>Wi 3 (by omega) x y W xr yr);rw [(Op.nM x y).2.2.1] at Qq;rw [(Op.nM x y).2.2.2] at Qr;have cX:=hid (fun W=>VE x W xr);have cY:=hid (fun W=>VE y W yr);have cS:=hid (fun W=>VE (n:Int) W ⟨by omega,by omega⟩);rw [Op.Gm] at cS;have HS:=Op.KV x y k n;have sx:=Op.vV x;have sy:=Op.vV y;have ss:(bs (eG 11 n)).size<=13:=by rw [w9]; have:=QZ 11 n; omega
 have sn:(bs (Op.names.getD k [])).size<=4:=by
  rw [w9]
  have:∀ k,k < 7->(Op.names.getD k []).length<=4:=by decide
  exact this k kl
 clear hn;have OK:=hid (Op.D8 (decide (x < 0)) x.natAbs (decide (y < 0)) y.natAbs k n (Op.tZ x xr) (Op.tZ y yr) kl nl);have RUN:=hid (Op.KP (decide (x < 0)) x.natAbs (decide (y < 0)) y.natAbs k n (Op.tZ x xr) (Op.tZ y yr) kl nl);rw [Op.zV,Op.zV,Op.Ig k n kl nl x y xr yr] at RUN;obtain ⟨yy,Um,yl⟩:=Op.pG y;have E1:bits .and .i64 y 4294967295=(yy:Int):=(Pm y).trans Um;have cZ:=hid (fun W=>ZN yy n W yl (by omega));have bz:Op.both (Mc.wd y) n=((yy &&& n:Nat):Int):=by rw [Um]; unfold Op.both; rw [Int.toNat_natCast,Int.toNat_natCast]
 rw [bz] at RUN;have cW:=hid (Ro (x - n));have wx:IntKind.i64.wrap (x - (n:Int))=x - (n:Int):=IntWalk.i64_in _ ⟨by omega,by omega⟩;obtain ⟨ww,X8⟩:∃ ww,Mc.sg (Mc.wd (x - (n:Int)))=ww:=⟨_,rfl⟩
 obtain ⟨zz,hzz⟩:∃ zz,((yy &&& n:Nat):Int)=zz:=⟨_,rfl⟩
 obtain ⟨vv,hvv⟩:∃ vv,Op.Bf k x y=vv:=⟨_,rfl⟩
 obtain ⟨bb,hbb⟩:∃ bb:Int,(if x < y then (1:Int) else 0)=bb:=⟨_,rfl⟩
 obtain ⟨tt,Ui⟩:∃ tt:Int,(if Mc.wd x < Mc.wd y then (1:Int) else 0)=tt:=⟨_,rfl⟩
 obtain ⟨uu,Uj⟩:∃ uu:Int,(if x≠y then (1:Int) else 0)=uu:=⟨_,rfl⟩
 have tr:0<=tt/\tt<=1:=by rw [<- Ui]; split <;> omega
 have wt:IntKind.i64.wrap (1 - tt)=1 - tt:=IntWalk.i64_in _ ⟨by omega,by omega⟩;rw [X8] at RUN cW;rw [hzz] at RUN cZ;rw [hvv] at RUN cO;rw [hbb] at RUN Qq;rw [Ui] at RUN Qr;rw [Uj] at RUN;clear X8 hzz hvv hbb Ui bz Um;generalize bs (Op.names.getD k [])=NMs at *;generalize bs (Op.vU x)=DX at *;generalize bs (Op.vU y)=DY at *;generalize bs (eG 11 n)=DN at *;go_enter Tryz.func7,Tryz.ntmps7;go_wp2_with fail;refine (cA.o _).mono ?_;rintro e w' ⟨rfl,hw⟩;rw [hw];clear hw w' cA;go_wp2_with fail;refine (Qo.o _).mono ?_;rintro e w' ⟨rfl,hw⟩;rw [hw];clear hw w';go_wp2_with fail;refine (cP.o _).mono ?_;rintro e w' ⟨rfl,hw⟩
 rw [hw];clear hw w' cP;go_wp2_with fail;refine (cO.o _).mono ?_;rintro e w' ⟨rfl,hw⟩;rw [hw];clear hw w' cO;go_wp2_with fail;refine (Qo.o _).mono ?_;rintro e w' ⟨rfl,hw⟩;rw [hw];clear hw w' Qo;go_wp2_with fail;refine (cX.o _).mono ?_;rintro e V1 ⟨rfl,hg1⟩;have G1:=hid hg1;clear hg1 cX;go_wp2_with fail;refine (cY.o _).mono ?_;rintro e V2 ⟨rfl,hg2⟩;have G2:=hid (ya G1.o hg2);clear hg2 cY G1;go_wp2_with fail;refine (cS.o _).mono ?_;rintro e V3 ⟨rfl,hg3⟩;have G3:=hid (ya G2.o hg3);clear hg3 cS G2;have A0:=aH V3 (.cells ([Op.txt x y k n].map fun l=>Value.string (bs l)).toArray 9) none;have cM:=hid (ypD [Op.txt x y k n] (some ⟨V3.heap.size,0,none⟩) 1 (V3.alloc (.cells ([Op.txt x y k n].map fun l=>Value.string (bs l)).toArray 9)) (yqc [Op.txt x y k n] (yc.new V3 ([Op.txt x y k n].map fun l=>Value.string (bs l)).toArray 9)) (by simp) (fun t ht=>by rw [List.mem_singleton] at ht; rw [ht]; exact OK.o) (HT.o.grown (ya G3.o A0)) (HN.o.below (Q9 (ya G3.o A0) (Nat.le_refl _) (by simp)) hB) (by have:=(ya G3.o A0).size; omega))
 have G4:=hid (ya G3.o A0);clear A0 G3;go_wp2_with fail;refine cM.o.mono ?_;rintro e V4 ⟨⟨ao,cap,rfl,hls⟩,hg4⟩;have G5:=hid (ya G4.o hg4);have HL:=hid hls;clear hls hg4 cM G4 HS;go_wp2_with fail;refine (Qq.o _).mono ?_;rintro e w' ⟨rfl,hw⟩;rw [hw];clear hw w' Qq;go_wp2_with fail;refine (Qr.o _).mono ?_;rintro e w' ⟨rfl,hw⟩;rw [hw];clear hw w' Qr;obtain ⟨bq,d1,d2,hq⟩:∃ bq:Bool,(x != y)=bq/\(x == y) = !bq/\uu=if bq then 1 else 0:=⟨x != y,rfl,by simp [bne],by rw [<- Uj]; by_cases h:x=y <;> simp [h]⟩
 clear Uj
 cases bq
 all_goals
  simp only [Bool.not_false,Bool.not_true,Bool.false_eq_true,if_false,if_true] at d2 hq;go_wp2_with fail;refine (cW.o _).mono ?_;rintro e w' ⟨rfl,hw⟩;rw [hw];clear hw w' cW;go_wp2_with fail;refine (cZ.o _).mono ?_;rintro e w' ⟨rfl,hw⟩;rw [hw];clear hw w' cZ;go_wp2_with fail;refine (ypK _).mono ?_;rintro e VA ⟨rfl,hA⟩;have AB:=aH VA (.cells #[.int .i64 4096,.int .i64 65536,.int .i64 131072] 33) none;have GA:=hid (ya (ya G5.o hA) AB);have BB:=hid (yc.new VA #[.int .i64 4096,.int .i64 65536,.int .i64 131072] 33);have WR:=hid (HL.o.kept (ya hA AB));have K0:Hd (yqo (nZ (Op.txt x y k n)) (As.assemble (Op.txt x y k n)).2):=yry OK.o
  have K2:(nZ (Op.txt x y k n)).length<=1048576:=K0.o.2;have cR:=hid (ypv 4096 65536 131072 ao cap [nZ (Op.txt x y k n)] [(false,[(As.assemble (Op.txt x y k n)).2])] none 0 [] [vv,bb,1 - tt,uu,ww,zz] 0 _ WR.o (by intro f hf; rw [List.mem_singleton] at hf; rw [hf]; exact K2) (fun h=>by simp at h) (by simp) (HT.o.grown GA.o) (by simp) (by simp) ynK ⟨K0.o.1,trivial⟩ RUN.o (yoc RUN.o.2.1));generalize (Mc.run _ [] 5000).read=rd at *;generalize ((Ln.gy _ 4096 65536 131072).1.length:Nat)=il at *;clear hA AB G5 HL WR;go_wp2_with fail;have b0:(VA.alloc (.cells #[.int .i64 4096,.int .i64 65536,.int .i64 131072] 33)).cell? ⟨VA.heap.size,0,none⟩=some (.int .i64 4096):=BB.o.cell 0
  have b1:(VA.alloc (.cells #[.int .i64 4096,.int .i64 65536,.int .i64 131072] 33)).cell? ⟨VA.heap.size,1,none⟩=some (.int .i64 65536):=BB.o.cell 1;have b2:(VA.alloc (.cells #[.int .i64 4096,.int .i64 65536,.int .i64 131072] 33)).cell? ⟨VA.heap.size,2,none⟩=some (.int .i64 131072):=BB.o.cell 2;go_wp2_with fail;refine cR.o.mono ?_;rintro e V6 ⟨⟨NC,ca,st,rfl,B,hown⟩,h6⟩;have A7:=aH V6 (.cells #[.int .i64 1,.int .i64 0,.slice NC 6 ca,.int .i64 st,.int .i64 rd] 37) none;have A8:=aH (V6.alloc (.cells #[.int .i64 1,.int .i64 0,.slice NC 6 ca,.int .i64 st,.int .i64 rd] 37)) (.cells #[.int .i64 vv,.int .i64 bb,.int .i64 (1 - tt),.int .i64 uu,.int .i64 ww,.int .i64 zz] 3) none
  have B7:=(yc.new V6 #[.int .i64 1,.int .i64 0,.slice NC 6 ca,.int .i64 st,.int .i64 rd] 37).grown A8 (by simp);have B8:=yc.new (V6.alloc (.cells #[.int .i64 1,.int .i64 0,.slice NC 6 ca,.int .i64 st,.int .i64 rd] 37)) #[.int .i64 vv,.int .i64 bb,.int .i64 (1 - tt),.int .i64 uu,.int .i64 ww,.int .i64 zz] 3;rw [IQ] at B8;have cE:=hid (ypf V6.heap.size NC (some ⟨V6.heap.size+1,0,none⟩) ca 6 [vv,bb,1 - tt,uu,ww,zz] 0 st rd _ B7 ((yC.aU (xs:=[vv,bb,1 - tt,uu,ww,zz]) hown).kept (fun a v e=>yd e (ya A7 A8))) (yps [vv,bb,1 - tt,uu,ww,zz] B8) (by simp));have G9:=hid (ya (ya (ya GA.o h6) A7) A8);clear hown h6 A7 A8 B7 B8 b0 b1 b2 GA BB cR RUN
  subst hq;go_wp2_with fail;refine cE.o.mono ?_;rintro e V9 ⟨rfl,h9⟩;have GZ:=hid (ya G9.o h9);clear h9 cE G9;go_wp2;go_ret;exact ⟨rfl,GZ.o⟩
end Go.Proofs.YtpgklkhgfcjceaaGreatDoor

namespace Go.Proofs.YtpgklkhgfcjceaaGreatDoor
open Go.ChangeShapes Go.WideShapes Go.ChangeAt Go.RowKit
theorem ylA:ownKnob Tryz.prog.godebug=none:=by kernel_rfl
theorem yqq : Tryz.prog.globalNamed "linker/instr.forms" = some 0 := by kernel_rfl
theorem N8 : Tryz.prog.globalNamed "linker/instr.fixed" = some 1 := by kernel_rfl
theorem N9 : Tryz.prog.globalNamed "linker/instr.names" = some 2 := by kernel_rfl
theorem ynX:(Tryz.prog.globals[0]?).map (·.type)=some 175:=by kernel_rfl
theorem ypo:(Tryz.prog.globals[1]?).map (·.type)=some 175:=by kernel_rfl
theorem ypp:(Tryz.prog.globals[2]?).map (·.type)=some 180:=by kernel_rfl
theorem ZO:Tryz.prog.cellsOf 175=26:=by kernel_rfl
theorem ZP:Tryz.prog.cellsOf 3=1:=by kernel_rfl
theorem ynN:Tryz.prog.cellsOf 180=26:=by kernel_rfl
theorem yoZ:Tryz.prog.cellsOf 9=1:=by kernel_rfl
theorem yoR:Tryz.prog.underlying 175=some (.array 26 3):=by kernel_rfl
theorem yrk:Tryz.prog.underlying 180=some (.array 26 9):=by kernel_rfl
theorem ysg:Tryz.prog.underlying 9=some .string:=by kernel_rfl
theorem JE:Tryz.prog.underlying 3=some (.int .i64):=by kernel_rfl
def VT {H:Type} (zs:List (List UInt8)):DataW H:=.agg (zs.map fun z=>.lit (.string z))
theorem yiO {H:Type} {enc:TypeId×Value->H} {P:Program} {w:World} {base:Nat} {sp:Nat->Bool} {held:Bool} {fuel:Nat} {t e:TypeId} {n:Nat} {cs:List Value} {zs:List (List UInt8)} {p:List MemPlace}
  (ht:P.underlying t=some (.array n e)) (he:P.underlying e=some .string) (hce:P.cellsOf e=1) (hct:P.cellsOf t=n)
  (h:DataW.trod enc P w base sp held fuel t cs=some (VT zs,p)):cs=zs.map fun z=>Value.string (bs z):=by
 cases fuel with
 | zero=>simp [DataW.trod] at h
 | succ fuel =>
  simp only [DataW.trod,ht,hce,hct,Nat.mul_one] at h;split at h
  ·rename_i hl;obtain ⟨xs,hm,hx⟩:=Option.map_eq_some_iff.1 h;have hxs:xs.map (·.1)=zs.map fun z=>(DataW.lit (.string z):DataW H):=by
    have:=congrArg Prod.fst hx
    simpa [VT] using this
   have hxl:xs.length=n:=by simpa using Lib.mapM_length hm
   have hzl:zs.length=n:=by
    have:=congrArg List.length hxs
    simp at this;omega
   apply List.ext_getElem?;intro i;by_cases hi:i < n
   ·obtain ⟨b,hb,hf⟩:=Lib.mapM_at hm i i (by simp [hi]);obtain ⟨z,hc,rfl,_⟩:=DataW.trod_string he hf;have h1:cs[i]?=some (.string z):=by
     have:=congrArg (·[0]?) hc
     simpa [List.getElem?_take,List.getElem?_drop] using this
    have h2:(xs.map (·.1))[i]?=some (DataW.lit (.string z.data.toList):DataW H):=by simp [hb]
    rw [hxs] at h2;simp only [List.getElem?_map,Option.map_eq_some_iff,DataW.lit.injEq,Lit.string.injEq] at h2;obtain ⟨z',hz',rfl⟩:=h2;have hbz:bs z.data.toList=z:=ysj z;simp [h1,hz',hbz]
   ·rw [List.getElem?_eq_none (by omega),List.getElem?_eq_none (by simp; omega)]
  ·cases h
theorem VK {W:World} {b o:Nat} {v:Value} (h:W.cell? ⟨b,o,none⟩=some v):b < W.heap.size:=by
 by_cases hb:b < W.heap.size
 ·exact hb
 ·exfalso
  simp only [World.cell?] at h;rw [Array.getElem?_eq_none (by omega)] at h
  cases h
theorem yji {W : World} (h : laidMet Tryz.prog [("linker/instr.forms", Lib.tabData .i64 vG), ("linker/instr.fixed", Lib.tabData .i64 FK), ("linker/instr.names", VT As.names)] W) : dV W ∧ nY W ∧ 3 ≤ W.heap.size := by
 have t1 : Lib.TabIs Tryz.prog W "linker/instr.forms" .i64 vG := Lib.tabIs_of_head yqq ynX yoR JE ZP ZO h
 obtain ⟨ps,⟨g',t',cs,fuel,p,q,hg',ht',hvar,hd,⟨g2,t2,cs2,fuel2,p2,q2,hg2,ht2,Ol,hd2,⟨g3,t3,cs3,XK,p3,q3,hg3,ht3,Om,hd3,_,_⟩,_⟩,_⟩,_⟩:=h;obtain rfl:=Option.some.inj (N8.symm.trans hg2);obtain rfl:=Option.some.inj (ypo.symm.trans ht2);obtain rfl:=Option.some.inj (N9.symm.trans hg3);obtain rfl:=Option.some.inj (ypp.symm.trans ht3)
 have e2 : Lib.TabIs Tryz.prog W "linker/instr.fixed" .i64 FK := by
  unfold Lib.TabIs;rw [Ol,<- Lib.cells_of_tab yoR JE ZP ZO hd2]
 have e3 : W.var? Tryz.prog "linker/instr.names" = some (As.names.map fun z => Value.string (bs z)).toArray := by
  rw [Om,<- yiO yrk ysg yoZ ynN hd3]
 have T:dV W:=⟨fun i hi=>t1.cell yqq i hi,fun i hi=>e2.cell N8 i hi⟩
 have N:nY W:=by
  intro i hi;have hl:As.names.length=26:=by decide
  have:=World.var?_cell N9 e3 i
  rw [this];simp [List.getD,hl,hi]
 refine ⟨T,N,?_⟩;have a:=VK (T.1 0 (by decide));have b:=VK (T.2 0 (by decide));have c:=VK (N 0 (by decide));omega
theorem yiT {W W':World} (h:W.grownBy W' none) (may:MemPlace->Prop):W.keptBut W' may:=by
 refine World.keptBut_mono (fun _ f=>f.elim) (?_:W.keptBut W' (fun _=>False));refine ⟨h.os,h.output,fun i hi=>?_⟩;rw [h.block i hi (by simp)]
 cases hb:W.heap[i]? with
 | none=>trivial
 | some o=>cases o <;> simp
def yoP (zs:List Int):Obj->Obj
 | .cells _ t frozen=>.cells (zs.map (Value.int .i64)).toArray t frozen
 | o=>o
def ysf (zs:List (List UInt8)):Obj->Obj
 | .cells _ t frozen=>.cells (zs.map fun z=>Value.string (bs z)).toArray t frozen
 | o=>o
noncomputable def Vg (os:Os):World :=
 { World.holding Tryz.prog os ⟨#[],#[],[]⟩ with heap:=(((World.holding Tryz.prog os ⟨#[],#[],[]⟩).heap.modify 0 (yoP vG)).modify 1 (yoP FK)).modify 2 (ysf As.names) }
end Go.Proofs.YtpgklkhgfcjceaaGreatDoor

namespace Go.Proofs.YtpgklkhgfcjceaaGreatDoor
open Go.ChangeShapes Go.WideShapes Go.ChangeAt Go.RowKit
theorem Zu {c:Int} (h:(Lit.int .i64 c).wf=true):-9223372036854775808<=c/\c<=9223372036854775807:=by
 simp [Lit.wf] at h;have e:IntKind.i64.min = -9223372036854775808:=by decide
 omega
theorem yhn (a b c:Int) (w:World) (ht:dV w) (hN:nY w) (hB:3<=w.heap.size) (h0:-9223372036854775808<=c) (h1:c<=9223372036854775807) :
  Calls Tryz.prog 3 #[.int .i64 a,.int .i64 b,.int .i64 c] w fun e w'=>e = .returned (.bool true)/\w.grownBy w' none:=by
 have cF:=hid (ykn a b c w ht hN hB h0 h1);clear ht hN;go_enter Tryz.func3,Tryz.ntmps3;go_wp2_with fail;refine cF.o.mono ?_;rintro e V1 ⟨rfl,hg⟩;have G:=hid hg;clear hg;go_wp2;go_ret;exact ⟨rfl,G.o⟩
theorem ygi (H:Type) (enc:TypeId×Value->H) (W:World) (base:Nat) (args:Array Value) (ds gs:List (DataW H)) (before:List MemPlace)
  (hval:∀ (j:Nat) t v,Tryz.f3.params[j]?=some t->args[j]?=some v->Value.okWide Tryz.prog W .any base t v)
  (hW:DataW.Whole enc Tryz.prog Tryz.f3.params.toList Rows.operatedSpec.vars false W args.toList ds gs before) (hL:laidMetH Tryz.prog Rows.operatedRow.laid W) :
  Calls Tryz.prog 3 args W fun e W'=>∃ v,e = .returned v/\Rows.operatedSpec.post enc Tryz.prog Tryz.f3 false true false false W args v W':=by
 have hW':=hW;obtain ⟨p,q,XL,hV,rfl,hfz,hnd⟩:=hW;have hA:DataW.TrodAll enc Tryz.prog W 0 (fun _=>true) true Tryz.f3.params.toList args.toList ds p:=XL;rw [Tryz.params3] at hA hval;obtain ⟨v0,vs0,d0,ds0,p0,q0,hargs,rfl,rfl,h0,r0⟩:=trodAll_cons hA;obtain ⟨v1,vs1,d1,ds1,p1,q1,TY,rfl,rfl,h1,r1⟩:=trodAll_cons r0;obtain ⟨v2,vs2,d2,ds2,p2,q2,T9,rfl,rfl,h2,r2⟩:=trodAll_cons r1;obtain ⟨rfl,rfl,rfl⟩:=trodAll_nil r2;obtain rfl:args = #[v0,v1,v2]:=by cases args; simp_all
 obtain ⟨rfl,rfl⟩:=trodVars_none hV;have hv:Value.okWide Tryz.prog W .any base 3 v0:=hval 0 3 v0 rfl rfl;have hv1:Value.okWide Tryz.prog W .any base 3 v1:=hval 1 3 v1 rfl rfl;have hv2:Value.okWide Tryz.prog W .any base 3 v2:=hval 2 3 v2 rfl rfl;obtain ⟨c,rfl,rfl,rfl,hw⟩:=open_int (t:=3) JE hv h0;obtain ⟨d,rfl,rfl,rfl,hw1⟩:=open_int (t:=3) JE hv1 h1;obtain ⟨f,rfl,rfl,rfl,hw2⟩:=open_int (t:=3) JE hv2 h2;clear XL;simp only [List.append_nil] at hW';obtain ⟨hT,hN,hB⟩:=yji hL;refine (yhn c d f W hT hN hB (Zu hw2).1 (Zu hw2).2).mono fun e W' ⟨he,hg⟩=>?_
 subst he;exact ⟨_,rfl,_,_,_,[],[],[],hW',trodAll_cons_mk (shut_bool Tryz.underlying4 _) trodAll_mk0,trodAll_cons_mk (shut_int JE hw) (trodAll_cons_mk (shut_int JE hw1) (trodAll_cons_mk (shut_int JE hw2) trodAll_mk0)),rfl,yiT hg _,fun h=>by cases h⟩
theorem ypw (os:Os):laidMet Tryz.prog Rows.operatedRow.laid ((Vg os).forCall (fun _ _=>0) ⟨#[],#[.int .i64 0,.int .i64 0,.int .i64 0],[]⟩).memory :=
 laidMet_of_run' 8 (by kernel_rfl) (by kernel_rfl)
theorem yjn (os:Os) {H:Type} (enc:TypeId×Value->H):∃ places,DataW.whole enc Tryz.prog ((Vg os).forCall (fun _ _=>0) ⟨#[],#[.int .i64 0,.int .i64 0,.int .i64 0],[]⟩).memory Tryz.f3.params.toList Rows.operatedSpec.vars false #[Value.int .i64 0,.int .i64 0,.int .i64 0].toList 8=some ([.lit (.int .i64 0),.lit (.int .i64 0),.lit (.int .i64 0)],[],places) :=
 ⟨[],by kernel_rfl⟩
theorem yho (os:Os) (started:os.Started) (H:Type) (enc:TypeId×Value->H) (F:Stop.Interp) :
  ReturnsInHanded {} Tryz.checked os 3 .any ((OpenSpec.ofChange Rows.operatedSpec).preRow enc Tryz.prog Tryz.f3 Rows.operatedRow.domain false Rows.operatedRow.laid) (((OpenSpec.ofChange Rows.operatedSpec).at F).post enc Tryz.prog Tryz.f3 false true false false):=by
 obtain ⟨places,hx⟩:=yjn os enc;refine returnsInHanded_of_row (C:=Tryz.checked) (s:=OpenSpec.ofChange Rows.operatedSpec) ylA started (by kernel_rfl) Tryz.func3
  (witness_row_at (enc:=enc) (C:=Tryz.checked) false (Vg os) #[.int .i64 0,.int .i64 0,.int .i64 0] rfl (by kernel_rfl) (by kernel_rfl) (by kernel_rfl)
   (OpenSpec.preRow_of_cond 8 hx (by kernel_rfl) (fun k hk=>by cases hk) (by kernel_rfl) (ypw os))) ?_
 intro W base args ds gs before hval hW _ _ _ hL _ _;exact ygi H enc W base args ds gs before hval hW hL
theorem yiZ:Rows.OperatedSaid :=
 OpenClaim.holds_of_cond 3 Tryz.f3 rfl rfl rfl rfl rfl rfl rfl ⟨rfl,rfl,rfl,rfl,rfl⟩ rfl rfl rfl rfl rfl (by kernel_rfl) Tryz.func3 (by kernel_rfl)
  (of_decide_eq_true (by kernel_rfl)) (by unfold Func.isWrapper; first | (rw [if_pos (by decide +kernel)]; kernel_rfl) | (rw [if_neg (by decide +kernel)]; exact ⟨rfl,rfl⟩))
  (fun os started H enc _ F=>by rw [OpenClaim.pre_eq_preRow]; exact yho os started H enc F)
theorem yic (f : FuncId) (fn : Func) (hf : Tryz.pinned.checked.prog.funcNamed "linker/linkerkeep.Operated" = some f) (hfn : Tryz.pinned.checked.prog.funcs[f]? = some fn) :
  false=Tryz.pinned.checked.prog.looks []/\∀ (j:Nat) t,fn.params[j]?=some t->Tryz.pinned.checked.prog.wantsStandIn t=false:=by
 obtain rfl : f = 3 := Option.some.inj ((show Tryz.prog.funcNamed "linker/linkerkeep.Operated" = some 3 by kernel_rfl).symm.trans hf) |>.symm
 obtain rfl:fn=Tryz.f3:=(Option.some.inj (Tryz.func3.symm.trans hfn)).symm;refine ⟨by kernel_rfl,fun j t ht=>?_⟩;rw [Tryz.params3] at ht;obtain rfl:t=3:=by have:=Array.mem_of_getElem? ht; simp at this; exact this
 exact (show Tryz.prog.wantsStandIn 3=false by kernel_rfl)
theorem operated_card:Rows.OperatedCardSaid :=
 Claim7.holds_tied_plain_at .later [] _ _ _ _ yiZ (fun _ h=>by cases h) (by kernel_rfl) (fun _ h=>by cases h) operated_row_tie rfl ⟨rfl,rfl⟩ (by kernel_rfl) rfl yic (by kernel_rfl)
end Go.Proofs.YtpgklkhgfcjceaaGreatDoor
