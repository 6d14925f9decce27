
import Derived.Test.YtnkkepfcpjllmaaGreatDoorU14
import Derived.ProofKit
import Derived.OpenShut
import Derived.ChangeMaps5
import Derived.Deep.DeepHandedRow
import Derived.Lib.LaidTab
import Derived.Deep.RegionHeld3
set_option maxHeartbeats 16000000
set_option maxRecDepth 100000
namespace Go.Proofs.YtnkkepfcpjllmaaGreatDoor
open Go.RowKit
def wQ (rs:List Lk.Rel):Nat->List Lk.Rel
 | 0=>[]
 | c+1=>wQ rs c ++ rs.filter (fun r=>r.ah=((c+1:Nat):Int))
def BK (rs:List Lk.Rel) (c k:Nat):List Lk.Rel:=wQ rs c ++ (rs.take k).filter (fun r=>r.ah=((c+1:Nat):Int))
theorem yhz (rs:List Lk.Rel) (c:Nat):BK rs c rs.length=wQ rs (c+1):=by unfold BK; rw [List.take_length]; rfl
theorem ygF (rs:List Lk.Rel) (c:Nat):BK rs c 0=wQ rs c:=by simp [BK]
theorem yhA (rs:List Lk.Rel) (c k:Nat) (h:k < rs.length) (he:rs[k].ah=((c+1:Nat):Int)):BK rs c (k+1)=BK rs c k ++ [rs[k]]:=by
 unfold BK;rw [List.take_succ_eq_append_getElem h,List.filter_append,List.append_assoc]
 congr 1
 rw [List.filter_cons_of_pos (by simpa using he)];rfl
theorem yhT (rs:List Lk.Rel) (c k:Nat) (h:k < rs.length) (he:¬ rs[k].ah=((c+1:Nat):Int)):BK rs c (k+1)=BK rs c k:=by
 unfold BK;rw [List.take_succ_eq_append_getElem h,List.filter_append]
 congr 1
 rw [List.filter_cons_of_neg (by simpa using he)];simp
theorem Wt (rs:List Lk.Rel):wQ rs 3=As.dx rs:=by
 simp only [wQ,As.dx,List.nil_append];rfl
theorem XR (rs:List Lk.Rel):(As.dx rs).length<=rs.length:=by
 unfold As.dx
 induction rs with
 | nil=>simp
 | cons r rs ih =>
  simp only [iA,Gn] at ih ⊢;rcases (show r.ah=1\/r.ah=2\/r.ah=3\/¬ (r.ah=1\/r.ah=2\/r.ah=3) by omega) with h | h | h | h
  ·rw [List.filter_cons_of_pos (by simp [h]),List.filter_cons_of_neg (by simp [h]),List.filter_cons_of_neg (by simp [h])]; simp only [Gn]; omega
  ·rw [List.filter_cons_of_neg (by simp [h]),List.filter_cons_of_pos (by simp [h]),List.filter_cons_of_neg (by simp [h])]; simp only [Gn]; omega
  ·rw [List.filter_cons_of_neg (by simp [h]),List.filter_cons_of_neg (by simp [h]),List.filter_cons_of_pos (by simp [h])]; simp only [Gn]; omega
  ·rw [List.filter_cons_of_neg (by simp; omega),List.filter_cons_of_neg (by simp; omega),List.filter_cons_of_neg (by simp; omega)]; omega
theorem ykD (rs:List Lk.Rel) (c:Nat):(wQ rs c).length<=c * rs.length:=by
 induction c with
 | zero=>simp [wQ]
 | succ c ih =>
  have h:=List.length_filter_le (fun r:Lk.Rel=>decide (r.ah=((c+1:Nat):Int))) rs;simp only [wQ,iA];rw [Nat.succ_mul];omega
theorem yld (rs:List Lk.Rel) (c k:Nat) (hc:c<=2) (hr:rs.length<=32):(BK rs c k).length<=96:=by
 have h1:=ykD rs c;have h2:=List.length_filter_le (fun r:Lk.Rel=>decide (r.ah=((c+1:Nat):Int))) (rs.take k);have h3:(rs.take k).length<=32:=by rw [List.length_take]; omega
 have h4:c * rs.length<=2 * 32:=Nat.mul_le_mul hc hr;unfold BK;rw [iA];omega
def ykn (st:As.St) (rs:List Lk.Rel):As.St:={ st with obj:={ st.obj with aj:=rs } }
theorem yfB (B:Nat) (s:ByteArray) (b g:Nat) (st:As.St) (W:World) (h:yl B s b g st W) :
  Calls Tryz.prog 22 #[.pointer (some ⟨b,0,none⟩)] W fun en W'=>en = .returned (.tuple #[])/\Does B s b g W (ykn st (As.dx st.obj.aj)) W':=by
 obtain ⟨i2,hi2,hx0,hx1,hx2⟩:=info_parts Tryz.q8;have HW:=hid h;have c14:=wJ h;obtain ⟨vt,vf,vd,va,vs,vr,ho⟩:=h.own;obtain ⟨ar,cr,rfl⟩:=yi ho.aj;have HO:=hid ho;have RI:=hid (wK.aF ho.aj);have hcap:=yZ ho.aj;have g6:=ho.blk.cell 6;have fg:=ho.blk.free 6;simp only [bB,yml,bf] at g6;have hn32:=h.ok.aj;clear ho h;generalize hrs:st.obj.aj=rs at *;have Ma:=hid hrs;clear hrs;go_enter Tryz.func22,Tryz.ntmps22;go_wp2
 go_loopw [2,3] (fun v i wr=>∃ c:Nat,c<=3/\i = .int .i64 (c+1:Nat)/\wr.ownsRow W.heap.size 54 5 v (wQ rs c).length ((wQ rs c).flatMap dK)/\W.grownBy wr none) (fun _ i _=>4 - (intOf i).toNat)
 case atStart=>exact ⟨0,by omega,rfl,World.ownsRow_nil _ _ _ _,World.grownBy.refl _ _⟩
 case round =>
  obtain ⟨c,hc3,rfl,hown,hgr⟩:=hrel;obtain ⟨av,cv,rfl⟩:=yi hown;have HOW:=hid hown;have HG:=hid hgr;have Ol:=yb c14 hgr;have q6:=yb g6 hgr;clear hown hgr;by_cases hlt:c<=2
  ·have g1:(c:Int)+1<=3:=by omega
   go_wp2
   go_loopw [2,18] (fun v i w2=>∃ k:Nat,k<=rs.length/\i = .int .i64 k/\w2.ownsRow W.heap.size 54 5 v (BK rs c k).length ((BK rs c k).flatMap dK)/\W.grownBy w2 none) (fun _ i _=>rs.length - (intOf i).toNat)
   case atStart=>exact ⟨0,Nat.zero_le _,rfl,by rw [ygF]; exact HOW.o,HG.o⟩
   case round =>
    obtain ⟨k,hk,rfl,hown,hgr⟩:=hrel;obtain ⟨av2,cv2,rfl⟩:=yi hown;have HG2:=hid hgr;have hsz:=hgr.size;have hle:=yld rs c k hlt hn32;by_cases hkl:k < rs.length
    ·obtain ⟨sg,hsg,hgs,hcs⟩:=RI.o.grown hgr (by omega);obtain ⟨k0,k1,k2,k3,k4⟩:=hcs k hkl;clear hcs hgr;subst hsg;have hk':(k:Int) < (rs.length:Int):=by omega
     have Rv:(k:Int)<=(cr:Int):=by omega
     by_cases e1:rs[k].ah=((c+1:Nat):Int)
     ·have d:(rs[k].ah == (c:Int)+1)=true:=by simp; omega
      have E:=hid (yhA rs c k hkl e1);clear e1;have AG:Hd (W.grownBy ((wr.alloc (.cells #[.int .i64 rs[k].ah,.int .i64 rs[k].off,.int .i64 rs[k].kind,.int .i64 rs[k].sym,.int .i64 rs[k].addend] 54)).alloc (.cells #[.int .i64 rs[k].ah,.int .i64 rs[k].off,.int .i64 rs[k].kind,.int .i64 rs[k].sym,.int .i64 rs[k].addend] 54)) none):=ya (ya HG2.o (aW _ _ _)) (aW _ _ _);go_wp2_with (at_builtin; refine wpList_append_own _ rfl _ _ 38 rfl W.heap.size 54 i2 (.agg #[.int .i64 0,.int .i64 0,.int .i64 0,.int .i64 0,.int .i64 0]) 5 40 Tryz.underlying38 hi2 hx0 hx1 hx2 rfl (by decide) _ _ _ rfl ((hown.alloc _).alloc _) ⟨wr.heap.size+1,0,none⟩ 1 1 (dK rs[k]) rfl rfl (U3 _ _ _ _) (by intro u hu; simp [dK] at hu; rcases hu with rfl | rfl | rfl | rfl | rfl <;> rfl) (by unfold maxLen; omega) (by omega) (by simp; omega) ?_; intro v' w3 hown' hgrow _; obtain ⟨Gw,cv',rfl⟩:=yi hown'; have K:=hid (Gj AG.o hgrow (fun b hb=>(hown.lt b hb).1)); have IY:=hid hown'; clear hgrow hown')
      go_wp2
      go_roundw
      case rel =>
       refine ⟨_,_,_,_,_,_,_,_,_,_,_,_,_,_,_,⟨k+1,by omega,?_,?_,K.o⟩,rfl⟩
       ·go_num
       ·rw [E.o,iA,List.flatMap_append]; simpa using IY.o
      case measure=>simp [intOf]; omega
     ·have d:(rs[k].ah == (c:Int)+1)=false:=by simp; omega
      have E:=hid (yhT rs c k hkl e1);have QD:=hid hown;clear e1 hown;go_wp2
      go_roundw
      case rel=>exact ⟨k+1,by omega,by go_num,by rw [E.o]; exact QD.o.alloc _,ya HG2.o (aW _ _ _)⟩
      case measure=>simp [intOf]; omega
    ·obtain rfl:k=rs.length:=by omega
     have QD:=hid hown;clear hown hgr;go_wp2
     go_roundw
     case rel=>exact ⟨c+1,by omega,by go_num,by rw [<- yhz]; exact QD.o,HG2.o⟩
     case measure=>simp [intOf]; omega
  ·obtain rfl:c=3:=by omega
   have qf:wr.frozen? ⟨g,6,none⟩=false:=(HO.o.blk.grown HG.o (by simp)).free 6;go_wp2
   go_end0
   rw [<- Wt];have gs:=yy wr g 6 (.slice av (wQ rs 3).length cv);have Zv:=HO.o.blk.lt;have MQ:∀ k,Value.ownBlock (.slice av (wQ rs 3).length cv)=some k->W.heap.size<=k:=fun k hk=>(HOW.o.lt k hk).1
   have nr:ow B W (wr.setCell ⟨g,6,none⟩ (.slice av (wQ rs 3).length cv)) b g (.slice ar rs.length cr) (.slice av (wQ rs 3).length cv) :=
    ⟨fun k hk _ hkg=>(gs.block k (by have:=HG.o.size; omega) (by simpa using hkg)).trans (HG.o.block k hk (by simp)),fun k hk=>.inr (MQ k hk),gs.os.trans HG.o.os,gs.tape.trans HG.o.tape,gs.output.trans HG.o.output,Nat.le_trans HG.o.size gs.size⟩
   have nb:=(HO.o.blk.grown HG.o (by simp)).set 6 (.slice av (wQ rs 3).length cv);have hle:(wQ rs 3).length<=32:=by rw [Wt]; have:=XR rs; omega
   refine ⟨rfl,HW.o.Bf HO.o nr (wQ rs 3) hle (by simpa using nb) ?_⟩;refine Iu (Lh HOW.o fun k hk e=>?_) HW.o.size
   have:=MQ k hk
   omega
theorem ygl (b:Nat) (r:Lk.Rel) (l:List UInt8) (w:World) (h:iH w b l) (hl:l.length<=1048576) (hg:Lk.AU r) :
  Calls Tryz.prog 45 #[.pointer (some ⟨b,0,none⟩),.agg #[.int .i64 r.ah,.int .i64 r.off,.int .i64 r.kind,.int .i64 r.sym,.int .i64 r.addend]] w fun e w'=>e = .returned (.tuple #[])/\iH w' b (l ++ Lk.mI r)/\Wk b w w':=by
 obtain ⟨⟨hs0,hs1⟩,⟨hk0,hk1⟩,⟨ho0,ho1⟩,⟨hy0,hy1⟩,ha0,ha1⟩:=hg;have hvb:w.heap.size≠b:=by obtain ⟨_,_,h1,_⟩:=h; have:=h1.lt; omega
 have S1:=hid (DY.begin h #[.int .i64 r.ah,.int .i64 r.off,.int .i64 r.kind,.int .i64 r.sym,.int .i64 r.addend] 54);have c1:=hid (fun W (h:iH W b (l))=>Au b r.ah 1 1 rfl (l) W h (by omega) (by omega) (by omega) (by omega));have c2:=hid (fun W (h:iH W b (l ++ Lk.le r.ah 1))=>Au b r.kind 1 1 rfl (l ++ Lk.le r.ah 1) W h (by simp only [iA,Lk.bn]; omega) (by omega) (by omega) (by omega));have c3:=hid (fun W (h:iH W b (l ++ Lk.le r.ah 1 ++ Lk.le r.kind 1))=>Au b r.off 2 2 rfl (l ++ Lk.le r.ah 1 ++ Lk.le r.kind 1) W h (by simp only [iA,Lk.bn]; omega) (by omega) (by omega) (by omega));have c4:=hid (fun W (h:iH W b (l ++ Lk.le r.ah 1 ++ Lk.le r.kind 1 ++ Lk.le r.off 2))=>Au b r.sym 1 1 rfl (l ++ Lk.le r.ah 1 ++ Lk.le r.kind 1 ++ Lk.le r.off 2) W h (by simp only [iA,Lk.bn]; omega) (by omega) (by omega) (by omega))
 have c5:=hid (fun W (h:iH W b (l ++ Lk.le r.ah 1 ++ Lk.le r.kind 1 ++ Lk.le r.off 2 ++ Lk.le r.sym 1))=>Au b r.addend 2 2 rfl (l ++ Lk.le r.ah 1 ++ Lk.le r.kind 1 ++ Lk.le r.off 2 ++ Lk.le r.sym 1) W h (by simp only [iA,Lk.bn]; omega) (by omega) (by omega) (by omega));clear h;go_enter Tryz.func45,Tryz.ntmps45;go_wp2_with fail;refine Calls.fO (DY w b w.heap.size 54 #[.int .i64 r.ah,.int .i64 r.off,.int .i64 r.kind,.int .i64 r.sym,.int .i64 r.addend] l) S1.o ?_;clear S1;intro W1 s1;have S1:=hid s1;clear s1;refine (c1.o W1 S1.o.wr).mono ?_;rintro e W2 ⟨rfl,hw,hk⟩;have S2:=hid (S1.o.step hvb (by decide) hw hk)
 clear hw hk;have k2:=S2.o.own.cell 2;go_wp2_with fail;refine (c2.o W2 S2.o.wr).mono ?_;rintro e W3 ⟨rfl,hw,hk⟩;have S3:=hid (S2.o.step hvb (by decide) hw hk);clear hw hk k2;have k3:=S3.o.own.cell 1;go_wp2_with fail;refine (c3.o W3 S3.o.wr).mono ?_;rintro e W4 ⟨rfl,hw,hk⟩;have S4:=hid (S3.o.step hvb (by decide) hw hk);clear hw hk k3;have k4:=S4.o.own.cell 3;go_wp2_with fail;refine (c4.o W4 S4.o.wr).mono ?_;rintro e W5 ⟨rfl,hw,hk⟩;have S5:=hid (S4.o.step hvb (by decide) hw hk);clear hw hk k4;have k5:=S5.o.own.cell 4;go_wp2_with fail;refine (c5.o W5 S5.o.wr).mono ?_;rintro e W6 ⟨rfl,hw,hk⟩;have S6:=hid (S5.o.step hvb (by decide) hw hk)
 clear hw hk k5;go_wp2
 go_end0
 refine ⟨rfl,?_,S6.o.wk⟩
 have:=S6.o.wr
 simpa [Lk.mI] using this
def KP (w:World) (b:Nat) (ao:Option Addr) (ys:List Lk.Sym):Prop :=
 0 < ys.length->∃ g cs,ao=some ⟨g,0,none⟩/\g≠b/\yd w g cs 50/\∀ i (h:i < ys.length),cs[i * 4]?=some (.string (bs ys[i].name))/\cs[i * 4+1]?=some (.int .i64 ys[i].bind)/\cs[i * 4+2]?=some (.int .i64 ys[i].ah)/\cs[i * 4+3]?=some (.int .i64 ys[i].off)
theorem KP.kept {w w':World} {b:Nat} {ao:Option Addr} {xs:List Lk.Sym} (h:KP w b ao xs) (hk:Wk b w w'):KP w' b ao xs:=by
 intro h0;obtain ⟨g,cs,h1,h2,h3,h4⟩:=h h0;exact ⟨g,cs,h1,h2,hk.2 g cs _ h2 (by decide) h3,h4⟩
def KN (w:World) (b:Nat) (ao:Option Addr) (ys:List Lk.Rel):Prop :=
 0 < ys.length->∃ g cs,ao=some ⟨g,0,none⟩/\g≠b/\yd w g cs 54/\∀ i (h:i < ys.length),cs[i * 5]?=some (.int .i64 ys[i].ah)/\cs[i * 5+1]?=some (.int .i64 ys[i].off)/\cs[i * 5+2]?=some (.int .i64 ys[i].kind)/\cs[i * 5+3]?=some (.int .i64 ys[i].sym)/\cs[i * 5+4]?=some (.int .i64 ys[i].addend)
theorem KN.kept {w w':World} {b:Nat} {ao:Option Addr} {xs:List Lk.Rel} (h:KN w b ao xs) (hk:Wk b w w'):KN w' b ao xs:=by
 intro h0;obtain ⟨g,cs,h1,h2,h3,h4⟩:=h h0;exact ⟨g,cs,h1,h2,hk.2 g cs _ h2 (by decide) h3,h4⟩
theorem XU {w:World} {base b:Nat} {e:TypeId} {size:Nat} {ao:Option Addr} {n cap:Nat} {xs:List Value} (h:w.ownsRow base e size (.slice ao n cap) n xs) (hn:0 < n) (hb:∀ g,Value.ownBlock (.slice ao n cap)=some g->g≠b) :
  ∃ g cs,ao=some ⟨g,0,none⟩/\g≠b/\yd w g cs e/\∀ j,j < n * size->cs[j]?=xs[j]?:=by
 rcases h.2 with ⟨h1,h2⟩ | ⟨g,cap',cur,hv,_,hh,_,_,hcs,htk⟩
 ·omega
 ·simp only [Value.slice.injEq] at hv;obtain ⟨rfl,_,rfl⟩:=hv;refine ⟨g,cur,rfl,hb g rfl,hh,fun j hj=>?_⟩;have e:(cur.toList.take (n * size))[j]?=xs[j]?:=by rw [htk]
  rw [List.getElem?_take,if_pos hj] at e;rw [<- Array.getElem?_toList,e]
theorem XK {α:Type} (f:α->List Value) (size:Nat) (hf:∀ x,(f x).length=size) (l:List α):(l.flatMap f).length=l.length * size:=by
 induction l with
 | nil=>simp
 | cons y t ih=>rw [List.flatMap_cons,iA,ih,hf,Gn,Nat.succ_mul]; omega
theorem KP.aF {w:World} {base b:Nat} {ao:Option Addr} {n cap:Nat} {ys:List Lk.Sym} (h:w.ownsRow base 50 4 (.slice ao n cap) n (ys.flatMap iF)) (hb:∀ g,Value.ownBlock (.slice ao n cap)=some g->g≠b):KP w b ao ys:=by
 intro h0;have hl:=XK iF 4 (fun _=>rfl) ys;have hn:ys.length=n:=by have:=h.1; omega
 obtain ⟨g,cs,h1,h2,h3,h4⟩:=XU h (by omega) hb;refine ⟨g,cs,h1,h2,h3,fun i hi=>?_⟩;have q:=fun j (hj:j < 4)=>(h4 (i * 4+j) (by omega)).trans (OL iF 4 (fun _=>rfl) ys i j hi hj)
 exact ⟨q 0 (by omega),q 1 (by omega),q 2 (by omega),q 3 (by omega)⟩
theorem KN.aF {w:World} {base b:Nat} {ao:Option Addr} {n cap:Nat} {ys:List Lk.Rel} (h:w.ownsRow base 54 5 (.slice ao n cap) n (ys.flatMap dK)) (hb:∀ g,Value.ownBlock (.slice ao n cap)=some g->g≠b):KN w b ao ys:=by
 intro h0;have hl:=XK dK 5 (fun _=>rfl) ys;have hn:ys.length=n:=by have:=h.1; omega
 obtain ⟨g,cs,h1,h2,h3,h4⟩:=XU h (by omega) hb;refine ⟨g,cs,h1,h2,h3,fun i hi=>?_⟩;have q:=fun j (hj:j < 5)=>(h4 (i * 5+j) (by omega)).trans (OL dK 5 (fun _=>rfl) ys i j hi hj)
 exact ⟨q 0 (by omega),q 1 (by omega),q 2 (by omega),q 3 (by omega),q 4 (by omega)⟩
structure DU (W:World) (b g:Nat) (o:Lk.Obj) (at_:Option Addr) (ct:Nat) (af:Option Addr) (cf:Nat) (ad:Option Addr) (cd:Nat) (aa:Option Addr) (ca:Nat) (gu:Option Addr) (cs:Nat) (ar:Option Addr) (cr:Nat):Prop where
 blk:yd W g #[.slice at_ o.text.length ct,.slice af o.far.length cf,.slice ad o.data.length cd,.int .i64 o.bss,.slice aa o.align.length ca,.slice gu o.syms.length cs,.slice ar o.aj.length cr] 40
 ne:g≠b
 text:BD W b at_ o.text
 far:BD W b af o.far
 data:BD W b ad o.data
 align:BD W b aa o.align
 syms:KP W b gu o.syms
 aj:KN W b ar o.aj
section
variable {W W':World} {b g:Nat} {o:Lk.Obj} {at_ af ad aa gu ar:Option Addr} {ct cf cd ca cs cr:Nat}
theorem DU.kept (h:DU W b g o at_ ct af cf ad cd aa ca gu cs ar cr) (hk:Wk b W W'):DU W' b g o at_ ct af cf ad cd aa ca gu cs ar cr :=
 ⟨hk.2 g _ _ h.ne (by decide) h.blk,h.ne,h.text.kept hk,h.far.kept hk,h.data.kept hk,h.align.kept hk,h.syms.kept hk,h.aj.kept hk⟩
end
theorem yw.toB {W:World} {g:Nat} {o:Lk.Obj} (h:yw W g o) (ob:Obj):∃ at_ ct af cf ad cd aa ca gu cs ar cr,DU (W.alloc ob) W.heap.size g o at_ ct af cf ad cd aa ca gu cs ar cr:=by
 obtain ⟨at_,ct,af,cf,ad,cd,aa,ca,gu,cs,ar,cr,hb,h1,h2,h3,h4,h5,h6⟩:=h.open;have ne:∀ {e:TypeId} {size:Nat} {ao:Option Addr} {n cap:Nat} {xs:List Value},W.ownsRow 0 e size (.slice ao n cap) n xs->∀ k,Value.ownBlock (.slice ao n cap)=some k->k≠W.heap.size:=fun h k hk=>by have:=(h.lt k hk).2; omega
 refine ⟨at_,ct,af,cf,ad,cd,aa,ca,gu,cs,ar,cr,hb.grown (aW _ _ none) (by simp),by have:=hb.lt; omega,?_,?_,?_,?_,?_,?_⟩
 ·exact BD.aF (h1.alloc _) (ne h1)
 ·exact BD.aF (h2.alloc _) (ne h2)
 ·exact BD.aF (h3.alloc _) (ne h3)
 ·exact BD.aF (h4.alloc _) (ne h4)
 ·exact KP.aF (h5.alloc _) (ne h5)
 ·exact KN.aF (h6.alloc _) (ne h6)
structure JD (w:World) (b g:Nat) (o:Lk.Obj) (at_:Option Addr) (ct:Nat) (af:Option Addr) (cf:Nat) (ad:Option Addr) (cd:Nat) (aa:Option Addr) (ca:Nat) (gu:Option Addr) (cs:Nat) (ar:Option Addr) (cr:Nat) (l:List UInt8) (W:World):Prop where
 wr:iH W b l
 ob:DU W b g o at_ ct af cf ad cd aa ca gu cs ar cr
 be:Below b w W
section
variable {w W W':World} {b g:Nat} {o:Lk.Obj} {at_ af ad aa gu ar:Option Addr} {ct cf cd ca cs cr:Nat} {l l':List UInt8}
theorem JD.step (h:JD w b g o at_ ct af cf ad cd aa ca gu cs ar cr l W) (hw:iH W' b l') (hk:Wk b W W'):JD w b g o at_ ct af cf ad cd aa ca gu cs ar cr l' W' :=
 ⟨hw,h.ob.kept hk,h.be.trans hk.1⟩
end
theorem Qi {α:Type} (f:α->List UInt8) (ys:List α) (k:Nat) (h:k < ys.length):(ys.take (k+1)).flatMap f=(ys.take k).flatMap f ++ f ys[k]:=by
 rw [List.take_succ_eq_append_getElem h,List.flatMap_append];simp
theorem UE {α:Type} (f:α->List UInt8) (c:Nat) (ys:List α) (hf:∀ y∈ys,(f y).length<=c):(ys.flatMap f).length<=ys.length * c:=by
 induction ys with
 | nil=>simp
 | cons y t ih =>
  have h1:=hf y (by simp);have h2:=ih (fun z hz=>hf z (by simp [hz]));rw [List.flatMap_cons,iA,Gn,Nat.succ_mul];omega
theorem P8 {α:Type} (f:α->List UInt8) (c k:Nat) (ys:List α) (hf:∀ y∈ys,(f y).length<=c):((ys.take k).flatMap f).length<=ys.length * c:=by
 have h1:=UE f c (ys.take k) (fun y hy=>hf y (List.mem_of_mem_take hy));have h2:(ys.take k).length * c<=ys.length * c:=Nat.mul_le_mul_right c (by simp; omega);omega
theorem Yd (y:Lk.Sym) (h:Lk.vP y):(Lk.lJ y).length<=260:=by
 have:=h.1
 simp only [Lk.lJ,iA,Lk.bn];omega
theorem UL (r:Lk.Rel):(Lk.mI r).length<=7:=by
 simp only [Lk.mI,iA,Lk.bn];omega
theorem yjy (g:Nat) (o:Lk.Obj) (w:World) (ht:gD w) (h:yw w g o) (hgood:Lk.vO o) (hv:zl o) :
  Calls Tryz.prog 23 #[.pointer (some ⟨g,0,none⟩)] w fun e w'=>e = .returned (.tuple #[.string (bs (Lk.uq o)),.int .i64 0])/\w.grownBy w' none:=by
 have cV:=hid (XF g o w ht h (Xx hgood));have HV:=hid hv;have HO:=hid h;have Dr:=hid hgood;obtain ⟨z1,z2,z3,z4,z5,z6,z7,z8,z9,Yu,Yv,z12,Yw⟩:=hgood;obtain ⟨⟨s1,s2,s3⟩,s4,s5,s6⟩:=hv.1;have HS:=hid z9;have YU:=hid Yu;have HW1:=hid z6;have Y3:=hid Yv;have Y2:=hid z12;have Y1:=hid Yw;have z5a:o.align.length<=4:=by omega
 clear ht h hv z9 Yu z6 Yv z12 Yw z5;go_enter Tryz.func23,Tryz.ntmps23;go_wp2_with fail;refine cV.o.mono ?_;rintro e W1 ⟨tv,q1⟩;obtain rfl:=Un tv HV.o;have Q1:=hid q1;have Ca:=hid (HO.o.kept q1);clear tv q1 cV;go_wp2_with fail;obtain ⟨at_,ct,af,cf,ad,cd,aa,ca,gu,cs,ar,cr,VJ⟩:=Ca.o.toB (.cells #[.slice none 0 0] 83);have S0:Hd (JD W1 W1.heap.size g o at_ ct af cf ad cd aa ca gu cs ar cr [] (W1.alloc (.cells #[.slice none 0 0] 83))):=⟨ykp W1,VJ,(Below.refl _ _).alloc (Nat.le_refl _) _⟩
 clear VJ;generalize hbb:W1.heap.size=b at *;have wN:=hid hbb;clear hbb;refine Calls.fO (JD W1 b g o at_ ct af cf ad cd aa ca gu cs ar cr []) S0.o ?_;clear S0;intro V0 h0;have S0:=hid h0;clear h0;refine (XG b ⟨#[76,75]⟩ [] V0 S0.o.wr (by simp) (by decide)).mono ?_;rintro e V1 ⟨rfl,hw,hk⟩;have S1:=hid (S0.o.step hw hk);clear S0;generalize hE1:[] ++ sl ⟨#[76,75]⟩=l1 at *;have n1:l1.length<=2:=by rw [<- hE1]; decide
 have E1:=hid hE1;clear hE1 hw hk;have k0:=S1.o.ob.blk.cell 0;go_wp2_with fail;refine (Au b (o.text.length:Int) 2 2 rfl l1 V1 S1.o.wr (by omega) (by omega) (by omega) (by omega)).mono ?_;rintro e V2 ⟨rfl,hw,hk⟩;have S2:=hid (S1.o.step hw hk);clear S1 k0;generalize hE2:l1 ++ Lk.le (o.text.length:Int) 2=l2 at *;have n2:l2.length<=4:=by rw [<- hE2,iA,Lk.bn]; omega
 have E2:=hid hE2;clear hE2 hw hk;have k0:=S2.o.ob.blk.cell 1;go_wp2_with fail;refine (Au b (o.far.length:Int) 2 2 rfl l2 V2 S2.o.wr (by omega) (by omega) (by omega) (by omega)).mono ?_;rintro e V3 ⟨rfl,hw,hk⟩;have S3:=hid (S2.o.step hw hk);clear S2 k0;generalize Rk:l2 ++ Lk.le (o.far.length:Int) 2=l3 at *;have n3:l3.length<=6:=by rw [<- Rk,iA,Lk.bn]; omega
 have E3:=hid Rk;clear Rk hw hk;have k0:=S3.o.ob.blk.cell 2;go_wp2_with fail;refine (Au b (o.data.length:Int) 2 2 rfl l3 V3 S3.o.wr (by omega) (by omega) (by omega) (by omega)).mono ?_;rintro e V4 ⟨rfl,hw,hk⟩;have S4:=hid (S3.o.step hw hk);clear S3 k0;generalize Rl:l3 ++ Lk.le (o.data.length:Int) 2=l4 at *;have n4:l4.length<=8:=by rw [<- Rl,iA,Lk.bn]; omega
 have E4:=hid Rl;clear Rl hw hk;have k0:=S4.o.ob.blk.cell 3;go_wp2_with fail;refine (Au b o.bss 2 2 rfl l4 V4 S4.o.wr (by omega) (by omega) (by omega) (by omega)).mono ?_;rintro e V5 ⟨rfl,hw,hk⟩;have S5:=hid (S4.o.step hw hk);clear S4 k0;generalize Rm:l4 ++ Lk.le o.bss 2=l5 at *;have n5:l5.length<=10:=by rw [<- Rm,iA,Lk.bn]; omega
 have E5:=hid Rm;clear Rm hw hk;have k0:=S5.o.ob.blk.cell 4;go_wp2_with fail;refine (PG b aa ca 1 1 rfl o.align l5 V5 S5.o.wr S5.o.ob.align (by omega) (by omega) (by omega) (fun i hi=>by have:=HW1.o _ (lM hi); simp only [Int.reducePow] at this; omega)).mono ?_;rintro e V6 ⟨rfl,hw,hk⟩;have S6:=hid (S5.o.step hw hk);clear S5 k0;generalize Rn:l5 ++ Lk.nums o.align 1=l6 at *;have n6:l6.length<=14:=by rw [<- Rn,iA,FU]; omega
 have E6:=hid Rn;clear Rn hw hk;have k0:=S6.o.ob.blk.cell 5;go_wp2_with fail;refine (Au b (o.syms.length:Int) 1 1 rfl l6 V6 S6.o.wr (by omega) (by omega) (by omega) (by omega)).mono ?_;rintro e V7 ⟨rfl,hw,hk⟩;have S7:=hid (S6.o.step hw hk);clear S6 k0;generalize Ro:l6 ++ Lk.le (o.syms.length:Int) 1=l7 at *;have n7:l7.length<=15:=by rw [<- Ro,iA,Lk.bn]; omega
 have E7:=hid Ro;clear Ro hw hk;have k0:=S7.o.ob.blk.cell 6;go_wp2_with fail;refine (Au b (o.aj.length:Int) 1 1 rfl l7 V7 S7.o.wr (by omega) (by omega) (by omega) (by omega)).mono ?_;rintro e V8 ⟨rfl,hw,hk⟩;have S8:=hid (S7.o.step hw hk);clear S7 k0;generalize Rp:l7 ++ Lk.le (o.aj.length:Int) 1=l8 at *;have n8:l8.length<=16:=by rw [<- Rp,iA,Lk.bn]; omega
 have E8:=hid Rp;clear Rp hw hk;have k0:=S8.o.ob.blk.cell 5;go_wp2
 go_loopw [63] (fun i wr=>∃ n:Nat,n<=o.syms.length/\i = .int .i64 n/\JD W1 b g o at_ ct af cf ad cd aa ca gu cs ar cr (l8 ++ (o.syms.take n).flatMap Lk.lJ) wr) (fun i _=>o.syms.length - (intOf i).toNat)
 case atStart=>exact ⟨0,Nat.zero_le _,rfl,by simpa using S8.o⟩
 case round =>
  obtain ⟨n,hn,rfl,hst⟩:=hrel;have ST:=hid hst;clear hst;by_cases hlt:n < o.syms.length
  ·obtain ⟨sg,Zk,hao,hne,hbk,hc⟩:=ST.o.ob.syms (by omega);subst hao;obtain ⟨q0,q1,q2,q3⟩:=hc n hlt;have m0:=(hbk.cell (n * 4)).trans q0;have m1:=(hbk.cell (n * 4+1)).trans q1;have m2:=(hbk.cell (n * 4+2)).trans q2;have m3:=(hbk.cell (n * 4+3)).trans q3;have hgl:=hbk.lt;have hwb:b < wr.heap.size:=by obtain ⟨_,_,x1,_⟩:=ST.o.wr; exact x1.lt
   have hgd:=HS.o _ (lM hlt);have hlen:(l8 ++ (o.syms.take n).flatMap Lk.lJ).length<=1048576:=by
    have:=P8 Lk.lJ 260 n o.syms (fun y hy=>Yd y (HS.o y hy))
    rw [iA];omega
   have Mr:=hid (DY.begin ST.o.wr #[.string (bs o.syms[n].name),.int .i64 o.syms[n].bind,.int .i64 o.syms[n].ah,.int .i64 o.syms[n].off] 50);have cW:=hid (fun W hW=>yfQ b o.syms[n] (l8 ++ (o.syms.take n).flatMap Lk.lJ) W hW hlen hgd);clear hbk hc q0 q1 q2 q3 hgd hlen k0;go_wp2_with fail;refine (cW.o _ Mr.o.wr).mono ?_;rintro e W2 ⟨rfl,hw,hk⟩;have S2:=hid (ST.o.step hw (Mr.o.wk.trans hk));clear hw hk;go_wp2
   go_roundw
   case rel=>exact ⟨n+1,by omega,by go_num,by rw [Qi Lk.lJ o.syms n hlt,<- List.append_assoc]; exact S2.o⟩
   case measure=>simp [intOf]; omega
  ·have QG:=ST.o;rw [List.take_of_length_le (show o.syms.length<=n by omega)] at QG;have S9:=hid QG;clear QG ST k0 S8;generalize Rq:l8 ++ o.syms.flatMap Lk.lJ=l9 at *;have n9:l9.length<=4176:=by
    have:=UE Lk.lJ 260 o.syms (fun y hy=>Yd y (HS.o y hy))
    rw [<- Rq,iA];omega
   have E9:=hid Rq;clear Rq;have k0:=S9.o.ob.blk.cell 6;go_wp2
   go_loopw [75] (fun i wr=>∃ n:Nat,n<=o.aj.length/\i = .int .i64 n/\JD W1 b g o at_ ct af cf ad cd aa ca gu cs ar cr (l9 ++ (o.aj.take n).flatMap Lk.mI) wr) (fun i _=>o.aj.length - (intOf i).toNat)
   case atStart=>exact ⟨0,Nat.zero_le _,rfl,by simpa using S9.o⟩
   case round =>
    obtain ⟨n,hn,rfl,hst⟩:=hrel;have ST:=hid hst;clear hst;by_cases hlt:n < o.aj.length
    ·obtain ⟨sg,Zk,hao,hne,hbk,hc⟩:=ST.o.ob.aj (by omega);subst hao;obtain ⟨q0,q1,q2,q3,q4⟩:=hc n hlt;have m0:=(hbk.cell (n * 5)).trans q0;have m1:=(hbk.cell (n * 5+1)).trans q1;have m2:=(hbk.cell (n * 5+2)).trans q2;have m3:=(hbk.cell (n * 5+3)).trans q3;have m4:=(hbk.cell (n * 5+4)).trans q4;have hgl:=hbk.lt;have hwb:b < wr.heap.size:=by obtain ⟨_,_,x1,_⟩:=ST.o.wr; exact x1.lt
     have hgd:=YU.o _ (lM hlt);have hlen:(l9 ++ (o.aj.take n).flatMap Lk.mI).length<=1048576:=by
      have:=P8 Lk.mI 7 n o.aj (fun y hy=>UL y)
      rw [iA];omega
     have Mr:=hid (DY.begin ST.o.wr #[.int .i64 o.aj[n].ah,.int .i64 o.aj[n].off,.int .i64 o.aj[n].kind,.int .i64 o.aj[n].sym,.int .i64 o.aj[n].addend] 54);have cW:=hid (fun W hW=>ygl b o.aj[n] (l9 ++ (o.aj.take n).flatMap Lk.mI) W hW hlen hgd);clear hbk hc q0 q1 q2 q3 q4 hgd hlen k0;go_wp2_with fail;refine (cW.o _ Mr.o.wr).mono ?_;rintro e W2 ⟨rfl,hw,hk⟩;have S2:=hid (ST.o.step hw (Mr.o.wk.trans hk));clear hw hk;go_wp2
     go_roundw
     case rel=>exact ⟨n+1,by omega,by go_num,by rw [Qi Lk.mI o.aj n hlt,<- List.append_assoc]; exact S2.o⟩
     case measure=>simp [intOf]; omega
    ·have JC:=ST.o;rw [List.take_of_length_le (show o.aj.length<=n by omega)] at JC;have Mk:=hid JC;clear JC ST k0 S9;generalize JY:l9 ++ o.aj.flatMap Lk.mI=l10 at *;have n10:l10.length<=4400:=by
      have:=UE Lk.mI 7 o.aj (fun y hy=>UL y)
      rw [<- JY,iA];omega
     have Yz:=hid JY;clear JY;have k0:=Mk.o.ob.blk.cell 0;go_wp2_with fail;refine (PG b at_ ct 4 4 rfl o.text l10 wr Mk.o.wr Mk.o.ob.text (by omega) (by omega) (by omega) (fun i hi=>by have:=Y3.o _ (lM hi); simp only [Int.reducePow] at this; omega)).mono ?_;rintro e Zd ⟨rfl,hw,hk⟩;have Ml:=hid (Mk.o.step hw hk);clear Mk k0;generalize JZ:l10 ++ Lk.nums o.text 4=Tn at *;have n11:Tn.length<=9200:=by rw [<- JZ,iA,FU]; omega
     have YA:=hid JZ;clear JZ hw hk;have k0:=Ml.o.ob.blk.cell 1;go_wp2_with fail;refine (PG b af cf 4 4 rfl o.far Tn Zd Ml.o.wr Ml.o.ob.far (by omega) (by omega) (by omega) (fun i hi=>by have:=Y2.o _ (lM hi); simp only [Int.reducePow] at this; omega)).mono ?_;rintro e Ze ⟨rfl,hw,hk⟩;have Mq:=hid (Ml.o.step hw hk);clear Ml k0;generalize J2:Tn ++ Lk.nums o.far 4=Tp at *;have n12:Tp.length<=14000:=by rw [<- J2,iA,FU]; omega
     have YB:=hid J2;clear J2 hw hk;have k0:=Mq.o.ob.blk.cell 2;go_wp2_with fail;refine (PG b ad cd 4 4 rfl o.data Tp Ze Mq.o.wr Mq.o.ob.data (by omega) (by omega) (by omega) (fun i hi=>by have:=Y1.o _ (lM hi); simp only [Int.reducePow] at this; omega)).mono ?_;rintro e Zf ⟨rfl,hw,hk⟩;have Vs:=hid (Mq.o.step hw hk);clear Mq k0;generalize J3:Tp ++ Lk.nums o.data 4=Tq at *;have n13:Tq.length<=14256:=by rw [<- J3,iA,FU]; omega
     have YC:=hid J3;clear J3 hw hk;go_wp2_with fail;refine (yiO b Tq Zf Vs.o.wr).mono ?_;rintro e V14 ⟨rfl,RU⟩;subst RU;go_wp2;go_ret2;have hfin:Tq=Lk.uq o:=by
      rw [<- YC.o,<- YB.o,<- YA.o,<- Yz.o,<- E9.o,<- E8.o,<- E7.o,<- E6.o,<- E5.o,<- E4.o,<- E3.o,<- E2.o,<- E1.o];simp [Lk.uq,sl]
     refine ⟨by rw [hfin]; rfl,?_⟩;have hb:=Vs.o.be;exact ⟨hb.os.trans Q1.o.os,hb.tape.trans Q1.o.tape,hb.output.trans Q1.o.output,Nat.le_trans Q1.o.size hb.size,fun i hi _=>(hb.block i (by have:=Q1.o.size; have:=wN.o; omega)).trans (Q1.o.block i hi (by simp))⟩
theorem Xe {o:Lk.Obj} (h:Jp o) (ah:Int):(ym o ah).length<=1200:=by
 obtain ⟨⟨n1,n2,n3⟩,-⟩:=h;unfold ym;split
 ·exact n1
 split
 ·exact n2
 split
 ·omega
 ·simp
theorem Ur {xs:List Int} (h:mO xs):Lk.kT 4 xs:=fun x hx=>by
 obtain ⟨i,hi,rfl⟩:=List.getElem_of_mem hx
 have:=h i hi
 simp only [Int.reducePow];omega
theorem Xd {o:Lk.Obj} (h:zl o):Lk.vO o:=by
 obtain ⟨hz,hb,hw,hs,hr⟩:=h;have hz':=hz;obtain ⟨⟨n1,n2,n3⟩,n4,n5,n6⟩:=hz;refine ⟨by omega,by omega,by omega,by omega,hb.1,?_,by omega,by omega,?_,?_,Ur hw.1,Ur hw.2.1,Ur hw.2.2⟩
 ·intro x hx;obtain ⟨i,hi,rfl⟩:=List.getElem_of_mem hx
  have:=hb.2 i hi
  simp only [Int.reducePow];omega
 ·intro y hy;obtain ⟨i,hi,rfl⟩:=List.getElem_of_mem hy;obtain ⟨⟨k1,k2,k3,-,k4,-,k5⟩,-⟩:=hs i hi;have hl:(bs (o.syms[i]).name).size=(o.syms[i]).name.length:=rfl;have k6:=k1.2.1;have hw:=Xe hz' (o.syms[i]).ah;refine ⟨by omega,by omega,by omega,by omega,?_⟩;unfold nC at k5;split at k5 <;> omega
 ·intro r hr';obtain ⟨i,hi,rfl⟩:=List.getElem_of_mem hr';obtain ⟨⟨k1,k2,k3,-,k5,-,-⟩,-⟩:=hr i hi;have hsp:=yD k2;have hw:=Xe hz' (o.aj[i]).ah;unfold yv at k5;unfold yC at k1;unfold yS at k3;unfold yk at k2;refine ⟨by omega,by omega,by omega,?_,?_⟩
  ·split at k3 <;> omega
  ·split at k2
   ·omega
   ·split at k2 <;> omega
theorem ykr (g:Nat) (o:Lk.Obj) (w:World) (ht:gD w) (h:yw w g o) (hn:zC o) (hv:¬ zl o) :
  Calls Tryz.prog 23 #[.pointer (some ⟨g,0,none⟩)] w fun e w'=>e = .returned (.tuple #[.string ⟨#[]⟩,.int .i64 20])/\w.grownBy w' none:=by
 have cV:=hid (XF g o w ht h hn);have HV:=hid hv;clear ht h hv hn;go_enter Tryz.func23,Tryz.ntmps23;go_wp2_with fail;refine cV.o.mono ?_;rintro e W1 ⟨tv,q1⟩;rcases tv.split with ⟨rfl,_⟩ | ⟨_,p⟩
 ·have Q:=hid q1;clear q1;go_wp2;go_ret2;exact ⟨rfl,Q.o⟩
 ·exact absurd p.o HV.o
theorem yiQ (g:Nat) (o:Lk.Obj) (w:World) (ht:gD w) (h:yw w g o) (hn:zC o) :
  Calls Tryz.prog 23 #[.pointer (some ⟨g,0,none⟩)] w fun e w'=>((e = .returned (.tuple #[.string (bs (Lk.uq o)),.int .i64 0])/\zl o)\/(e = .returned (.tuple #[.string (bs []),.int .i64 20])/\¬ zl o))/\w.grownBy w' none:=by
 by_cases hv:zl o
 ·exact (yjy g o w ht h (Xd hv) hv).mono fun e w' k=>⟨.inl ⟨k.1,hv⟩,k.2⟩
 ·exact (ykr g o w ht h hn hv).mono fun e w' k=>⟨.inr ⟨k.1,hv⟩,k.2⟩
def Told (s t:List UInt8) (fe fa:Nat):Prop :=
 ((As.assemble s).1.1≠0/\t=[]/\fe=(As.assemble s).1.1/\fa=(As.assemble s).1.2) \/
 ((As.assemble s).1.1=0/\zl (As.assemble s).2/\t=Lk.uq (As.assemble s).2/\fe=0/\fa=0) \/
 ((As.assemble s).1.1=0/\¬ zl (As.assemble s).2/\t=[]/\fe=20/\fa=0)
def qE (fe fa:Nat):Value:=.agg #[.int .i64 fe,.int .i64 fa,.string ⟨#[]⟩]
def nU (fe fa:Nat):Array Value:=#[.int .i64 fe,.int .i64 fa,.string ⟨#[]⟩]
def Gv (s:ByteArray) (w:World):World :=
 (((w.alloc (.cells (nU 0 0) 27)).alloc (.cells (yK s (w.heap.size+1+1+1) As.start) 64)).alloc (.cells #[.int .i64 2,.int .i64 2,.int .i64 2,.int .i64 2] 3)).alloc
  (.cells #[.slice none 0 0,.slice none 0 0,.slice none 0 0,.int .i64 0,.slice (some ⟨w.heap.size+1+1,0,none⟩) 4 4,.slice none 0 0,.slice none 0 0] 40)
theorem Xf (s:ByteArray) (w:World):w.grownBy (Gv s w) none :=
 ya (ya (ya (aW _ _ _) (aW _ _ _)) (aW _ _ _)) (aW _ _ _)
theorem yiq (s:ByteArray) (w:World):yd (Gv s w) w.heap.size (nU 0 0) 27 :=
 (yd.new w (nU 0 0) 27).grown (ya (ya (aW _ _ none) (aW _ _ none)) (aW _ _ none)) (by simp)
theorem wL (w:World) (o:Obj):(w.alloc o).heap.size=w.heap.size+1:=Array.size_push _
theorem ykj (s:ByteArray) (hs:s.size<=1000):jH s As.start :=
 ⟨hs,Nat.zero_le _,LJ,by decide,by decide,LJ,by decide,by decide,by decide,by decide,by decide,by decide,by decide,by decide⟩
theorem ykB (s:ByteArray) (w:World) (ht:gD w) (hB:3<=w.heap.size) (hs:s.size<=1000) :
  yl w.heap.size s (w.heap.size+1) (w.heap.size+1+1+1) As.start (Gv s w):=by
 have b1:=yd.new (w.alloc (.cells (nU 0 0) 27)) (yK s (w.heap.size+1+1+1) As.start) 64;have b2:=yd.new ((w.alloc (.cells (nU 0 0) 27)).alloc (.cells (yK s (w.heap.size+1+1+1) As.start) 64)) #[.int .i64 2,.int .i64 2,.int .i64 2,.int .i64 2] 3;have b3:=yd.new (((w.alloc (.cells (nU 0 0) 27)).alloc (.cells (yK s (w.heap.size+1+1+1) As.start) 64)).alloc (.cells #[.int .i64 2,.int .i64 2,.int .i64 2,.int .i64 2] 3)) #[.slice none 0 0,.slice none 0 0,.slice none 0 0,.int .i64 0,.slice (some ⟨w.heap.size+1+1,0,none⟩) 4 4,.slice none 0 0,.slice none 0 0] 40;rw [wL] at b1;rw [wL,wL] at b2;rw [wL,wL,wL] at b3
 refine ⟨b1.grown (ya (aW _ _ none) (aW _ _ none)) (by simp),⟨.slice none 0 0,.slice none 0 0,.slice none 0 0,.slice (some ⟨w.heap.size+1+1,0,none⟩) 4 4,.slice none 0 0,.slice none 0 0,?_⟩,⟨hB,by omega,by omega,by omega⟩,ykj s hs,ht.grown (Xf s w)⟩;refine ⟨b3,World.ownsRow_nil _ _ _ _,World.ownsRow_nil _ _ _ _,World.ownsRow_nil _ _ _ _,⟨rfl,.inr ⟨w.heap.size+1+1,4,#[.int .i64 2,.int .i64 2,.int .i64 2,.int .i64 2],rfl,by omega,b2.grown (aW _ _ none) (by simp),Nat.le_refl 4,by decide,rfl,rfl⟩⟩,World.ownsRow_nil _ _ _ _,World.ownsRow_nil _ _ _ _,?_⟩;unfold Dw gI Value.ownBlock;simp;omega
theorem LB {w W V:World} (h:w.grownBy W none) (hb:Below w.heap.size W V):w.grownBy V none :=
 ⟨hb.os.trans h.os,hb.tape.trans h.tape,hb.output.trans h.output,Nat.le_trans h.size hb.size,fun i hi _=>(hb.block i hi).trans (h.block i hi (by simp))⟩
theorem Dv {w V:World} (h:w.grownBy V none) (r:Nat) (hr:w.heap.size<=r) (l:List (Nat×Value)):w.grownBy (sets V r l) none:=by
 have g:=Bw V r l;exact ⟨g.os.trans h.os,g.tape.trans h.tape,g.output.trans h.output,Nat.le_trans h.size g.size,fun i hi _=>(g.block i (Nat.lt_of_lt_of_le hi h.size) (by simp; omega)).trans (h.block i hi (by simp))⟩
theorem Bz {W:World} {B:Nat} {e:TypeId} {size n:Nat} {v:Value} {xs:List Value} (h:W.ownsRow B e size v n xs):W.ownsRow 0 e size v n xs :=
 ⟨h.1,h.2.imp id fun ⟨g,cap,cur,e,_,r⟩=>⟨g,cap,cur,e,Nat.zero_le _,r⟩⟩
theorem yjh {rs:List Lk.Rel} {r:Lk.Rel} (h:r∈As.dx rs):r∈rs:=by
 unfold As.dx at h;simp only [List.mem_append,List.mem_filter] at h;rcases h with (h | h) | h <;> exact h.1
theorem yhN {s:ByteArray} {st:As.St} (hok:jH s st) (h:As.Tm st.obj):zC (As.finish st.obj):=by
 have h1:=hok.syms;have h2:=hok.aj;have h3:=hok.align;have h4:=XR st.obj.aj;refine ⟨⟨?_,?_,?_,?_,?_,?_⟩,fun y hy=>?_,fun r hr=>?_⟩
 ·have:=h.text; show st.obj.text.length<=_; omega
 ·have:=h.far; show st.obj.far.length<=_; omega
 ·have:=h.data; show st.obj.data.length<=_; omega
 ·show st.obj.align.length<=_; omega
 ·show (As.dL st.obj.syms).length<=_; simp [As.dL]; omega
 ·show (As.dx st.obj.aj).length<=_; omega
 ·obtain ⟨x,hx,rfl⟩:=List.mem_map.1 hy
  have:=h.names x hx
  split <;> simp <;> omega
 ·have:=h.uy r (yjh hr); omega
def yle (s:ByteArray) (w:World) (m:Value) (wr:World):Prop :=
 ∃ st:As.St,Does w.heap.size s (w.heap.size+1) (w.heap.size+1+1+1) (Gv s w) st wr /\
  ((m = .bool true/\∃ n,As.lines (sl s) (s.size+1) As.start=As.lines (sl s) n st/\s.size - st.p+1<=n)\/(m = .bool false/\As.lines (sl s) (s.size+1) As.start=st))
def U1 (s:ByteArray) (w:World) (m:Value) (wr:World):Nat:=match m with
 | .bool true=>s.size - F8 (w.heap.size+1) wr+1
 | _=>0
theorem yl.pos {B:Nat} {s:ByteArray} {b g:Nat} {st:As.St} {W:World} (h:yl B s b g st W):F8 b W=st.p:=by
 have:=yP h 1
 simp only [yK,bB,yml,bf] at this;unfold F8;rw [this];simp
theorem ygM (s:ByteArray) (w:World) (ht:gD w) (hN:pQ w) (hB:3<=w.heap.size) :
  Calls Tryz.prog 9 #[.string s] w fun e w'=>(∃ t fe fa,e = .returned (.tuple #[.string (bs t),qE fe fa])/\Told (sl s) t fe fa)/\w.grownBy w' none:=by
 have HT:=hid ht;have HN:=hid hN;clear ht hN;by_cases hl:1000 < s.size
 ·have d:decide (1000 < (s.size:Int))=true:=by simp; omega
  have RA:=hid (show As.assemble (sl s)=((1,0),As.start.obj) by unfold As.assemble; rw [yx,if_pos hl]);go_enter Tryz.func9,Tryz.ntmps9;go_wp2;refine bodyPost_ret (v:=.tuple #[.string (bs []),qE 1 0]) ?_ rfl ⟨⟨[],1,0,rfl,.inl ⟨by rw [RA.o]; decide,rfl,by rw [RA.o],by rw [RA.o]⟩⟩,aW _ _ _⟩;simp [results,Tryz.results9,go_sem,qE,bs]
 ·have d:decide (1000 < (s.size:Int))=false:=by simp; omega
  have RA:=hid (show As.assemble (sl s)=(((As.lines (sl s) (s.size+1) As.start).fe,(As.lines (sl s) (s.size+1) As.start).fa),As.finish (As.lines (sl s) (s.size+1) As.start).obj) by unfold As.assemble; rw [yx,if_neg hl]);have AT:=hid (ykB s w HT.o hB (by omega));have AG:=hid (Xf s w);have AF:=hid (yiq s w);have TM:=hid (As.Ev (sl s) (s.size+1) As.start As.tF);go_enter Tryz.func9,Tryz.ntmps9;go_wp2
  go_loopw [5] (fun m wr=>yle s w m wr) (fun m wr=>U1 s w m wr)
  case atStart=>exact ⟨As.start,AT.o.does,.inl ⟨rfl,s.size+1,rfl,by omega⟩⟩
  case round =>
   obtain ⟨st,hd,⟨rfl,n,hn,hle⟩ | ⟨rfl,hn⟩⟩:=hrel
   ·have D:=hid hd;have EN:=hid hn;have HL:=hid hle;have N2:=hid (HN.o.below (WG (LB AG.o D.o.2.1) (Nat.le_refl _) (by simp)) hB);clear hd hn hle;go_wp2_with fail;refine (yjR _ s _ _ st wr D.o.1 N2.o).mono ?_;rintro e V1 ⟨rfl,h1⟩;have D1:=hid (D.o.after h1);clear h1;go_wp2_with fail;refine (ygz _ s _ _ _ V1 D1.o.1).mono ?_;rintro e V2 ⟨rfl,h2⟩;have D2:=hid (D1.o.aR h2);clear h2
    cases hr:(As.bO (sl s) (As.line (sl s) st)).1
    ·have R:=hid hr;clear hr;go_wp2
     go_roundw
     case rel =>
      refine ⟨_,D2.o,.inr ⟨rfl,?_⟩⟩;rw [EN.o];obtain ⟨k,rfl⟩:∃ k,n=k+1:=⟨n - 1,by have:=HL.o; omega⟩
      simp only [As.lines];rw [R.o];simp
     case measure=>simp [U1]
    ·have R:=hid hr;clear hr;go_wp2
     go_roundw
     case rel =>
      have u1:=As.A9 (sl s) st;have u2:=As.qw (sl s) (As.line (sl s) st) R.o;rw [yx] at u2;have hl2:=HL.o;obtain ⟨k,rfl⟩:∃ k,n=k+1:=⟨n - 1,by omega⟩
      refine ⟨_,D2.o,.inl ⟨rfl,k,?_,by omega⟩⟩;rw [EN.o];simp only [As.lines];rw [R.o];simp
     case measure =>
      have u1:=As.A9 (sl s) st;have u2:=As.qw (sl s) (As.line (sl s) st) R.o;rw [yx] at u2;have p1:=D.o.1.pos;have p2:=D2.o.1.pos;simp only [U1,p1,p2];omega
   ·have D:=hid hd;rw [hn] at TM RA;clear hd hn HN AT;have FB:=hid (D.o.2.2 _ _ _ (by decide) (by decide) (by decide) (by decide) (by decide) AF.o);go_wp2_with fail;refine (Gi _ s _ _ st wr D.o.1).mono ?_;rintro e w1 ⟨rfl,rfl⟩
    cases hf:As.failed st
    ·have F0:=hid (show st.fe=0 by simpa [As.failed] using hf);clear hf;go_wp2_with fail;refine (ygN _ s _ _ st _ D.o.1).mono ?_;rintro e V1 ⟨rfl,h1⟩;have D1:=hid (D.o.after h1);clear h1;go_wp2_with fail;refine (yfB _ s _ _ _ V1 D1.o.1).mono ?_;rintro e V2 ⟨rfl,h2⟩;have D2:=hid (D1.o.after h2);clear h2 D1;have Vd:=hid (D2.o.2.2 _ _ _ (by decide) (by decide) (by decide) (by decide) (by decide) AF.o);have c14:=wJ D2.o.1;go_wp2_with fail;refine (yiQ _ (As.finish st.obj) V2 D2.o.1.tabs D2.o.1.Ja (yhN D.o.1.ok TM.o)).mono ?_;rintro e V3 ⟨hw,hg⟩;have FG:=hid (LB AG.o (D2.o.grown hg).2.1);have IU:=hid (Vd.o.grown hg (by simp))
     have v0:=IU.o.free 0;have v1:=IU.o.free 1;have v2:=IU.o.free 2;have x0:=IU.o.cell 0;have x1:=IU.o.cell 1;have x2:=IU.o.cell 2;simp only [nU,bB,yml,bf] at x0 x1 x2;clear hg c14 D2 D FB Vd;rcases hw with ⟨rfl,hv⟩ | ⟨rfl,hv⟩
     ·have HV:=hid hv;clear hv;go_wp2;have F:=vG [(0,.int .i64 0),(1,.int .i64 0),(2,.string ⟨#[]⟩)] IU.o;have h0:=F.cell 0;have h1:=F.cell 1;have h2:=F.cell 2;simp only [nU,nE,jA,jE,iW,iR,iT,bB,yml,bf] at h0 h1 h2;refine bodyPost_ret (v:=.tuple #[.string (bs (Lk.uq (As.finish st.obj))),qE 0 0]) ?_ rfl ⟨⟨_,0,0,rfl,.inr (.inl ⟨by rw [RA.o]; exact F0.o,by rw [RA.o]; exact HV.o,by rw [RA.o],rfl,rfl⟩)⟩,Dv FG.o _ (Nat.le_refl _) [(0,.int .i64 0),(1,.int .i64 0),(2,.string ⟨#[]⟩)]⟩;clear F x0 x1 x2 v0 v1 v2;simp only [sets,jA,jE] at h0 h1 h2 ⊢;generalize World.setCell _ _ _=WF at *;simp [results,Tryz.results9,go_sem,qE,h0,h1,h2]
     ·have HV:=hid hv;clear hv;go_wp2;have F:=vG [(0,.int .i64 20),(1,.int .i64 0),(2,.string ⟨#[]⟩)] IU.o;have h0:=F.cell 0;have h1:=F.cell 1;have h2:=F.cell 2;simp only [nU,nE,jA,jE,iW,iR,iT,bB,yml,bf] at h0 h1 h2;refine bodyPost_ret (v:=.tuple #[.string (bs []),qE 20 0]) ?_ rfl ⟨⟨_,20,0,rfl,.inr (.inr ⟨by rw [RA.o]; exact F0.o,by rw [RA.o]; exact HV.o,rfl,rfl,rfl⟩)⟩,Dv FG.o _ (Nat.le_refl _) [(0,.int .i64 20),(1,.int .i64 0),(2,.string ⟨#[]⟩)]⟩;clear F x0 x1 x2 v0 v1 v2;simp only [sets,jA,jE] at h0 h1 h2 ⊢;generalize World.setCell _ _ _=WF at *;simp [results,Tryz.results9,go_sem,qE,h0,h1,h2]
    ·have F0:=hid (show st.fe≠0 by simpa [As.failed] using hf);clear hf;have FG:=hid (LB AG.o D.o.2.1);have c6:=yP D.o.1 6;have c7:=yP D.o.1 7;have c8:=yP D.o.1 8;simp only [yK,bB,yml,bf] at c6 c7 c8;have v0:=FB.o.free 0;have v1:=FB.o.free 1;have v2:=FB.o.free 2;have x0:=FB.o.cell 0;have x1:=FB.o.cell 1;have x2:=FB.o.cell 2;simp only [nU,bB,yml,bf] at x0 x1 x2;clear D;go_wp2
     go_region
     go_wp2;have F:=vG [(0,.int .i64 st.fe),(1,.int .i64 st.fa),(2,.string ⟨#[]⟩)] FB.o;have h0:=F.iX.cell 0;have h1:=F.iX.cell 1;have h2:=F.iX.cell 2;simp only [nU,nE,jA,jE,iW,iR,iT,bB,yml,bf] at h0 h1 h2;refine bodyPost_ret (v:=.tuple #[.string (bs []),qE st.fe st.fa]) ?_ rfl ⟨⟨_,st.fe,st.fa,rfl,.inl ⟨by rw [RA.o]; exact F0.o,rfl,by rw [RA.o],by rw [RA.o]⟩⟩,yg (Dv FG.o _ (Nat.le_refl _) [(0,.int .i64 st.fe),(1,.int .i64 st.fa),(2,.string ⟨#[]⟩)])⟩;clear F x0 x1 x2 v0 v1 v2 c6 c7 c8;simp only [sets,jA,jE] at h0 h1 h2 ⊢;generalize World.drew _=WF at *;simp [results,Tryz.results9,go_sem,qE,bs,h0,h1,h2]
end Go.Proofs.YtnkkepfcpjllmaaGreatDoor

namespace Go.Proofs.YtnkkepfcpjllmaaGreatDoor
open Go.ChangeShapes Go.WideShapes Go.ChangeAt Go.RowKit
theorem yhS:ownKnob Tryz.prog.godebug=none:=by kernel_rfl
theorem Yn : Tryz.prog.globalNamed "linker/instr.forms" = some 1 := by kernel_rfl
theorem MJ : Tryz.prog.globalNamed "linker/instr.fixed" = some 2 := by kernel_rfl
theorem MK : Tryz.prog.globalNamed "linker/instr.names" = some 0 := by kernel_rfl
theorem yja:(Tryz.prog.globals[1]?).map (·.type)=some 149:=by kernel_rfl
theorem yjM:(Tryz.prog.globals[2]?).map (·.type)=some 149:=by kernel_rfl
theorem yjN:(Tryz.prog.globals[0]?).map (·.type)=some 132:=by kernel_rfl
theorem Xn:Tryz.prog.cellsOf 149=26:=by kernel_rfl
theorem Xo:Tryz.prog.cellsOf 3=1:=by kernel_rfl
theorem yiW:Tryz.prog.cellsOf 132=26:=by kernel_rfl
theorem yjC:Tryz.prog.cellsOf 9=1:=by kernel_rfl
theorem Yl:Tryz.prog.underlying 149=some (.array 26 3):=by kernel_rfl
theorem ylc:Tryz.prog.underlying 132=some (.array 26 9):=by kernel_rfl
theorem ylK:Tryz.prog.underlying 9=some .string:=by kernel_rfl
theorem Ym:Tryz.prog.underlying 3=some (.int .i64):=by kernel_rfl
def UM {H:Type} (zs:List (List UInt8)):DataW H:=.agg (zs.map fun z=>.lit (.string z))
theorem ygA {H:Type} {enc:TypeId×Value->H} {P:Program} {w:World} {base:Nat} {sp:Nat->Bool} {held:Bool} {fuel:Nat} {t e:TypeId} {n:Nat} {cs:List Value} {zs:List (List UInt8)} {p:List MemPlace}
  (ht:P.underlying t=some (.array n e)) (he:P.underlying e=some .string) (hce:P.cellsOf e=1) (hct:P.cellsOf t=n)
  (h:DataW.trod enc P w base sp held fuel t cs=some (UM zs,p)):cs=zs.map fun z=>Value.string (bs z):=by
 cases fuel with
 | zero=>simp [DataW.trod] at h
 | succ fuel =>
  simp only [DataW.trod,ht,hce,hct,Nat.mul_one] at h;split at h
  ·rename_i hl;obtain ⟨xs,hm,hx⟩:=Option.map_eq_some_iff.1 h;have hxs:xs.map (·.1)=zs.map fun z=>(DataW.lit (.string z):DataW H):=by
    have:=congrArg Prod.fst hx
    simpa [UM] using this
   have hxl:xs.length=n:=by simpa using Lib.mapM_length hm
   have hzl:zs.length=n:=by
    have:=congrArg List.length hxs
    simp at this;omega
   apply List.ext_getElem?;intro i;by_cases hi:i < n
   ·obtain ⟨b,hb,hf⟩:=Lib.mapM_at hm i i (by simp [hi]);obtain ⟨z,hc,rfl,_⟩:=DataW.trod_string he hf;have h1:cs[i]?=some (.string z):=by
     have:=congrArg (·[0]?) hc
     simpa [List.getElem?_take,List.getElem?_drop] using this
    have h2:(xs.map (·.1))[i]?=some (DataW.lit (.string z.data.toList):DataW H):=by simp [hb]
    rw [hxs] at h2;simp only [List.getElem?_map,Option.map_eq_some_iff,DataW.lit.injEq,Lit.string.injEq] at h2;obtain ⟨z',hz',rfl⟩:=h2;have hbz:bs z.data.toList=z:=U6 z;simp [h1,hz',hbz]
   ·rw [List.getElem?_eq_none (by omega),List.getElem?_eq_none (by simp; omega)]
  ·cases h
theorem Jl {W:World} {b o:Nat} {v:Value} (h:W.cell? ⟨b,o,none⟩=some v):b < W.heap.size:=by
 by_cases hb:b < W.heap.size
 ·exact hb
 ·exfalso
  simp only [World.cell?] at h;rw [Array.getElem?_eq_none (by omega)] at h
  cases h
theorem ygG {W : World} (h : laidMet Tryz.prog [("linker/instr.forms", Lib.tabData .i64 uP), ("linker/instr.fixed", Lib.tabData .i64 FY), ("linker/instr.names", UM As.names)] W) : gD W ∧ pQ W ∧ 3 ≤ W.heap.size := by
 have t1 : Lib.TabIs Tryz.prog W "linker/instr.forms" .i64 uP := Lib.tabIs_of_head Yn yja Yl Ym Xo Xn h
 obtain ⟨ps,⟨g',t',cs,fuel,p,q,hg',ht',hvar,hd,⟨g2,t2,cs2,fuel2,p2,q2,hg2,ht2,Nc,hd2,⟨g3,t3,cs3,VB,p3,q3,hg3,ht3,Nf,hd3,_,_⟩,_⟩,_⟩,_⟩:=h;obtain rfl:=Option.some.inj (MJ.symm.trans hg2);obtain rfl:=Option.some.inj (yjM.symm.trans ht2);obtain rfl:=Option.some.inj (MK.symm.trans hg3);obtain rfl:=Option.some.inj (yjN.symm.trans ht3)
 have e2 : Lib.TabIs Tryz.prog W "linker/instr.fixed" .i64 FY := by
  unfold Lib.TabIs;rw [Nc,<- Lib.cells_of_tab Yl Ym Xo Xn hd2]
 have e3 : W.var? Tryz.prog "linker/instr.names" = some (As.names.map fun z => Value.string (bs z)).toArray := by
  rw [Nf,<- ygA ylc ylK yjC yiW hd3]
 have T:gD W:=⟨fun i hi=>t1.cell Yn i hi,fun i hi=>e2.cell MJ i hi⟩
 have N:pQ W:=by
  intro i hi;have hl:As.names.length=26:=by decide
  have:=World.var?_cell MK e3 i
  rw [this];simp [List.getD,hl,hi]
 refine ⟨T,N,?_⟩;have a:=Jl (T.1 0 (by decide));have b:=Jl (T.2 0 (by decide));have c:=Jl (N 0 (by decide));omega
theorem ygE {W W':World} (h:W.grownBy W' none) (may:MemPlace->Prop):W.keptBut W' may:=by
 refine World.keptBut_mono (fun _ f=>f.elim) (?_:W.keptBut W' (fun _=>False));refine ⟨h.os,h.output,fun i hi=>?_⟩;rw [h.block i hi (by simp)]
 cases hb:W.heap[i]? with
 | none=>trivial
 | some o=>cases o <;> simp
def Yk (zs:List Int):Obj->Obj
 | .cells _ t frozen=>.cells (zs.map (Value.int .i64)).toArray t frozen
 | o=>o
def ylI (zs:List (List UInt8)):Obj->Obj
 | .cells _ t frozen=>.cells (zs.map fun z=>Value.string (bs z)).toArray t frozen
 | o=>o
noncomputable def Ut (os:Os):World :=
 { World.holding Tryz.prog os ⟨#[],#[],[]⟩ with heap:=(((World.holding Tryz.prog os ⟨#[],#[],[]⟩).heap.modify 1 (Yk uP)).modify 2 (Yk FY)).modify 0 (ylI As.names) }
end Go.Proofs.YtnkkepfcpjllmaaGreatDoor

namespace Go.Proofs.YtnkkepfcpjllmaaGreatDoor
open Go.RowKit
def Gd (x:Rf.Tk):List Value:=[.int .u8 x.kind,.int .i64 x.at_,.string (bs x.text),.int .i64 x.num,.int .i64 x.e]
def jg (x:Rf.Tk):Value:=.agg #[.int .u8 x.kind,.int .i64 x.at_,.string (bs x.text),.int .i64 x.num,.int .i64 x.e]
def U5 (w:World) (ao:Option Addr) (xs:List Rf.Tk):Prop :=
 0 < xs.length->∃ g,ao=some ⟨g,0,none⟩/\∀ i (h:i < xs.length),w.cell? ⟨g,i * 5,none⟩=some (.int .u8 xs[i].kind)/\w.cell? ⟨g,i * 5+1,none⟩=some (.int .i64 xs[i].at_)/\w.cell? ⟨g,i * 5+2,none⟩=some (.string (bs xs[i].text))/\w.cell? ⟨g,i * 5+3,none⟩=some (.int .i64 xs[i].num)/\w.cell? ⟨g,i * 5+4,none⟩=some (.int .i64 xs[i].e)
structure zD (x:Rf.Tk):Prop where
 kind:x.kind<=255
 at_:x.at_<=1000
 text:x.text.length<=1000
 num:x.num<=9999999999
 e:x.e<=99
structure qF (L:List Rf.Tk) (d:Rf.Ds):Prop where
 k:d.k < L.length
 len:L.length<=1001
 toks:∀ x∈L,zD x
 fe:d.fe<=99
 fa:d.fa<=1000
 op:d.op<=1000
 ah:1<=d.ah/\d.ah<=4
def yr (g:Nat) (vq vl:Value) (d:Rf.Ds):Array Value:=#[.pointer (some ⟨g,0,none⟩),vq,.int .i64 d.ah,vl,.int .i64 d.k,.int .i64 d.fe,.int .i64 d.fa,.int .i64 d.op]
structure Md (m g:Nat) (vq:Value) (ao:Option Addr) (cap:Nat) (L:List Rf.Tk) (d:Rf.Ds) (W:World):Prop where
 blk:yd W m (yr g vq (.slice ao L.length cap) d) 46
 toks:U5 W ao L
 ne:∀ a,ao=some a->a.block≠m
 ok:qF L d
theorem wS {L:List Rf.Tk} {d:Rf.Ds} (h:qF L d):zD (Rf.tk L d):=by
 unfold Rf.tk;rw [mP,kg h.k];exact h.toks _ (lM h.k)
section
variable {m g:Nat} {vq:Value} {ao:Option Addr} {cap:Nat} {L:List Rf.Tk} {d d':Rf.Ds} {W W':World}
theorem Md.grown (h:Md m g vq ao cap L d W) (hg:W.grownBy W' none):Md m g vq ao cap L d W':=by
 refine ⟨h.blk.grown hg (by simp),fun hp=>?_,h.ne,h.ok⟩;obtain ⟨b,e,hc⟩:=h.toks hp;exact ⟨b,e,fun i hi=>by
  obtain ⟨c0,c1,c2,c3,c4⟩:=hc i hi;exact ⟨yb c0 hg,yb c1 hg,yb c2 hg,yb c3 hg,yb c4 hg⟩⟩
theorem Md.put (h:Md m g vq ao cap L d W) (hg:W.grownBy W' (some m)) (hb:yd W' m (yr g vq (.slice ao L.length cap) d') 46) (hok:qF L d'):Md m g vq ao cap L d' W':=by
 refine ⟨hb,fun hp=>?_,h.ne,hok⟩;obtain ⟨b,e,hc⟩:=h.toks hp;have ne:b≠m:=h.ne _ e;have kp:∀ (o:Nat) (v:Value),W.cell? ⟨b,o,none⟩=some v->W'.cell? ⟨b,o,none⟩=some v:=fun o v hv=>hg.cell hv (by simpa using ne)
 exact ⟨b,e,fun i hi=>by
  obtain ⟨c0,c1,c2,c3,c4⟩:=hc i hi;exact ⟨kp _ _ c0,kp _ _ c1,kp _ _ c2,kp _ _ c3,kp _ _ c4⟩⟩
theorem Md.tok (h:Md m g vq ao cap L d W):∃ b,ao=some ⟨b,0,none⟩/\W.cell? ⟨b,d.k * 5,none⟩=some (.int .u8 (Rf.tk L d).kind)/\W.cell? ⟨b,d.k * 5+1,none⟩=some (.int .i64 (Rf.tk L d).at_)/\W.cell? ⟨b,d.k * 5+2,none⟩=some (.string (bs (Rf.tk L d).text))/\W.cell? ⟨b,d.k * 5+3,none⟩=some (.int .i64 (Rf.tk L d).num)/\W.cell? ⟨b,d.k * 5+4,none⟩=some (.int .i64 (Rf.tk L d).e):=by
 have hk:=h.ok.k;obtain ⟨b,e,hc⟩:=h.toks (by omega);have t:Rf.tk L d=L[d.k]:=by unfold Rf.tk; rw [mP,kg hk]; rfl
 rw [t];exact ⟨b,e,hc d.k hk⟩
theorem yp (h:Md m g vq ao cap L d W) (i:Nat):W.cell? ⟨m,i,none⟩=(yr g vq (.slice ao L.length cap) d)[i]?:=h.blk.cell i
def qP (m g:Nat) (vq:Value) (ao:Option Addr) (cap:Nat) (L:List Rf.Tk) (W:World) (d':Rf.Ds) (W':World):Prop:=Md m g vq ao cap L d' W'/\W.grownBy W' (some m)
theorem Md.does (h:Md m g vq ao cap L d W):qP m g vq ao cap L W d W:=⟨h,World.grownBy.refl _ _⟩
theorem qP.sets {V:World} (h:qP m g vq ao cap L W d V) (l:List (Nat×Value)) (d':Rf.Ds) (hc:nE (yr g vq (.slice ao L.length cap) d) l=yr g vq (.slice ao L.length cap) d') (hok:qF L d'):qP m g vq ao cap L W d' (Proofs.YtnkkepfcpjllmaaGreatDoor.sets V m l) :=
 ⟨h.1.put (Bw V m l) (by rw [<- hc]; exact vG l h.1.blk) hok,ya h.2 (Bw V m l)⟩
theorem qP.grown {V V':World} (h:qP m g vq ao cap L W d V) (hg:V.grownBy V' none):qP m g vq ao cap L W d V':=⟨h.1.grown hg,ya h.2 (Xy hg)⟩
theorem qP.after {V V':World} (h:qP m g vq ao cap L W d V) (k:qP m g vq ao cap L V d' V'):qP m g vq ao cap L W d' V':=⟨k.1,ya h.2 k.2⟩
end
theorem zo (m g:Nat) (vq:Value) (ao:Option Addr) (cap:Nat) (L:List Rf.Tk) (d:Rf.Ds) (W:World) (h:Md m g vq ao cap L d W) :
  Calls Tryz.prog 25 #[.pointer (some ⟨m,0,none⟩)] W fun en W'=>en = .returned (jg (Rf.tk L d))/\W.grownBy W' none:=by
 obtain ⟨b,rfl,c0,c1,c2,c3,c4⟩:=h.tok;have k3:=yp h 3;have k4:=yp h 4;simp only [yr,bB,yml,bf] at k3 k4;have hk:=h.ok.k;have hl:=h.ok.len;clear h;unfold jg;generalize Rf.tk L d=x at *;generalize L.length=n at *;generalize d.k=k at *;have g1:(k:Int) < (n:Int):=by omega
 have hm:=Jl k3;have hb:=Jl c0;have n1:m≠W.heap.size:=by omega
 have n2:b≠W.heap.size:=by omega
 go_enter Tryz.func25,Tryz.ntmps25;go_wp2
 go_region_held3 (fun w'=>w'.cell? ⟨m,3,none⟩=some (.slice (some ⟨b,0,none⟩) n cap)/\w'.cell? ⟨m,4,none⟩=some (.int .i64 k)/\w'.cell? ⟨b,k * 5,none⟩=some (.int .u8 x.kind)/\w'.cell? ⟨b,k * 5+1,none⟩=some (.int .i64 x.at_)/\w'.cell? ⟨b,k * 5+2,none⟩=some (.string (bs x.text))/\w'.cell? ⟨b,k * 5+3,none⟩=some (.int .i64 x.num)/\w'.cell? ⟨b,k * 5+4,none⟩=some (.int .i64 x.e))
  (go_keep)
  (fail)
 go_wp2;refine bodyPost_ret (v:=.agg #[.int .u8 x.kind,.int .i64 x.at_,.string (bs x.text),.int .i64 x.num,.int .i64 x.e]) ?_ rfl ⟨rfl,yg (aW W _ none)⟩;simp [results,Tryz.results25,go_sem]
theorem yL (m g:Nat) (vq:Value) (ao:Option Addr) (cap:Nat) (L:List Rf.Tk) (d:Rf.Ds) (e a:Nat) (W:World) (h:Md m g vq ao cap L d W) (he:e<=99) (ha:a<=1000) :
  Calls Tryz.prog 26 #[.pointer (some ⟨m,0,none⟩),.int .i64 e,.int .i64 a] W fun en W'=>en = .returned (.tuple #[])/\qP m g vq ao cap L W (Rf.bad e a d) W':=by
 have H:=hid h;have k5:=yp h 5;have k6:=yp h 6;simp only [yr,bB,yml,bf] at k5 k6;have f5:=h.blk.free 5;have f6:=h.blk.free 6;clear h;by_cases hd:d.fe=0
 ·have R:=hid (show Rf.bad e a d={ d with fe:=e,fa:=a } by unfold Rf.bad; rw [if_pos hd]);have e0:((d.fe:Int) == 0)=true:=by simp [hd]
  go_enter Tryz.func26,Tryz.ntmps26;go_wp2
  go_end0
  rw [R.o];exact ⟨rfl,H.o.does.sets [(5,.int .i64 e),(6,.int .i64 a)] _ (by simp only [nE,yr,jA,jE,iW,iR,iT]) ⟨H.o.ok.k,H.o.ok.len,H.o.ok.toks,he,ha,H.o.ok.op,H.o.ok.ah⟩⟩
 ·have R:=hid (show Rf.bad e a d=d by unfold Rf.bad; rw [if_neg hd]);have e0:((d.fe:Int) == 0)=false:=by simp; omega
  go_enter Tryz.func26,Tryz.ntmps26;go_wp2
  go_end0
  rw [R.o];exact ⟨rfl,H.o.does⟩
theorem yll {L:List Rf.Tk} {d:Rf.Ds} (h:qF L d) (e a:Nat) (he:e<=99) (ha:a<=1000):qF L (Rf.bad e a d):=by
 unfold Rf.bad;split
 ·exact ⟨h.k,h.len,h.toks,he,ha,h.op,h.ah⟩
 ·exact h
theorem F5 (m g:Nat) (vq:Value) (ao:Option Addr) (cap:Nat) (L:List Rf.Tk) (d:Rf.Ds) (W:World) (h:Md m g vq ao cap L d W) :
  Calls Tryz.prog 27 #[.pointer (some ⟨m,0,none⟩)] W fun en W'=>en = .returned (.tuple #[])/\qP m g vq ao cap L W (Rf.step L d) W':=by
 have k3:=yp h 3;have k4:=yp h 4;have k5:=yp h 5;simp only [yr,bB,yml,bf] at k3 k4 k5;have f4:=h.blk.free 4;have hk:=h.ok.k;have hl:=h.ok.len;have H:=hid h;clear h;have w1:IntKind.i64.wrap ((d.k:Int)+1)=((d.k+1:Nat):Int):=by rw [IntWalk.i64_in _ ⟨by omega,by omega⟩]; omega
 have cT:=hid (fun (V:World) (d':Rf.Ds) (hV:Md m g vq ao cap L d' V)=>zo m g vq ao cap L d' V hV);have cB:=hid (fun (V:World) (d':Rf.Ds) (e a:Nat) (hV:Md m g vq ao cap L d' V) (he:e<=99) (ha:a<=1000)=>yL m g vq ao cap L d' e a V hV he ha);by_cases c1:d.k+1 < L.length/\d.fe=0
 ·have R:=hid (show Rf.step L d=Rf.look L { d with k:=d.k+1 } by unfold Rf.step; rw [if_pos c1]);have g1:decide ((d.k:Int)+1 < (L.length:Int))=true:=by simp; omega
  have g2:((d.fe:Int) == 0)=true:=by simp [c1.2]
  clear w1;go_enter Tryz.func27,Tryz.ntmps27;go_wp2
  go_quiet (fail)
  go_wp2_with fail;have MV:Hd (qP m g vq ao cap L W { d with k:=d.k+1 } ((W.drewN nq).setCell ⟨m,4,none⟩ (.int .i64 ((d.k:Int)+1)))):=(H.o.does.grown (yc (World.grownBy.refl _ _) nq)).sets [(4,.int .i64 ((d.k:Int)+1))] { d with k:=d.k+1 } (by simp only [nE,yr,jA,jE,iW,iR,iT]; rfl) ⟨c1.1,H.o.ok.len,H.o.ok.toks,H.o.ok.fe,H.o.ok.fa,H.o.ok.op,H.o.ok.ah⟩;clear k3 k4 k5 f4 H;generalize ((W.drewN nq).setCell ⟨m,4,none⟩ (.int .i64 ((d.k:Int)+1)))=V at *;have TO:=wS MV.o.1.ok;have AT:=TO.at_;have AE:=TO.e;refine (cT.o V _ MV.o.1).mono ?_;rintro e V1 ⟨rfl,h1⟩;have A1:=aW V1 (.cells #[.int .u8 (Rf.tk L { d with k:=d.k+1 }).kind,.int .i64 (Rf.tk L { d with k:=d.k+1 }).at_,.string (bs (Rf.tk L { d with k:=d.k+1 }).text),.int .i64 (Rf.tk L { d with k:=d.k+1 }).num,.int .i64 (Rf.tk L { d with k:=d.k+1 }).e] 69) none
  have MW:=hid (MV.o.grown (ya h1 A1));clear h1 A1 cT MV TO;unfold jg;unfold Rf.look Rf.aH at R;generalize Rf.tk L { d with k:=d.k+1 }=x at *;by_cases c2:x.kind=33
  ·rw [decide_eq_true c2] at R;have e33:((x.kind:Int) == 33)=true:=by simp [c2]
   clear c2;go_wp2_with fail;generalize V1.alloc (.cells #[.int .u8 x.kind,.int .i64 x.at_,.string (bs x.text),.int .i64 x.num,.int .i64 x.e] 69)=V2 at *;refine (cB.o V2 _ x.e x.at_ MW.o.1 AE AT).mono ?_;rintro e V3 ⟨rfl,h3⟩;have MX:=hid (MW.o.after h3);clear h3 cB MW;go_wp2
   go_end0
   rw [R.o];exact ⟨rfl,MX.o⟩
  ·rw [decide_eq_false c2] at R;have e33:((x.kind:Int) == 33)=false:=by simp; omega
   clear c2;go_wp2
   go_end0
   rw [R.o];exact ⟨rfl,MW.o⟩
 ·have R:=hid (show Rf.step L d=Rf.look L d by unfold Rf.step; rw [if_neg c1]);obtain ⟨g1,g2⟩ | ⟨g1,g2⟩:(decide ((d.k:Int)+1 < (L.length:Int))=true/\((d.fe:Int) == 0)=false)\/(decide ((d.k:Int)+1 < (L.length:Int))=false/\True):=by
   by_cases z:d.k+1 < L.length
   ·exact .inl ⟨by simp; omega,by simp; exact fun x=>c1 ⟨z,x⟩⟩
   ·exact .inr ⟨by simp; omega,trivial⟩
  all_goals
  clear w1;go_enter Tryz.func27,Tryz.ntmps27;go_wp2
  go_quiet (fail)
  go_wp2_with fail;have MV:=hid (H.o.does.grown (yc (World.grownBy.refl _ _) nq));clear k3 k4 k5 f4 H;generalize W.drewN nq=V at *;have TO:=wS MV.o.1.ok;have AT:=TO.at_;have AE:=TO.e;refine (cT.o V _ MV.o.1).mono ?_;rintro e V1 ⟨rfl,h1⟩;have A1:=aW V1 (.cells #[.int .u8 (Rf.tk L d).kind,.int .i64 (Rf.tk L d).at_,.string (bs (Rf.tk L d).text),.int .i64 (Rf.tk L d).num,.int .i64 (Rf.tk L d).e] 69) none;have MW:=hid (MV.o.grown (ya h1 A1));clear h1 A1 cT MV TO;unfold jg;unfold Rf.look Rf.aH at R;generalize Rf.tk L d=x at *;by_cases c2:x.kind=33
  ·rw [decide_eq_true c2] at R;have e33:((x.kind:Int) == 33)=true:=by simp [c2]
   clear c2;go_wp2_with fail;generalize V1.alloc (.cells #[.int .u8 x.kind,.int .i64 x.at_,.string (bs x.text),.int .i64 x.num,.int .i64 x.e] 69)=V2 at *;refine (cB.o V2 _ x.e x.at_ MW.o.1 AE AT).mono ?_;rintro e V3 ⟨rfl,h3⟩;have MX:=hid (MW.o.after h3);clear h3 cB MW;go_wp2
   go_end0
   rw [R.o];exact ⟨rfl,MX.o⟩
  ·rw [decide_eq_false c2] at R;have e33:((x.kind:Int) == 33)=false:=by simp; omega
   clear c2;go_wp2
   go_end0
   rw [R.o];exact ⟨rfl,MW.o⟩
end Go.Proofs.YtnkkepfcpjllmaaGreatDoor
