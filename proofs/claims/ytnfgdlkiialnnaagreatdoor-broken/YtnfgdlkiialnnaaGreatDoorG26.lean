/- The keeps: objects of texts, files linked. -/
/- The keeps: files that are known. -/
/- Broken: the plain side. -/
import Derived.Test.YtnfgdlkiialnnaaGreatDoorG23
import Derived.Test.YtnfgdlkiialnnaaGreatDoorG25
namespace Go.Proofs.YtnfgdlkiialnnaaGreatDoor
open Go.RowKit

/-- a text's object's bytes -/
def asmB (t:List UInt8):List UInt8:=Lk.objB (As.assemble t).2
/-- a text without a fault -/
def AsmOk (t:List UInt8):Prop:=(As.assemble t).1.1=0∧Valid (As.assemble t).2
theorem asmOk_told {s t:List UInt8} {fe fa:Nat} (h:AsmOk s) (k:Told s t fe fa):fe=0∧t=asmB s:=by
 rcases k with ⟨h1,-⟩ | ⟨h1,h2,h3,h4,-⟩ | ⟨h1,h2,-⟩
 ·exact absurd h.1 h1
 ·exact ⟨h4,h3⟩
 ·exact absurd h.2 h2
theorem strs_of_own {w:World} {B:Nat} {ao:Option Addr} {cap:Nat} {fs:List (List UInt8)} (h:w.ownsRow B 9 1 (.slice ao fs.length cap) fs.length (fs.map fun l=>.string (bs l))):LStrs w ao fs:=by
 intro hp
 obtain ⟨sg,hs,-,-,-,hc⟩:=own_some h hp
 refine ⟨sg,0,hs,fun i hi=>?_⟩
 rw [Nat.zero_add,hc i hi,List.getElem?_map,List.getElem?_eq_getElem hi]
 rfl

set_option maxRecDepth 100000 in
set_option maxHeartbeats 4000000 in
theorem made_yes (ts:List (List UInt8)) (am:Option Addr) (cm:Nat) (w:World) (hin:LStrs w am ts) (hl:ts.length≤64) (hok:∀ t∈ts,AsmOk t) (ht:Tabs w) (hN:NTab w) (hB:3≤w.heap.size) :
  Calls Tryz.prog 14 #[.slice am ts.length cm] w fun e w'=>(∃ ao cap,e = .returned (.tuple #[.slice ao ts.length cap,.bool true])∧LStrs w' ao (ts.map asmB))∧w.grownBy w' none:=by
 obtain ⟨i0,hi,hz0,hz1,hz2⟩:=info_parts Tryz.infoStr
 have HI:=hid hin
 have HT:=hid ht
 have HN:=hid hN
 have HK:=hid hok
 clear hin ht hN hok
 go_enter Tryz.func14,Tryz.ntmps14
 go_wp2
 go_loopw [4,5] (fun v i wr=>∃ (k:Nat),k≤ts.length∧i = .int .i64 k∧wr.ownsRow w.heap.size 9 1 v k (((ts.take k).map asmB).map fun l=>.string (bs l))∧w.grownBy wr none) (fun _ i _=>ts.length - (intOf i).toNat)
 case atStart=>exact ⟨0,Nat.zero_le _,rfl,World.ownsRow_nil _ _ _ _,World.grownBy.refl _ _⟩
 case round =>
  obtain ⟨k,hk,rfl,hown,hgr⟩:=hrel
  obtain ⟨av,cv,rfl⟩:=own_form hown
  have HO:=hid hown
  have G:=hid hgr
  clear hown hgr
  by_cases hlt:k < ts.length
  ·obtain ⟨g0,off,rfl,hc⟩:=HI.out.kept G.out (by omega)
   have cc:=hc k hlt
   have hz:=G.out.size
   have g1:(k:Int) < (ts.length:Int):=by omega
   have OKK:=HK.out _ (List.getElem_mem hlt)
   have TK:=hid (show (((ts.take (k+1)).map asmB).map fun l=>Value.string (bs l))=(((ts.take k).map asmB).map fun l=>.string (bs l)) ++ [.string (bs (asmB ts[k]))] by
    rw [List.take_succ_eq_append_getElem hlt,List.map_append,List.map_append]
    rfl)
   generalize ts[k]=tx at *
   clear hc
   go_wp2_with fail
   refine (linkAssemble_any (bs tx) wr (HT.out.grown G.out) (HN.out.below (grown_below G.out (Nat.le_refl _) (by simp)) hB) (by omega)).mono ?_
   rintro e V ⟨⟨t,fe,fa,rfl,htold⟩,hg⟩
   rw [sl_bs] at htold
   obtain ⟨rfl,rfl⟩:=asmOk_told OKK htold
   have G2:=hid (grown_trans (grown_trans G.out hg) (World.grownBy_alloc V (.cells #[.int .i64 0,.int .i64 fa,.string ⟨#[]⟩] 45) none))
   have HO2:=hid ((HO.out.kept hg (Decidable.em _)).alloc (.cells #[.int .i64 0,.int .i64 fa,.string ⟨#[]⟩] 45))
   have hzz:=hg.size
   have CN:=cell_one_new (V.alloc (.cells #[.int .i64 0,.int .i64 fa,.string ⟨#[]⟩] 45)) (.string (bs (asmB tx))) 9
   rw [size_alloc] at CN
   have CNH:=hid CN
   clear htold hg cc HO G CN OKK
   generalize asmB tx=t at *
   unfold faultA
   go_wp2_with (at_builtin; refine wpList_append_own _ rfl _ _ 25 rfl w.heap.size 9 i0 (.string ⟨#[]⟩) 1 16 Tryz.underlying25 hi hz0 hz1 hz2 rfl (by decide) _ _ _ rfl (HO2.out.alloc _) ⟨V.heap.size+1,0,none⟩ 1 1 [.string (bs t)] rfl rfl CNH.out (by intro u hu; simp at hu; subst hu; rfl) (by unfold maxLen; omega) (by omega) (by simp; omega) ?_; intro v' w3 hown' hgrow _; obtain ⟨av',cv',rfl⟩:=own_form hown'; have K:=hid hown'; have GK:=hid (grown_ownN (grown_trans G2.out (World.grownBy_alloc _ _ _)) hgrow (fun b hb=>(HO2.out.lt b hb).1)); clear hgrow hown')
   go_wp2
   go_roundw
   case rel=>exact ⟨k+1,by omega,by go_num,by rw [TK.out]; exact K.out,GK.out⟩
   case measure=>simp [intOf]; omega
  ·obtain rfl:k=ts.length:=by omega
   have g3:decide ((ts.length:Int) < (ts.length:Int))=false:=by simp
   rw [List.take_length] at HO
   go_wp2
   go_ret2
   refine ⟨⟨av,cv,rfl,strs_of_own (B:=w.heap.size) (cap:=cv) ?_⟩,G.out⟩
   rw [List.length_map]
   exact HO.out

theorem linkRet_form {bt bf bd:Int} {fs:List (List UInt8)} {e:Ending} (h:LinkRet bt bf bd fs e):∃ (b:List UInt8) (f:Ln.Flt),e = .returned (.tuple #[.string (bs b),lfA f]):=by
 rcases h with ⟨f,-,he,-⟩ | ⟨-,-,-,xs,hx,-,he⟩
 ·exact ⟨_,_,he⟩
 ·exact ⟨_,_,he⟩

set_option maxRecDepth 100000 in
set_option maxHeartbeats 4000000 in
theorem kLink_any (bt bf bd:Int) (af:Option Addr) (cf:Nat) (fs:List (List UInt8)) (w:World) (hin:LStrs w af fs) (hsz:∀ f∈fs,f.length≤1048576) (ht:Tabs w) (hn:fs.length≤1048576) :
  Calls Tryz.prog 20 #[.slice af fs.length cf,.agg #[.int .i64 bt,.int .i64 bf,.int .i64 bd]] w fun e w'=>LinkRet bt bf bd fs e∧w.grownBy w' none:=by
 have HI:=hid hin
 have HT:=hid ht
 have cL:=hid (fun W (hg:w.grownBy W none)=>link_any bt bf bd af cf fs W (HI.out.kept hg) hsz (HT.out.grown hg) hn)
 have hs1:(w.alloc (.cells #[.int .i64 bt,.int .i64 bf,.int .i64 bd] 35)).heap.size=w.heap.size+1:=Array.size_push _
 have A1:=World.grownBy_alloc (w.alloc (.cells #[.int .i64 bt,.int .i64 bf,.int .i64 bd] 35)) (.cells #[.int .i64 0,.int .i64 0,.string ⟨#[]⟩] 45) none
 have G1:=hid (grown_trans (World.grownBy_alloc w (.cells #[.int .i64 bt,.int .i64 bf,.int .i64 bd] 35) none) A1)
 have BR:=hid (BlkAt.new (w.alloc (.cells #[.int .i64 bt,.int .i64 bf,.int .i64 bd] 35)) #[.int .i64 0,.int .i64 0,.string ⟨#[]⟩] 45)
 rw [hs1] at BR
 clear hin ht A1 hs1
 go_enter Tryz.func20,Tryz.ntmps20
 go_wp2_with fail
 generalize (w.alloc (.cells #[.int .i64 bt,.int .i64 bf,.int .i64 bd] 35)).alloc (.cells #[.int .i64 0,.int .i64 0,.string ⟨#[]⟩] 45)=W1 at *
 have hRw:w.heap.size≤w.heap.size+1:=by omega
 generalize w.heap.size+1=R at *
 refine (cL.out _ G1.out).mono ?_
 rintro e V1 ⟨hret,hg⟩
 obtain ⟨b,f,rfl⟩:=linkRet_form hret
 have RET:=hid hret
 have FB:=hid (BR.out.grown hg (by simp))
 have FG:=hid (grown_trans G1.out hg)
 clear hret hg cL BR
 obtain ⟨fe,fa,fn⟩:=f
 unfold lfA
 dsimp only
 have v0:=FB.out.free 0
 have v1:=FB.out.free 1
 have v2:=FB.out.free 2
 have x0:=FB.out.cell 0
 have x1:=FB.out.cell 1
 have x2:=FB.out.cell 2
 simp only [List.getElem?_toArray,List.getElem?_cons_succ,List.getElem?_cons_zero] at x0 x1 x2
 go_wp2
 have F:=((FB.out.set 0 (.int .i64 fe)).set 1 (.int .i64 fa)).set 2 (.string (bs fn))
 have h0:=F.cell 0
 have h1:=F.cell 1
 have h2:=F.cell 2
 simp only [List.setIfInBounds_toArray,List.set_cons_succ,List.set_cons_zero,List.getElem?_toArray,List.getElem?_cons_succ,List.getElem?_cons_zero] at h0 h1 h2
 refine bodyPost_ret (v:=.tuple #[.string (bs b),lfA ⟨fe,fa,fn⟩]) ?_ rfl ⟨RET.out,sets3_grown FG.out _ hRw _ _ _⟩
 clear F x0 x1 x2 v0 v1 v2
 generalize World.setCell _ _ _=WF at *
 simp [results,Tryz.results20,go_sem,lfA,h0,h1,h2]

end Go.Proofs.YtnfgdlkiialnnaaGreatDoor

namespace Go.Proofs.YtnfgdlkiialnnaaGreatDoor
open Go.RowKit

def wordsB (xs:List Int):Bool:=xs.all fun x=>decide (0≤x) && decide (x≤4294967295)
theorem words_of_b {xs:List Int} (h:wordsB xs=true):Words xs:=by
 intro i hi
 have:=List.all_eq_true.1 h _ (List.getElem_mem hi)
 simp at this
 exact this
/-- what an object must be, its words looked at one after the other -/
def validB (o:Lk.Obj):Bool:=decide (Sizes o) && (decide (Borders o.align) && (wordsB o.text && (wordsB o.far && (wordsB o.data && (decide (SymsOk o) && decide (RelsOk o))))))
theorem valid_of_b {o:Lk.Obj} (h:validB o=true):Valid o:=by
 unfold validB at h
 simp only [Bool.and_eq_true,decide_eq_true_eq] at h
 obtain ⟨h1,h2,h3,h4,h5,h6,h7⟩:=h
 exact ⟨h1,h2,⟨words_of_b h3,words_of_b h4,words_of_b h5⟩,h6,h7⟩
def FltIs (f:Ln.Flt) (e at_:Int) (n:List UInt8):Prop:=f.e=e∧f.at_=at_∧f.name=n
instance (f:Ln.Flt) (e at_:Int) (n:List UInt8):Decidable (FltIs f e at_ n):=by unfold FltIs; infer_instance
def LinkIs (os:List Lk.Obj) (bt bf bd:Int) (e at_:Int) (n:List UInt8):Prop:=(Ln.linkO os bt bf bd).1=[]∧FltIs (Ln.linkO os bt bf bd).2 e at_ n
instance (os:List Lk.Obj) (bt bf bd:Int) (e at_:Int) (n:List UInt8):Decidable (LinkIs os bt bf bd e at_ n):=by unfold LinkIs; infer_instance
theorem fileIs_uniq {l:List UInt8} {a b:Bool} {os ps:List Lk.Obj} (h:FileIs l a os) (k:FileIs l b ps):a=b∧os=ps:=by
 rcases h with ⟨rfl,h1,rfl⟩ | ⟨rfl,h1,ms,h2,rfl⟩
 ·rcases k with ⟨rfl,-,rfl⟩ | ⟨-,k1,-⟩
  ·exact ⟨rfl,rfl⟩
  ·exact absurd h1 k1
 ·rcases k with ⟨-,k1,-⟩ | ⟨rfl,-,ns,k2,rfl⟩
  ·exact absurd k1 h1
  ·exact ⟨rfl,by rw [← arch_raw h2,← arch_raw k2]⟩
theorem fileIs_obj {o:Lk.Obj} (hv:Valid o):FileIs (Lk.objB o) false [o]:=by
 have hg:=valid_good hv
 have q:=isObj_of_read ((Lk.readObj_iff (Lk.objB o) o).2 ⟨hg,rfl⟩) hv
 exact .inl ⟨rfl,q.1,by rw [q.2]⟩
theorem fileIs_asm {t:List UInt8} (h:AsmOk t):FileIs (asmB t) false [(As.assemble t).2]:=fileIs_obj h.2
theorem noFile_not {l:List UInt8} {a:Bool} {os:List Lk.Obj} (h:FileIs l a os) (k:NoFile l):False:=by
 rcases h with ⟨-,h1,-⟩ | ⟨-,-,ms,h2,-⟩
 ·exact k.1 h1
 ·exact k.2 ms h2

/-- files that are known -/
def Files:List (List UInt8)→List (Bool×List Lk.Obj)→Prop
 | [],[]=>True
 | l :: ls,x :: xs=>FileIs l x.1 x.2∧Files ls xs
 | _,_=>False
theorem files_len:∀ {fs:List (List UInt8)} {xs:List (Bool×List Lk.Obj)},Files fs xs→xs.length=fs.length:=by
 intro fs
 induction fs with
 | nil =>
  intro xs h
  cases xs with
  | nil=>rfl
  | cons x xs=>exact h.elim
 | cons l ls ih =>
  intro xs h
  cases xs with
  | nil=>exact h.elim
  | cons x xs=>rw [List.length_cons,List.length_cons,ih h.2]
theorem files_at:∀ {fs:List (List UInt8)} {xs:List (Bool×List Lk.Obj)},Files fs xs→∀ i (h:i < fs.length) (h':i < xs.length),FileIs fs[i] xs[i].1 xs[i].2:=by
 intro fs
 induction fs with
 | nil=>intro xs _ i h; simp at h
 | cons l ls ih =>
  intro xs h i hi hx
  cases xs with
  | nil=>exact h.elim
  | cons x xs =>
   cases i with
   | zero=>exact h.1
   | succ i=>exact ih h.2 i (by simpa using hi) (by simpa using hx)
theorem files_uniq {fs:List (List UInt8)} {xs ys:List (Bool×List Lk.Obj)} (h:Files fs xs) (hy:ys.length=fs.length) (k:∀ i (h:i < fs.length),FileIs fs[i] (ys[i]'(by omega)).1 (ys[i]'(by omega)).2):ys=xs:=by
 have hl:=files_len h
 apply List.ext_getElem
 ·omega
 ·intro i h1 h2
  have a:=files_at h i (by omega) h2
  have b:=k i (by omega)
  have u:=fileIs_uniq b a
  exact Prod.ext u.1 u.2
theorem link_files {bt bf bd:Int} {fs:List (List UInt8)} {xs:List (Bool×List Lk.Obj)} {e:Ending} (h:LinkRet bt bf bd fs e) (hb:Im.Base bt∧Im.Base bf∧Im.Base bd) (h1:1≤fs.length) (h8:fs.length≤8) (hf:Files fs xs):e = .returned (.tuple #[.string (bs (Ln.linkO (Ln.takeAll xs) bt bf bd).1),lfA (Ln.linkO (Ln.takeAll xs) bt bf bd).2]):=by
 have hok:baseFlt bt bf bd=Ln.ok:=by
  unfold baseFlt
  rw [if_neg (not_not_intro hb.1),if_neg (not_not_intro hb.2.1),if_neg (not_not_intro hb.2.2)]
 rcases h with ⟨f,hfe,-,c⟩ | ⟨-,-,-,ys,hy,k,rfl⟩
 ·rcases c with rfl | ⟨-,c,-⟩ | ⟨-,-,-,i,hi,-,hn,-⟩
  ·exact absurd (by rw [hok]; rfl) hfe
  ·omega
  ·exact (noFile_not (files_at hf i hi (by rw [files_len hf]; exact hi)) hn).elim
 ·rw [files_uniq hf hy k]

set_option maxRecDepth 100000 in
set_option maxHeartbeats 400000 in
theorem near_any (w:World):Calls Tryz.prog 17 #[] w fun e w'=>e = .returned (.agg #[.int .i64 4096,.int .i64 65536,.int .i64 131072])∧w.grownBy w' none:=by
 have A0:=hid (World.grownBy_alloc w (.cells #[.int .i64 4096,.int .i64 65536,.int .i64 131072] 35) none)
 go_enter Tryz.func17,Tryz.ntmps17
 go_wp2
 refine bodyPost_ret (v:=.agg #[.int .i64 4096,.int .i64 65536,.int .i64 131072]) ?_ rfl ⟨rfl,A0.out⟩
 simp [results,Tryz.results17,go_sem]

set_option maxRecDepth 100000 in
set_option maxHeartbeats 400000 in
theorem away_any (w:World):Calls Tryz.prog 21 #[] w fun e w'=>e = .returned (.agg #[.int .i64 16777216,.int .i64 67108864,.int .i64 1048576])∧w.grownBy w' none:=by
 have A0:=hid (World.grownBy_alloc w (.cells #[.int .i64 16777216,.int .i64 67108864,.int .i64 1048576] 35) none)
 go_enter Tryz.func21,Tryz.ntmps21
 go_wp2
 refine bodyPost_ret (v:=.agg #[.int .i64 16777216,.int .i64 67108864,.int .i64 1048576]) ?_ rfl ⟨rfl,A0.out⟩
 simp [results,Tryz.results21,go_sem]

theorem strs_blk {W:World} {X:Nat} {t:TypeId} (fs:List (List UInt8)) (h:BlkAt W X (fs.map fun l=>Value.string (bs l)).toArray t):LStrs W (some ⟨X,0,none⟩) fs:=fun _=>⟨X,0,rfl,fun i hi=>by
 rw [Nat.zero_add,h.cell i,List.getElem?_toArray,List.getElem?_map,List.getElem?_eq_getElem hi]
 rfl⟩
theorem map_getD {α β:Type} (f:α→β) (l:List α) (d:α) (i:Nat) (h:i < (l.map f).length):(l.map f)[i]=f (l.getD i d):=by
 rw [List.length_map] at h
 rw [List.getElem_map,List.getD_eq_getElem?_getD,List.getElem?_eq_getElem h]
 rfl
theorem getD_mem {α:Type} (l:List α) (d:α) (i:Nat) (h:i < l.length):l.getD i d∈l:=by
 rw [List.getD_eq_getElem?_getD,List.getElem?_eq_getElem h]
 exact List.getElem_mem h
/-- bytes that are an object's -/
def ObjB1 (s:List UInt8) (o:Lk.Obj):Prop:=FileIs s false [o]∧s.length≤1048576
theorem asm_b1 {t:List UInt8} (h:AsmOk t):ObjB1 (asmB t) (As.assemble t).2:=⟨fileIs_asm h,by have:=valid_short h.2; unfold asmB; omega⟩
theorem linkIs_eq {os:List Lk.Obj} {bt bf bd e a:Int} {n:List UInt8} (h:LinkIs os bt bf bd e a n):Ln.linkO os bt bf bd=([],⟨e,a,n⟩):=by
 obtain ⟨h1,h2,h3,h4⟩:=h
 generalize Ln.linkO os bt bf bd=q at *
 obtain ⟨b,f⟩:=q
 obtain ⟨x,y,z⟩:=f
 simp only at h1 h2 h3 h4
 rw [h1,h2,h3,h4]
theorem bk_link {bt bf bd e a:Int} {n:List UInt8} {fs:List (List UInt8)} {xs:List (Bool×List Lk.Obj)} {os:List Lk.Obj} {en:Ending} (h:LinkRet bt bf bd fs en) (hb:Im.Base bt∧Im.Base bf∧Im.Base bd) (h1:1≤fs.length) (h8:fs.length≤8) (hf:Files fs xs) (ho:Ln.takeAll xs=os) (hl:LinkIs os bt bf bd e a n):en = .returned (.tuple #[.string (bs []),lfA ⟨e,a,n⟩]):=by
 rw [link_files h hb h1 h8 hf,ho,linkIs_eq hl]
theorem base_near:Im.Base 4096∧Im.Base 65536∧Im.Base 131072:=by unfold Im.Base; omega
theorem base_away:Im.Base 16777216∧Im.Base 67108864∧Im.Base 1048576:=by unfold Im.Base; omega

end Go.Proofs.YtnfgdlkiialnnaaGreatDoor

namespace Go.Proofs.YtnfgdlkiialnnaaGreatDoor
open Go.RowKit

/-- the texts of modules that do not go together -/
def bkT:List (List UInt8):=[
 [46,103,108,111,98,108,32,95,115,116,97,114,116,10,95,115,116,97,114,116,58,32,99,97,108,108,32,103,10],
 [46,103,108,111,98,108,32,103,10,103,58,32,114,101,116,10],
 [46,103,108,111,98,108,32,95,115,116,97,114,116,10,46,100,97,116,97,10,95,115,116,97,114,116,58,32,46,119,111,114,100,32,49,10],
 [46,103,108,111,98,108,32,95,115,116,97,114,116,10,95,115,116,97,114,116,58,32,98,101,113,32,120,48,44,120,48,44,103,10,46,115,112,97,99,101,32,52,48,57,54,10],
 [46,103,108,111,98,108,32,95,115,116,97,114,116,10,95,115,116,97,114,116,58,32,106,32,103,10],
 [46,102,97,114,10,46,103,108,111,98,108,32,103,10,103,58,32,114,101,116,10],
 [95,115,116,97,114,116,58,32,110,111,112,10],
 [110,111,112,10,46,103,108,111,98,108,32,95,115,116,97,114,116,10,95,115,116,97,114,116,58,10],
 [46,102,97,114,10,46,103,108,111,98,108,32,95,115,116,97,114,116,10,95,115,116,97,114,116,58,10,46,97,108,105,103,110,32,52,10]]
def bkO (i:Nat):Lk.Obj:=(As.assemble (bkT.getD i [])).2
theorem bk_length:bkT.length=9:=by decide +kernel
theorem bk_ok:∀ t∈bkT,(As.assemble t).1.1=0:=by decide +kernel
theorem bk_validB:(bkT.all fun t=>validB (As.assemble t).2)=true:=by decide +kernel
theorem bk_valid:∀ t∈bkT,Valid (As.assemble t).2:=fun t ht=>valid_of_b (List.all_eq_true.1 bk_validB t ht)
theorem bk0:LinkIs [bkO 0] 4096 65536 131072 34 0 [103]:=by decide +kernel
theorem bk1:LinkIs [bkO 0,bkO 1,bkO 5] 4096 65536 131072 33 2 [103]:=by decide +kernel
theorem bk2:LinkIs [bkO 2,bkO 1] 4096 65536 131072 35 0 []:=by decide +kernel
theorem bk4:LinkIs [bkO 4,bkO 5] 16777216 67108864 1048576 37 0 [103]:=by decide +kernel
theorem bk8:LinkIs [bkO 0,bkO 5] 4096 4096 131072 36 0 []:=by decide +kernel
theorem bk9:LinkIs [bkO 6] 4096 65536 131072 35 0 []:=by decide +kernel
theorem bk10:LinkIs [bkO 7] 4096 65536 131072 35 0 []:=by decide +kernel
theorem bk11:LinkIs [bkO 8] 4096 65536 131072 35 0 []:=by decide +kernel
theorem bk13:LinkIs [bkO 2,bkO 1] 4096 65536 4096 35 0 []:=by decide +kernel
theorem bk12:(Ln.linkO [bkO 7,bkO 1] 4096 65536 131072).1≠[]∧FltIs (Ln.linkO [bkO 7,bkO 1] 4096 65536 131072).2 0 0 []:=by decide +kernel
theorem bk3:LinkIs [bkO 3,bkO 1] 4096 65536 131072 37 0 [103]:=by decide +kernel

end Go.Proofs.YtnfgdlkiialnnaaGreatDoor
