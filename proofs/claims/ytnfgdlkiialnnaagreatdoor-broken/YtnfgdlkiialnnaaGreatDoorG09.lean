/- The plain side: what the document's Parse takes out of bytes, and that it takes an object's parts out of an object's bytes. -/
/- The plain side: what is valid fits its bytes; what the document's Parse answers, and what Read answers. -/
/- The plain side: archives. -/
/- Walks over package archive: Members. -/
/- Walks over package archive: Members, the walk. -/
/- Linking: bases, files. -/
/- Linking: a file is read. -/
import Derived.Test.YtnfgdlkiialnnaaGreatDoorG08
import Derived.Test.YtnfgdlkiialnnaaGreatDoorG06
import Derived.Test.YtnfgdlkiialnnaaGreatDoorG04
namespace Go.Proofs.YtnfgdlkiialnnaaGreatDoor
open Go.RowKit

theorem drop_on {l a rest:List UInt8} {p:Nat} (h:l.drop p=a ++ rest):l.drop (p+a.length)=rest:=by
 rw [← List.drop_drop,h,List.drop_left]

theorem atL_on {l rest:List UInt8} {v:Int} {p n:Nat} (h:l.drop p=Lk.le v n ++ rest) (h0:0≤v) (h1:v < (256:Int) ^ n):atL l p n=v:=by
 induction n generalizing p v with
 | zero=>simp [atL]; simp at h1; omega
 | succ n ih =>
  simp only [Lk.le,List.cons_append] at h
  have hlt:p < l.length:=by
   have:=congrArg List.length h
   simp at this
   omega
  have hg:l.getD p 0=UInt8.ofNat (v % 256).toNat:=by
   have h2:(l.drop p)[0]?=some (UInt8.ofNat (v % 256).toNat):=by rw [h]; rfl
   rw [List.getElem?_drop] at h2
   rw [List.getD_eq_getElem?_getD]
   simp only [Nat.add_zero] at h2
   rw [h2]
   rfl
  have hd:l.drop (p+1)=Lk.le (v / 256) n ++ rest:=by
   rw [← List.drop_drop,h]
   rfl
  rw [Int.pow_succ] at h1
  have hi:=ih hd (by omega) (by omega)
  simp only [atL,hi,hg]
  have hm:(UInt8.ofNat (v % 256).toNat).toNat=(v % 256).toNat:=by
   rw [UInt8.toNat_ofNat']
   omega
  rw [hm]
  omega

theorem cutL_on {l x rest:List UInt8} {p:Nat} (h:l.drop p=x ++ rest):cutL l p x.length=x:=by
 unfold cutL
 rw [h,List.take_left]

theorem numsAt_on {l rest:List UInt8} {xs:List Int} {p:Nat} (h:l.drop p=Lk.nums xs 4 ++ rest) (hg:Lk.goodWords 4 xs) (k:Nat) (hk:k≤xs.length):numsAt l p k=xs.take k:=by
 induction k with
 | zero=>rfl
 | succ k ih =>
  have hk':k < xs.length:=by omega
  rw [numsAt,ih (by omega),List.take_succ_eq_append_getElem hk']
  congr 2
  have hlen:∀ ys:List Int,(Lk.nums ys 4).length=4 * ys.length:=by
   intro ys
   induction ys with
   | nil=>rfl
   | cons y t ih=>simp only [Lk.nums,List.flatMap_cons,List.length_append,Lk.le_length,List.length_cons] at *; omega
  have e:l.drop p=Lk.nums (xs.take k) 4 ++ (Lk.le xs[k] 4 ++ (Lk.nums (xs.drop (k+1)) 4 ++ rest)):=by
   have e0:xs=xs.take k ++ xs[k] :: xs.drop (k+1):=by rw [← List.drop_eq_getElem_cons hk',List.take_append_drop]
   rw [h]
   refine (congrArg (fun z=>Lk.nums z 4 ++ rest) e0).trans ?_
   simp only [Lk.nums,List.flatMap_append,List.flatMap_cons,List.append_assoc]
  have e2:=drop_on e
  rw [hlen,List.length_take,Nat.min_eq_left (by omega)] at e2
  exact atL_on e2 (hg _ (List.getElem_mem hk')).1 (hg _ (List.getElem_mem hk')).2

/-- a symbol that the bytes from p on say -/
def symAt (l:List UInt8) (p:Nat):Lk.Sym :=
 ⟨cutL l (p+1) (atL l p 1).toNat,atL l (p+1+(atL l p 1).toNat) 1,atL l (p+2+(atL l p 1).toNat) 1,atL l (p+3+(atL l p 1).toNat) 2⟩
/-- k symbols, and where they end -/
def symsRaw (l:List UInt8):Nat→List Lk.Sym×Nat
 | 0=>([],16)
 | k+1=>((symsRaw l k).1 ++ [symAt l (symsRaw l k).2],(symsRaw l k).2+5+(atL l (symsRaw l k).2 1).toNat)
/-- a relocation -/
def relAtL (l:List UInt8) (p:Nat):Lk.Rel:=⟨atL l p 1,atL l (p+2) 2,atL l (p+1) 1,atL l (p+4) 1,Lk.sgn (atL l (p+5) 2)⟩
def relsRaw (l:List UInt8) (p:Nat):Nat→List Lk.Rel
 | 0=>[]
 | k+1=>relsRaw l p k ++ [relAtL l (p+7 * k)]
def rawObj (l:List UInt8):Lk.Obj :=
 ⟨numsAt l ((symsRaw l (atL l 14 1).toNat).2+7 * (atL l 15 1).toNat) (min (atL l 2 2).toNat 1201),
 numsAt l ((symsRaw l (atL l 14 1).toNat).2+7 * (atL l 15 1).toNat+4 * (atL l 2 2).toNat) (min (atL l 4 2).toNat 1201),
 numsAt l ((symsRaw l (atL l 14 1).toNat).2+7 * (atL l 15 1).toNat+4 * (atL l 2 2).toNat+4 * (atL l 4 2).toNat) (min (atL l 6 2).toNat 1201),
 atL l 8 2,[atL l 10 1,atL l 11 1,atL l 12 1,atL l 13 1],(symsRaw l (atL l 14 1).toNat).1,relsRaw l (symsRaw l (atL l 14 1).toNat).2 (atL l 15 1).toNat⟩

theorem symAt_on {l rest:List UInt8} {y:Lk.Sym} {p:Nat} (h:l.drop p=Lk.symB y ++ rest) (hy:Lk.goodSym y):symAt l p=y∧(atL l p 1).toNat=y.name.length:=by
 obtain ⟨nm,b,s,f⟩:=y
 obtain ⟨h1,h2,h3,h4⟩:=hy
 simp only at h1 h2 h3 h4
 simp only [Lk.symB,List.append_assoc] at h
 have a0:atL l p 1=(nm.length:Int):=atL_on h (by omega) (by simp; omega)
 have d1:=drop_on h
 rw [Lk.le_length] at d1
 have d2:=drop_on d1
 have d3:=drop_on d2
 rw [Lk.le_length] at d3
 have d4:=drop_on d3
 rw [Lk.le_length] at d4
 have e0:(atL l p 1).toNat=nm.length:=by rw [a0]; omega
 refine ⟨?_,e0⟩
 unfold symAt
 rw [e0]
 have a1:=cutL_on d1
 have a2:atL l (p+1+nm.length) 1=b:=atL_on d2 h2.1 (by simpa using h2.2)
 have a3:atL l (p+2+nm.length) 1=s:=by
  rw [show p+2+nm.length=p+1+nm.length+1 from by omega]
  exact atL_on d3 h3.1 (by simpa using h3.2)
 have a4:atL l (p+3+nm.length) 2=f:=by
  rw [show p+3+nm.length=p+1+nm.length+1+1 from by omega]
  exact atL_on d4 h4.1 (by simpa using h4.2)
 rw [a1,a2,a3,a4]

theorem symsRaw_on {l rest:List UInt8} {ys:List Lk.Sym} (h:l.drop 16=ys.flatMap Lk.symB ++ rest) (hg:∀ y∈ys,Lk.goodSym y) (k:Nat) (hk:k≤ys.length) :
  symsRaw l k=(ys.take k,16+((ys.take k).flatMap Lk.symB).length):=by
 induction k with
 | zero=>rfl
 | succ k ih =>
  have hk':k < ys.length:=by omega
  have e:l.drop 16=(ys.take k).flatMap Lk.symB ++ (Lk.symB ys[k] ++ ((ys.drop (k+1)).flatMap Lk.symB ++ rest)):=by
   have e0:ys=ys.take k ++ ys[k] :: ys.drop (k+1):=by rw [← List.drop_eq_getElem_cons hk',List.take_append_drop]
   rw [h]
   refine (congrArg (fun z=>List.flatMap Lk.symB z ++ rest) e0).trans ?_
   simp only [List.flatMap_append,List.flatMap_cons,List.append_assoc]
  have e2:=drop_on e
  obtain ⟨s1,s2⟩:=symAt_on e2 (hg _ (List.getElem_mem hk'))
  simp only [symsRaw,ih (by omega)]
  rw [s1,s2,List.take_succ_eq_append_getElem hk',List.flatMap_append,List.length_append]
  simp only [List.flatMap_cons,List.flatMap_nil,List.append_nil,symB_length]
  rw [Nat.add_assoc,Nat.add_assoc]

theorem relAtL_on {l rest:List UInt8} {r:Lk.Rel} {p:Nat} (h:l.drop p=Lk.relB r ++ rest) (hr:Lk.goodRel r):relAtL l p=r:=by
 obtain ⟨s,f,d,y,a⟩:=r
 obtain ⟨h1,h2,h3,h4,h5,h6⟩:=hr
 simp only at h1 h2 h3 h4 h5 h6
 simp only [Lk.relB,List.append_assoc] at h
 rw [← Lk.le_uns a] at h
 have d1:=drop_on h
 rw [Lk.le_length] at d1
 have d2:=drop_on d1
 rw [Lk.le_length] at d2
 have d3:=drop_on d2
 rw [Lk.le_length] at d3
 have d4:=drop_on d3
 rw [Lk.le_length] at d4
 have a0:atL l p 1=s:=atL_on h h1.1 (by simpa using h1.2)
 have a1:atL l (p+1) 1=d:=atL_on d1 h2.1 (by simpa using h2.2)
 have a2:atL l (p+2) 2=f:=atL_on d2 h3.1 (by simpa using h3.2)
 have a3:atL l (p+4) 1=y:=atL_on d3 h4.1 (by simpa using h4.2)
 have a4:atL l (p+5) 2=Lk.uns a:=atL_on d4 (by unfold Lk.uns; split <;> omega) (by unfold Lk.uns; simp only [Int.reducePow]; split <;> omega)
 unfold relAtL
 rw [a0,a1,a2,a3,a4]
 congr 1
 unfold Lk.sgn Lk.uns
 split <;> split <;> omega

theorem relsRaw_on {l rest:List UInt8} {rs:List Lk.Rel} {p:Nat} (h:l.drop p=rs.flatMap Lk.relB ++ rest) (hg:∀ r∈rs,Lk.goodRel r) (k:Nat) (hk:k≤rs.length) :
  relsRaw l p k=rs.take k:=by
 induction k with
 | zero=>rfl
 | succ k ih =>
  have hk':k < rs.length:=by omega
  have hlen:∀ ys:List Lk.Rel,(ys.flatMap Lk.relB).length=7 * ys.length:=by
   intro ys
   induction ys with
   | nil=>rfl
   | cons y t ih=>simp only [List.flatMap_cons,List.length_append,relB_length,List.length_cons] at *; omega
  have e:l.drop p=(rs.take k).flatMap Lk.relB ++ (Lk.relB rs[k] ++ ((rs.drop (k+1)).flatMap Lk.relB ++ rest)):=by
   have e0:rs=rs.take k ++ rs[k] :: rs.drop (k+1):=by rw [← List.drop_eq_getElem_cons hk',List.take_append_drop]
   rw [h]
   refine (congrArg (fun z=>List.flatMap Lk.relB z ++ rest) e0).trans ?_
   simp only [List.flatMap_append,List.flatMap_cons,List.append_assoc]
  have e2:=drop_on e
  rw [hlen,List.length_take,Nat.min_eq_left (by omega)] at e2
  simp only [relsRaw,ih (by omega),List.take_succ_eq_append_getElem hk']
  rw [relAtL_on e2 (hg _ (List.getElem_mem hk'))]

theorem rels_length (rs:List Lk.Rel):(rs.flatMap Lk.relB).length=7 * rs.length:=by
 induction rs with
 | nil=>rfl
 | cons y t ih=>simp only [List.flatMap_cons,List.length_append,relB_length,List.length_cons] at *; omega
theorem raw_back {o:Lk.Obj} (hg:Lk.goodObj o) (hz:o.text.length≤1200∧o.far.length≤1200∧o.data.length≤1200):rawObj (Lk.objB o)=o:=by
 obtain ⟨g1,g2,g3,g4,g5,g6,g7,g8,g9,g10,g11,g12,g13⟩:=hg
 obtain ⟨tx,fx,dx,bss,al,ys,rs⟩:=o
 simp only at *
 obtain ⟨a,b,c,d,rfl⟩:∃ a b c d,al=[a,b,c,d]:=by
  match al,g5 with
  | [a,b,c,d],_=>exact ⟨a,b,c,d,rfl⟩
 generalize hl:Lk.objB ⟨tx,fx,dx,bss,[a,b,c,d],ys,rs⟩=l
 have h0:l.drop 0=[76,75] ++ Lk.restB ⟨tx,fx,dx,bss,[a,b,c,d],ys,rs⟩:=by rw [← hl]; rfl
 simp only [Lk.restB] at h0
 have h2:=drop_on h0
 have h4:=drop_on h2
 rw [Lk.le_length] at h4
 have h6:=drop_on h4
 rw [Lk.le_length] at h6
 have h8:=drop_on h6
 rw [Lk.le_length] at h8
 have h10:=drop_on h8
 rw [Lk.le_length] at h10
 have hal:Lk.nums [a,b,c,d] 1=Lk.le a 1 ++ (Lk.le b 1 ++ (Lk.le c 1 ++ Lk.le d 1)):=by simp only [Lk.nums,List.flatMap_cons,List.flatMap_nil,List.append_nil]
 rw [hal] at h10
 simp only [List.append_assoc] at h10
 have h11:=drop_on h10
 rw [Lk.le_length] at h11
 have h12:=drop_on h11
 rw [Lk.le_length] at h12
 have h13:=drop_on h12
 rw [Lk.le_length] at h13
 have h14:=drop_on h13
 rw [Lk.le_length] at h14
 have h15:=drop_on h14
 rw [Lk.le_length] at h15
 have h16:=drop_on h15
 rw [Lk.le_length] at h16
 have hs:=drop_on h16
 have hr:=drop_on hs
 have ht:=drop_on hr
 have hf:=drop_on ht
 simp only [List.length_cons,List.length_nil,Nat.zero_add,Nat.reduceAdd] at h2 h4 h6 h8 h10 h11 h12 h13 h14 h15 h16 hs hr ht hf
 have v2:atL l 2 2=(tx.length:Int):=atL_on h2 (by omega) (by simp; omega)
 have v4:atL l 4 2=(fx.length:Int):=atL_on h4 (by omega) (by simp; omega)
 have v6:atL l 6 2=(dx.length:Int):=atL_on h6 (by omega) (by simp; omega)
 have v8:atL l 8 2=bss:=atL_on h8 g4.1 (by simpa using g4.2)
 have w1:=g6 a (by simp)
 have w2:=g6 b (by simp)
 have w3:=g6 c (by simp)
 have w4:=g6 d (by simp)
 have v10:atL l 10 1=a:=atL_on h10 w1.1 w1.2
 have v11:atL l 11 1=b:=atL_on h11 w2.1 w2.2
 have v12:atL l 12 1=c:=atL_on h12 w3.1 w3.2
 have v13:atL l 13 1=d:=atL_on h13 w4.1 w4.2
 have v14:atL l 14 1=(ys.length:Int):=atL_on h14 (by omega) (by simp; omega)
 have v15:atL l 15 1=(rs.length:Int):=atL_on h15 (by omega) (by simp; omega)
 have hlenR:=rels_length rs
 have eS:=symsRaw_on h16 g9 ys.length (Nat.le_refl _)
 rw [List.take_length] at eS
 unfold rawObj
 rw [v2,v4,v6,v8,v10,v11,v12,v13,v14,v15]
 simp only [Int.toNat_natCast,eS]
 rw [relsRaw_on hs g10 rs.length (Nat.le_refl _),List.take_length]
 rw [hlenR] at hr ht hf
 rw [numsB_length] at ht hf
 rw [numsB_length] at hf
 rw [Nat.min_eq_left (by omega),Nat.min_eq_left (by omega),Nat.min_eq_left (by omega)]
 rw [numsAt_on hr g11 tx.length (Nat.le_refl _),List.take_length,numsAt_on ht g12 fx.length (Nat.le_refl _),List.take_length]
 rw [numsAt_on (rest:=[]) (by rw [List.append_nil]; exact hf) g13 dx.length (Nat.le_refl _),List.take_length]

end Go.Proofs.YtnfgdlkiialnnaaGreatDoor

namespace Go.Proofs.YtnfgdlkiialnnaaGreatDoor
open Go.RowKit

/-- bytes that are an object's -/
def IsObj (l:List UInt8):Prop:=Valid (rawObj l)∧Lk.objB (rawObj l)=l

theorem isObj_of_read {l:List UInt8} {o:Lk.Obj} (h:Lk.readObj l=some o) (hv:Valid o):IsObj l∧rawObj l=o:=by
 obtain ⟨hg,rfl⟩:=(Lk.readObj_iff l o).1 h
 have hz:=hv.1.1
 have e:=raw_back hg ⟨hz.1,hz.2.1,by omega⟩
 unfold IsObj
 rw [e]
 exact ⟨⟨hv,rfl⟩,rfl⟩

theorem read_of_isObj {l:List UInt8} (h:IsObj l):Lk.readObj l=some (rawObj l):=(Lk.readObj_iff l _).2 ⟨valid_good h.1,h.2.symm⟩

theorem isObj_short {l:List UInt8} (h:IsObj l):l.length≤65535:=by
 have:=valid_short h.1
 rw [h.2] at this
 exact this

theorem not_isObj_of_read {l:List UInt8} (h:∀ o,Lk.readObj l=some o→¬ Valid o):¬ IsObj l:=fun k=>h _ (read_of_isObj k) k.1

end Go.Proofs.YtnfgdlkiialnnaaGreatDoor

namespace Go.Proofs.YtnfgdlkiialnnaaGreatDoor
open Go.RowKit

def memB (m:List UInt8):List UInt8:=Lk.le m.length 2 ++ m
def arB (ms:List (List UInt8)):List UInt8:=[65,82] ++ (Lk.le ms.length 1 ++ ms.flatMap memB)
def IsArch (l:List UInt8) (ms:List (List UInt8)):Prop:=(1≤ms.length∧ms.length≤6)∧(∀ m∈ms,IsObj m)∧arB ms=l

theorem not_isObj_nil:¬ IsObj []:=fun h=>by
 have:=congrArg List.length h.2
 simp [Lk.objB] at this

/-- k members and where they end -/
def memsRaw (l:List UInt8):Nat→List (List UInt8)×Nat
 | 0=>([],3)
 | k+1=>((memsRaw l k).1 ++ [cutL l ((memsRaw l k).2+2) (atL l (memsRaw l k).2 2).toNat],(memsRaw l k).2+2+(atL l (memsRaw l k).2 2).toNat)
def rawMems (l:List UInt8):List (List UInt8):=(memsRaw l (min (atL l 2 1).toNat 6)).1

theorem memsRaw_on {l rest:List UInt8} {ms:List (List UInt8)} (h:l.drop 3=ms.flatMap memB ++ rest) (hg:∀ m∈ms,m.length≤65535) (k:Nat) (hk:k≤ms.length) :
  memsRaw l k=(ms.take k,3+((ms.take k).flatMap memB).length):=by
 induction k with
 | zero=>rfl
 | succ k ih =>
  have hk':k < ms.length:=by omega
  have e:l.drop 3=(ms.take k).flatMap memB ++ (memB ms[k] ++ ((ms.drop (k+1)).flatMap memB ++ rest)):=by
   have e0:ms=ms.take k ++ ms[k] :: ms.drop (k+1):=by rw [← List.drop_eq_getElem_cons hk',List.take_append_drop]
   rw [h]
   refine (congrArg (fun z=>List.flatMap memB z ++ rest) e0).trans ?_
   simp only [List.flatMap_append,List.flatMap_cons,List.append_assoc]
  have e2:=drop_on e
  have hm:=hg _ (List.getElem_mem hk')
  unfold memB at e2
  rw [List.append_assoc] at e2
  have a0:atL l (3+((ms.take k).flatMap memB).length) 2=(ms[k].length:Int):=atL_on e2 (by omega) (by simp only [Int.reducePow]; omega)
  have e3:=drop_on e2
  rw [Lk.le_length] at e3
  have a1:=cutL_on e3
  simp only [memsRaw,ih (by omega)]
  rw [a0,Int.toNat_natCast]
  refine Prod.ext ?_ ?_
  ·simp only
   rw [List.take_succ_eq_append_getElem hk']
   congr 2
  ·simp only
   rw [List.take_succ_eq_append_getElem hk',List.flatMap_append,List.length_append]
   simp only [List.flatMap_cons,List.flatMap_nil,List.append_nil,memB,List.length_append,Lk.le_length]
   omega

theorem arch_raw {l:List UInt8} {ms:List (List UInt8)} (h:IsArch l ms):rawMems l=ms:=by
 obtain ⟨⟨h1,h2⟩,h3,h4⟩:=h
 have d0:l.drop 0=[65,82] ++ (Lk.le ms.length 1 ++ ms.flatMap memB):=by rw [← h4]; rfl
 have d2:=drop_on d0
 have d3:=drop_on d2
 rw [Lk.le_length] at d3
 simp only [List.length_cons,List.length_nil,Nat.zero_add,Nat.reduceAdd] at d2 d3
 have a:atL l 2 1=(ms.length:Int):=atL_on d2 (by omega) (by simp only [Int.reducePow]; omega)
 unfold rawMems
 rw [a,Int.toNat_natCast,Nat.min_eq_left h2,memsRaw_on (rest:=[]) (by rw [List.append_nil]; exact d3) (fun m hm=>isObj_short (h3 m hm)) ms.length (Nat.le_refl _),List.take_length]

end Go.Proofs.YtnfgdlkiialnnaaGreatDoor

namespace Go.Proofs.YtnfgdlkiialnnaaGreatDoor
open Go.RowKit

theorem Tryz.infoStr:(Tryz.prog.info? 9).map (fun i=>(i.zero,i.size,i.bytes))=some (some (.string ⟨#[]⟩),1,16):=by kernel_rfl

theorem mem_step {l:List UInt8} {p:Nat} (hp:p≤l.length) (h:IsObj (Lk.rdText l (Lk.rdNum l 2 (p,false)).1.toNat (Lk.rdNum l 2 (p,false)).2).1) :
  ∃ m,Lk.rdText l (Lk.rdNum l 2 (p,false)).1.toNat (Lk.rdNum l 2 (p,false)).2=(m,(p+2+m.length,false))∧l.drop p=memB m ++ l.drop (p+2+m.length)∧p+2+m.length≤l.length:=by
 by_cases h1:2≤l.length - p
 ·have e1:Lk.rdNum l 2 (p,false)=(Lk.num ((l.drop p).take 2),(p+2,false)):=by simp [Lk.rdNum,Lk.rdText,h1]
  rw [e1] at h ⊢
  simp only at h ⊢
  have hn:=Lk.num_nonneg ((l.drop p).take 2)
  have hlen:((l.drop p).take 2).length=2:=by simp; omega
  have hle:=Lk.le_num ((l.drop p).take 2)
  rw [hlen] at hle
  obtain ⟨n,hn'⟩:=Int.eq_ofNat_of_zero_le hn
  rw [hn'] at h hle ⊢
  simp only [Int.toNat_natCast] at h ⊢
  by_cases h2:n≤l.length - (p+2)
  ·have hml:((l.drop (p+2)).take n).length=n:=by simp; omega
   have e2:Lk.rdText l n (p+2,false)=((l.drop (p+2)).take n,(p+2+n,false)):=by simp [Lk.rdText,h2]
   refine ⟨(l.drop (p+2)).take n,by rw [e2,hml],?_,by rw [hml]; omega⟩
   rw [hml]
   unfold memB
   rw [hml,hle,List.append_assoc,← List.drop_drop (i:=n),List.take_append_drop,← List.drop_drop (i:=2),List.take_append_drop]
  ·have e2:(Lk.rdText l n (p+2,false)).1=[]:=by simp [Lk.rdText,h2]
   rw [e2] at h
   exact absurd h not_isObj_nil
 ·have e1:Lk.rdNum l 2 (p,false)=(0,(p,true)):=by simp [Lk.rdNum,Lk.rdText,h1,Lk.num]
  rw [e1] at h
  have e2:(Lk.rdText l (0:Int).toNat (p,true)).1=[]:=by simp [Lk.rdText]
  rw [e2] at h
  exact absurd h not_isObj_nil

theorem mem_on {l m rest:List UInt8} {p:Nat} (hp:p≤l.length) (h:l.drop p=memB m ++ rest) (hm:m.length≤65535):(Lk.rdText l (Lk.rdNum l 2 (p,false)).1.toNat (Lk.rdNum l 2 (p,false)).2).1=m:=by
 unfold memB at h
 rw [List.append_assoc] at h
 obtain ⟨a1,b1,c1,p1,d1⟩:=(Lk.reads_num l 2).on (st:=(p,false)) hp rfl (x:=(m.length:Int)) ⟨by omega,by simp only [Int.reducePow]; omega⟩ h
 rw [a1,Int.toNat_natCast]
 exact ((Lk.reads_text l m.length).on p1 b1 (x:=m) rfl d1).1

set_option maxHeartbeats 1000000 in
theorem validCount_any (n:Int) (w:World) :
  Calls Tryz.prog 30 #[.int .i64 n] w fun e w'=>Tells e (1≤n∧n≤6)∧w'=w:=by
 go_enter Tryz.func30,Tryz.ntmps30
 by_cases h1:1≤n
 ·by_cases h2:n≤6
  ·have d1:decide (1≤n)=true:=by simpa using h1
   have d2:decide (n≤6)=true:=by simpa using h2
   go_wp2
   go_ret
   exact ⟨Tells.yes ⟨h1,h2⟩,rfl⟩
  ·have d1:decide (1≤n)=true:=by simpa using h1
   have d2:decide (n≤6)=false:=by simp; omega
   go_wp2
   go_ret
   exact ⟨Tells.no (fun h=>by omega),rfl⟩
 ·have d1:decide (1≤n)=false:=by simp; omega
  go_wp2
  go_ret
  exact ⟨Tells.no (fun h=>by omega),rfl⟩

set_option maxHeartbeats 1000000 in
theorem archObject_any (s:ByteArray) (w:World) (ht:Tabs w) (hs:s.size≤1048576) :
  Calls Tryz.prog 33 #[.string s] w fun e w'=>Tells e (IsObj (sl s))∧w.grownBy w' none:=by
 have cR:=hid (read_any s w ht hs)
 go_enter Tryz.func33,Tryz.ntmps33
 go_wp2_with fail
 refine cR.out.mono ?_
 rintro e w1 ⟨⟨o,g,hr,hv,rfl,-,-⟩ | ⟨hno,rfl⟩,hq⟩
 ·have H:=hid (isObj_of_read hr hv).1
  have HQ:=hid hq
  go_wp2
  go_ret
  exact ⟨Tells.yes H.out,HQ.out⟩
 ·have H:=hid (not_isObj_of_read hno)
  have HQ:=hid hq
  go_wp2
  go_ret
  exact ⟨Tells.no H.out,HQ.out⟩

end Go.Proofs.YtnfgdlkiialnnaaGreatDoor

namespace Go.Proofs.YtnfgdlkiialnnaaGreatDoor
open Go.RowKit

/-- the strings of a list of files -/
def strV (ms:List (List UInt8)):List Value:=ms.map (fun m=>Value.string (bs m))

/-- what Members gives -/
def MembersRet (l:List UInt8) (base:Nat) (e:Ending) (w':World):Prop :=
 (∃ ms v,IsArch l ms∧e = .returned (.tuple #[v,.int .i64 0])∧w'.ownsRow base 9 1 v ms.length (strV ms)) ∨
 ((∀ ms,¬ IsArch l ms)∧e = .returned (.tuple #[.slice none 0 0,.int .i64 21]))

set_option maxHeartbeats 8000000 in
theorem members_any (s:ByteArray) (w:World) (ht:Tabs w) (hs:s.size≤1048576) :
  Calls Tryz.prog 24 #[.string s] w fun e w'=>MembersRet (sl s) w.heap.size e w'∧w.grownBy w' none:=by
 obtain ⟨i0,hi,hz0,hz1,hz2⟩:=info_parts Tryz.infoStr
 have HT:=hid ht
 clear ht
 have hlen:=sl_length s
 have l0:=rdText_le (sl s) 2 (0,false) (by rw [hlen]; omega)
 have c0:=fun W b h=>text_lit b s 0 2 2 rfl false W h hs (Nat.zero_le _) (by omega)
 have HX0:=hid (Lk.reads_text (sl s) 2)
 have T0:=hid (show (Lk.rdText (sl s) 2 (0,false)).1=[65,82]→Lk.rdText (sl s) 2 (0,false)=([65,82],(2,false))∧(sl s).drop 0=[65,82] ++ (sl s).drop 2∧2≤(sl s).length from fun h=>by
  unfold Lk.rdText at h ⊢
  simp only at h ⊢
  by_cases c:2≤(sl s).length - 0
  ·rw [if_pos c] at h ⊢
   simp only at h ⊢
   refine ⟨by rw [h],?_,by omega⟩
   rw [← h,List.drop_zero,List.take_append_drop]
  ·rw [if_neg c] at h
   simp at h)
 have N0:=hid (show ∀ ms,IsArch (sl s) ms→(Lk.rdText (sl s) 2 (0,false)).1=[65,82] from fun ms h=>(HX0.out.on (st:=(0,false)) (Nat.zero_le _) rfl (x:=[65,82]) (rest:=Lk.le ms.length 1 ++ ms.flatMap memB) rfl (by rw [← h.2.2]; rfl)).1)
 clear HX0
 rw [hlen] at l0
 generalize Lk.rdText (sl s) 2 (0,false)=x0 at *
 obtain ⟨mk,p0,s0⟩:=x0
 simp only at c0 T0 N0 l0
 have c1:=fun W b h=>number_lit b s p0 1 1 rfl s0 W h hs l0 (by omega)
 have l1:=rdNum_le (sl s) 1 (p0,s0) (by rw [hlen]; exact l0)
 rw [hlen] at l1
 have b1:=rdNum_byte (sl s) 1 (p0,s0)
 simp only [Int.reducePow] at b1
 have T1:=hid (show mk=[65,82]→1≤(Lk.rdNum (sl s) 1 (p0,s0)).1→(Lk.rdNum (sl s) 1 (p0,s0)).2=(3,false)∧(sl s).drop 0=[65,82] ++ (Lk.le (Lk.rdNum (sl s) 1 (p0,s0)).1 1 ++ (sl s).drop 3)∧3≤(sl s).length from fun hm h=>by
  obtain ⟨e,d,hl2⟩:=T0.out hm
  simp only [Prod.mk.injEq] at e
  obtain ⟨-,rfl,rfl⟩:=e
  by_cases c:1≤(sl s).length - 2
  ·have e1:Lk.rdNum (sl s) 1 (2,false)=(Lk.num (((sl s).drop 2).take 1),(3,false)):=by simp [Lk.rdNum,Lk.rdText,c]
   rw [e1]
   have hle:=Lk.le_num (((sl s).drop 2).take 1)
   rw [show (((sl s).drop 2).take 1).length=1 from by simp; omega] at hle
   refine ⟨rfl,?_,by omega⟩
   simp only
   rw [d,hle,show (sl s).drop 3=((sl s).drop 2).drop 1 from by rw [List.drop_drop],List.take_append_drop]
  ·have e1:Lk.rdNum (sl s) 1 (2,false)=(0,(2,true)):=by simp [Lk.rdNum,Lk.rdText,c,Lk.num]
   rw [e1] at h
   simp at h)
 have N1:=hid (show ∀ ms,IsArch (sl s) ms→(Lk.rdNum (sl s) 1 (p0,s0)).1=(ms.length:Int) from fun ms h=>by
  obtain ⟨e,d,hl2⟩:=T0.out (N0.out ms h)
  simp only [Prod.mk.injEq] at e
  obtain ⟨-,rfl,rfl⟩:=e
  have d0:(sl s).drop 0=[65,82] ++ (Lk.le ms.length 1 ++ ms.flatMap memB):=by rw [← h.2.2]; rfl
  exact ((Lk.reads_num (sl s) 1).on (st:=(2,false)) hl2 rfl (x:=(ms.length:Int)) (rest:=ms.flatMap memB) ⟨by omega,by have:=h.1.2; simp only [Int.reducePow]; omega⟩ (drop_on d0)).1)
 generalize Lk.rdNum (sl s) 1 (p0,s0)=x1 at *
 obtain ⟨cnt,p1,s1⟩:=x1
 simp only at c1 T1 N1 l1 b1
 have C0:=hid c0
 have C1:=hid c1
 clear c0 c1
 have HLN:=hid hlen
 clear hlen
 have cV:=hid (fun W=>validCount_any cnt W)
 go_enter Tryz.func24,Tryz.ntmps24
 go_wp2_with fail
 refine (newReader_any s w).mono ?_
 rintro e W1 ⟨rfl,g1⟩
 have R:RdAt (W1.alloc (.cells #[.string s,.int .i64 0,.bool false] 63)) W1.heap.size s 0 false:=heap_alloc_new W1 _
 have HR:=hid R
 have G1:=hid (grown_trans g1 (World.grownBy_alloc W1 (.cells #[.string s,.int .i64 0,.bool false] 63) none))
 have hbw:w.heap.size≤W1.heap.size:=g1.size
 clear R g1
 generalize hb:W1.heap.size=b at *
 go_wp2_with fail
 refine (C0.out _ b HR.out).mono ?_
 rintro e W2 ⟨rfl,r2,g2⟩
 have R2:=hid r2
 have G2:=hid (grown_above G1.out g2 hbw)
 clear r2 g2 HR G1 hb
 go_wp2_with fail
 refine (C1.out _ b R2.out).mono ?_
 rintro e W3 ⟨rfl,r3,g3⟩
 have R3:=hid r3
 have G3:=hid (grown_above G2.out g3 hbw)
 clear r3 g3 R2 G2
 have HTB:=hid (toList_bs mk)
 by_cases c:mk=[65,82]
 rotate_left
 ·have d:((bs mk).toList == [65,82])=false:=by rw [HTB.out,beq_eq_false_iff_ne]; exact c
  have CC:=hid c
  clear c
  go_wp2
  go_ret2
  exact ⟨.inr ⟨fun ms h=>CC.out (N0.out ms h),rfl⟩,G3.out⟩
 have d:((bs mk).toList == [65,82])=true:=by rw [HTB.out,beq_iff_eq]; exact c
 have CC:=hid c
 clear c
 go_wp2_with fail
 refine (cV.out _).mono ?_
 rintro e W4 ⟨t,rfl⟩
 rcases t.split with ⟨rfl,pv⟩ | ⟨rfl,pv⟩ <;> clear t
 ·go_wp2
  go_ret2
  exact ⟨.inr ⟨fun ms h=>pv.out (by rw [N1.out ms h]; have:=h.1; omega),rfl⟩,G3.out⟩
 obtain ⟨hst,hd,hl3⟩:=T1.out CC.out pv.out.1
 simp only [Prod.mk.injEq] at hst
 obtain ⟨rfl,rfl⟩:=hst
 obtain ⟨n,rfl⟩:=Int.eq_ofNat_of_zero_le b1.1
 have HPV:=hid pv.out
 have hn6:n≤6:=by have:=pv.out.2; omega
 have HN1:=hid N1.out
 have A3:=hid (show ∀ ms,IsArch (sl s) ms→ms.length=n∧∃ ms',ms=[] ++ ms'∧(sl s).drop 3=ms'.flatMap memB from fun ms h=>by
  refine ⟨by have:=HN1.out ms h; omega,ms,rfl,?_⟩
  have d0:(sl s).drop 0=[65,82] ++ (Lk.le ms.length 1 ++ ms.flatMap memB):=by rw [← h.2.2]; rfl
  have:=drop_on (drop_on d0)
  rw [Lk.le_length] at this
  exact this)
 have HD:=hid hd
 clear hd hl3 pv N1 HN1 T0 T1 N0 C0 C1
 have hbs:W4.heap.size≤W4.heap.size:=Nat.le_refl _
 have hblt:b < W4.heap.size:=R3.out.lt
 have hw4:w.heap.size≤W4.heap.size:=G3.out.size
 go_wp2
 go_loopw [7,8] (fun v i wr=>∃ (k:Nat) (acc:List (List UInt8)) (p:Nat),k≤n∧i = .int .i64 k∧acc.length=k∧p≤s.size ∧
   wr.ownsRow W4.heap.size 9 1 v k (strV acc)∧RdAt wr b s p false∧w.grownBy wr none∧W4.heap.size≤wr.heap.size∧(∀ m∈acc,IsObj m)∧(sl s).drop 3=acc.flatMap memB ++ (sl s).drop p ∧
   ∀ ms,IsArch (sl s) ms→ms.length=n∧∃ ms',ms=acc ++ ms'∧(sl s).drop p=ms'.flatMap memB) (fun _ i _=>n - (intOf i).toNat)
 case atStart=>exact ⟨0,[],3,Nat.zero_le _,rfl,rfl,l1,World.ownsRow_nil _ _ _ _,R3.out,G3.out,Nat.le_refl _,by simp,by simp,A3.out⟩
 case round =>
  obtain ⟨k,acc,p,hk,rfl,hacc,hp,hown,hrd,hgr,hsz,hall,hdr,har⟩:=hrel
  have HACC:=hid hacc
  have HRD:=hid hrd
  have HG:=hid hgr
  have HALL:=hid hall
  have HDR:=hid hdr
  have HAR:=hid har
  clear hacc hrd hgr hall hdr har
  by_cases hlt:k < n
  ·have hlt':(k:Int) < (n:Int):=by omega
   have hstep:=hid (fun h=>mem_step (l:=sl s) (p:=p) (by rw [HLN.out]; exact hp) h)
   have hon:=hid (fun (m rest:List UInt8) h hm=>mem_on (l:=sl s) (m:=m) (rest:=rest) (p:=p) (by rw [HLN.out]; exact hp) h hm)
   have k0:=hid (fun W h=>number_lit b s p 2 2 rfl false W h hs hp (by omega))
   have r0:=rdNum_byte (sl s) 2 (p,false)
   have q0:=rdNum_le (sl s) 2 (p,false) (by rw [HLN.out]; exact hp)
   rw [HLN.out] at q0
   simp only [Int.reducePow] at r0
   generalize Lk.rdNum (sl s) 2 (p,false)=y0 at *
   obtain ⟨len,p2,s2⟩:=y0
   simp only at k0 r0 q0 hstep hon
   obtain ⟨len,rfl⟩:=Int.eq_ofNat_of_zero_le r0.1
   simp only [Int.toNat_natCast] at hstep hon
   have k1:=hid (fun W h=>text_lit b s p2 len (len:Int) rfl s2 W h hs q0 (by omega))
   have q1:=rdText_le (sl s) len (p2,s2) (by rw [HLN.out]; exact q0)
   rw [HLN.out] at q1
   have q2:(Lk.rdText (sl s) len (p2,s2)).1.length≤65535:=by
    unfold Lk.rdText
    split
    ·simp only [List.length_take]; omega
    ·simp
   generalize Lk.rdText (sl s) len (p2,s2)=y1 at *
   obtain ⟨m,p3,s3⟩:=y1
   simp only at k1 q1 q2 hstep hon
   go_wp2_with fail
   refine (k0.out _ HRD.out).mono ?_
   rintro e U1 ⟨rfl,r1,g1⟩
   have RA:=hid r1
   have GA:=hid (grown_above HG.out g1 hbw)
   have hown1:=own_kept hown hblt g1
   have hsz1:=Nat.le_trans hsz g1.size
   clear r1 g1 hown hsz HRD HG k0
   go_wp2_with fail
   refine (k1.out _ RA.out).mono ?_
   rintro e U2 ⟨rfl,r1,g1⟩
   have RB:=hid r1
   have GB:=hid (grown_above GA.out g1 hbw)
   have hown2:=own_kept hown1 hblt g1
   have hsz2:=Nat.le_trans hsz1 g1.size
   clear r1 g1 hown1 hsz1 RA GA k1
   have cO:=hid (archObject_any (bs m) U2 (HT.out.grown GB.out) (by show m.length≤1048576; omega))
   rw [sl_bs] at cO
   go_wp2_with fail
   refine cO.out.mono ?_
   rintro e U3 ⟨t,g1⟩
   have RC:=hid (RB.out.grown g1 (by simp))
   have GC:=hid (grown_trans GB.out g1)
   have hown3:=hown2.kept g1 (by cases (Value.ownBlock _) <;> simp)
   have hsz3:=Nat.le_trans hsz2 g1.size
   rcases t.split with ⟨rfl,pv⟩ | ⟨rfl,pv⟩ <;> clear t g1 hown2 hsz2 RB GB cO
   ·have NA:=hid (show ∀ ms,¬ IsArch (sl s) ms from fun ms h=>by
     obtain ⟨h1,ms',h2,h3⟩:=HAR.out ms h
     have h4:=HACC.out
     match ms',h2,h3 with
     | [],h2,_=>rw [h2] at h1; simp at h1; omega
     | m' :: ms'',h2,h3 =>
      have hm':IsObj m':=h.2.1 m' (by rw [h2]; simp)
      have e:=hon.out m' (ms''.flatMap memB) (by rw [h3]; rfl) (isObj_short hm')
      subst e
      exact pv.out hm')
    clear pv
    go_wp2
    go_ret2
    exact ⟨.inr ⟨NA.out,rfl⟩,GC.out⟩
   ·obtain ⟨m',he,hdp,hle⟩:=hstep.out pv.out
    simp only [Prod.mk.injEq] at he
    obtain ⟨rfl,rfl,rfl⟩:=he
    rw [HLN.out] at hle
    have HDP:=hid hdp
    have HPV2:=hid pv.out
    have HAR2:=hid (show ∀ ms,IsArch (sl s) ms→ms.length=n∧∃ ms',ms=(acc ++ [m]) ++ ms'∧(sl s).drop (p+2+m.length)=ms'.flatMap memB from fun ms h=>by
     obtain ⟨h1,ms',h2,h3⟩:=HAR.out ms h
     refine ⟨h1,?_⟩
     have h4:=HACC.out
     match ms',h2,h3 with
     | [],h2,_=>rw [h2] at h1; simp at h1; omega
     | m' :: ms'',h2,h3 =>
      have hm':IsObj m':=h.2.1 m' (by rw [h2]; simp)
      have e:=hon.out m' (ms''.flatMap memB) (by rw [h3]; rfl) (isObj_short hm')
      subst e
      refine ⟨ms'',by rw [h2]; simp,?_⟩
      rw [HDP.out] at h3
      exact List.append_cancel_left h3)
    clear pv hdp hstep hon
    have hacc2:acc.length≤6:=by have:=HACC.out; omega
    go_wp2_with (at_builtin; refine wpList_append_own _ rfl _ _ 25 rfl W4.heap.size 9 i0 (.string ⟨#[]⟩) 1 16 Tryz.underlying25 hi hz0 hz1 hz2 rfl (by decide) _ _ _ rfl (hown3.alloc _) ⟨U3.heap.size,0,none⟩ 1 1 [.string (bs m)] rfl rfl (cell_one_new _ _ _) (by intro u hu; simp at hu; subst hu; rfl) (by unfold maxLen; omega) (by omega) (by simp; omega) ?_; intro v' w3 hown' hgrow _)
    have K1:=hid (show w3.ownsRow W4.heap.size 9 1 v' (k+1) (strV (acc ++ [m])) from by unfold strV; rw [List.map_append]; exact hown')
    have K2:=hid ((RC.out.grown (World.grownBy_alloc _ _ none) (by simp)).grown hgrow (fun e=>by have:=(hown3.lt b e.symm).1; omega))
    have K3:=hid (show w.grownBy w3 none from by
     cases hob:Value.ownBlock _ with
     | none=>rw [hob] at hgrow; exact grown_trans (grown_trans GC.out (World.grownBy_alloc _ _ none)) hgrow
     | some bb=>rw [hob] at hgrow; exact grown_above (grown_trans GC.out (World.grownBy_alloc _ _ none)) hgrow (by have:=(hown3.lt bb hob).1; omega))
    have K4:=hid (show W4.heap.size≤w3.heap.size from by have:=hgrow.size; simp at this; omega)
    clear hgrow hown' hown3
    go_wp2
    go_roundw
    case rel=>exact ⟨k+1,acc ++ [m],p+2+m.length,by omega,by go_num,by simp [HACC.out],hle,K1.out,K2.out,K3.out,K4.out,fun x hx=>(List.mem_append.1 hx).elim (HALL.out x) (fun h=>by rw [List.mem_singleton.1 h]; exact HPV2.out),by rw [HDR.out,HDP.out]; simp,HAR2.out⟩
    case measure=>simp [intOf]; omega
  ·obtain rfl:k=n:=by omega
   have cD:=hid (done_any b s p false wr HRD.out)
   go_wp2_with fail
   refine cD.out.mono ?_
   rintro e U1 ⟨he,kd,rfl⟩
   by_cases c:p=s.size
   ·rw [show (!false && decide (p=s.size))=true from by simp [c]] at he
    subst he
    have AR:=hid (show IsArch (sl s) acc from ⟨by have:=HPV.out; have:=HACC.out; omega,HALL.out,by
     have e1:=HDR.out
     have e0:(sl s).drop p=[]:=List.drop_of_length_le (by rw [HLN.out]; omega)
     rw [e0,List.append_nil] at e1
     unfold arB
     rw [← e1,HACC.out]
     exact HD.out.symm⟩)
    have HO:=hid (own_base hown hw4)
    obtain ⟨av,cv,rfl⟩:=own_form hown
    clear c hown
    go_wp2
    go_ret2
    refine ⟨.inl ⟨acc,_,AR.out,rfl,?_⟩,grown_drewN HG.out _⟩
    rw [HACC.out]
    exact HO.out.kept (grown_drewN (World.grownBy.refl _ none) kd) (by cases (Value.ownBlock _) <;> simp)
   ·rw [show (!false && decide (p=s.size))=false from by simp [c]] at he
    subst he
    have NA:=hid (show ∀ ms,¬ IsArch (sl s) ms from fun ms h=>by
     obtain ⟨h1,ms',h2,h3⟩:=HAR.out ms h
     have h4:=HACC.out
     rw [h2] at h1
     simp only [List.length_append] at h1
     have h5:ms'=[]:=List.eq_nil_of_length_eq_zero (by omega)
     rw [h5] at h3
     have h6:=congrArg List.length h3
     simp only [List.flatMap_nil,List.length_nil,List.length_drop,HLN.out] at h6
     omega)
    clear c
    go_wp2
    go_ret2
    exact ⟨.inr ⟨NA.out,rfl⟩,grown_drewN HG.out _⟩

end Go.Proofs.YtnfgdlkiialnnaaGreatDoor

namespace Go.Proofs.YtnfgdlkiialnnaaGreatDoor
open Go.RowKit

set_option maxHeartbeats 1000000 in
theorem lBase_any (a:Int) (w:World):Calls Tryz.prog 85 #[.int .i64 a] w fun e w'=>Tells e (Im.Base a)∧w'=w:=by
 by_cases h1:4096≤a
 ·by_cases h2:a < 1073741824
  ·exact isBase_any a w (by omega) (by omega)
  ·have N:=hid (show ¬ Im.Base a from fun h=>h2 h.1.2)
   have d1:decide (4096≤a)=true:=by simpa using h1
   have d2:decide (a < 1073741824)=false:=by simpa using h2
   go_enter Tryz.func85,Tryz.ntmps85
   go_wp2
   go_ret
   exact ⟨Tells.no N.out,rfl⟩
 ·have N:=hid (show ¬ Im.Base a from fun h=>h1 h.1.1)
  have d1:decide (4096≤a)=false:=by simpa using h1
  go_enter Tryz.func85,Tryz.ntmps85
  go_wp2
  go_ret
  exact ⟨Tells.no N.out,rfl⟩

open Classical in
/-- the first base that is none -/
noncomputable def baseFlt (bt bf bd:Int):Ln.Flt:=if ¬ Im.Base bt then ⟨30,0,[]⟩ else if ¬ Im.Base bf then ⟨30,1,[]⟩ else if ¬ Im.Base bd then ⟨30,2,[]⟩ else Ln.ok

set_option maxRecDepth 100000 in
set_option maxHeartbeats 4000000 in
theorem checkBases_any (bt bf bd:Int) (w:World) :
  Calls Tryz.prog 58 #[.agg #[.int .i64 bt,.int .i64 bf,.int .i64 bd]] w fun e w'=>e = .returned (lfA (baseFlt bt bf bd))∧w.grownBy w' none:=by
 have cB:=hid (fun a W=>lBase_any a W)
 have hs1:(w.alloc (.cells #[.int .i64 bt,.int .i64 bf,.int .i64 bd] 35)).heap.size=w.heap.size+1:=Array.size_push _
 have G1:=hid (grown_trans (World.grownBy_alloc w (.cells #[.int .i64 bt,.int .i64 bf,.int .i64 bd] 35) none) (World.grownBy_alloc (w.alloc (.cells #[.int .i64 bt,.int .i64 bf,.int .i64 bd] 35)) (.cells #[.int .i64 0,.int .i64 0,.string ⟨#[]⟩] 45) none))
 have B1:=hid (BlkAt.new (w.alloc (.cells #[.int .i64 bt,.int .i64 bf,.int .i64 bd] 35)) #[.int .i64 0,.int .i64 0,.string ⟨#[]⟩] 45)
 rw [hs1] at B1
 clear hs1
 go_enter Tryz.func58,Tryz.ntmps58
 go_wp2
 generalize (w.alloc (.cells #[.int .i64 bt,.int .i64 bf,.int .i64 bd] 35)).alloc (.cells #[.int .i64 0,.int .i64 0,.string ⟨#[]⟩] 45)=W1 at *
 go_loopw [12] (fun i wr=>∃ k:Nat,k≤3∧i = .int .i64 k∧wr=W1∧(0 < k→Im.Base bt)∧(1 < k→Im.Base bf)∧(2 < k→Im.Base bd)) (fun i _=>3 - (intOf i).toNat)
 case atStart=>exact ⟨0,by omega,rfl,rfl,fun c=>by omega,fun c=>by omega,fun c=>by omega⟩
 case round =>
  obtain ⟨k,hk,rfl,rfl,p0,p1,p2⟩:=hrel
  have z0:wr.cell? ⟨w.heap.size+1,0,none⟩=some (.int .i64 0):=B1.out.cell 0
  have z1:wr.cell? ⟨w.heap.size+1,1,none⟩=some (.int .i64 0):=B1.out.cell 1
  have z2:wr.cell? ⟨w.heap.size+1,2,none⟩=some (.string ⟨#[]⟩):=B1.out.cell 2
  have f0:=B1.out.free 0
  have f1:=B1.out.free 1
  have f2:=B1.out.free 2
  rcases (show k=0∨k=1∨k=2∨k=3 by omega) with rfl | rfl | rfl | rfl
  ·have cK:=hid (cB.out bt)
   rw [show ((0:Nat):Int)=0 from rfl]
   have ix:∀ W:World,Sem.run Tryz.prog (Instr.index 150 (.agg #[.int .i64 bt,.int .i64 bf,.int .i64 bd]) (.int .i64 0)) W = .ok (.int .i64 bt) W:=fun _=>by kernel_rfl
   go_wp2_with fail
   refine (cK.out _).mono ?_
   rintro e V ⟨ht,hV⟩
   subst hV
   rcases ht.split with ⟨rfl,hn⟩ | ⟨rfl,hy⟩
   ·have E:=hid (show baseFlt bt bf bd=⟨30,0,[]⟩ by unfold baseFlt; rw [if_pos hn.out])
    go_wp2
    have F:=((B1.out.set 0 (.int .i64 30)).set 1 (.int .i64 0)).set 2 (.string ⟨#[]⟩)
    have h0:=F.cell 0
    have h1:=F.cell 1
    have h2:=F.cell 2
    simp only [List.setIfInBounds_toArray,List.set_cons_succ,List.set_cons_zero,List.getElem?_toArray,List.getElem?_cons_succ,List.getElem?_cons_zero] at h0 h1 h2
    refine bodyPost_ret (v:=lfA ⟨30,0,[]⟩) ?_ rfl ⟨by rw [E.out],sets3_grown G1.out _ (by omega) _ _ _⟩
    clear F z0 z1 z2 f0 f1 f2
    generalize World.setCell _ _ _=WF at *
    simp [results,Tryz.results58,go_sem,lfA,bs,h0,h1,h2]
   ·go_wp2
    go_roundw
    case rel=>exact ⟨1,by omega,by go_num,trivial,fun _=>hy.out,fun c=>by omega,fun c=>by omega⟩
    case measure=>simp [intOf]
  ·have cK:=hid (cB.out bf)
   rw [show ((1:Nat):Int)=1 from rfl]
   have ix:∀ W:World,Sem.run Tryz.prog (Instr.index 150 (.agg #[.int .i64 bt,.int .i64 bf,.int .i64 bd]) (.int .i64 1)) W = .ok (.int .i64 bf) W:=fun _=>by kernel_rfl
   go_wp2_with fail
   refine (cK.out _).mono ?_
   rintro e V ⟨ht,hV⟩
   subst hV
   rcases ht.split with ⟨rfl,hn⟩ | ⟨rfl,hy⟩
   ·have E:=hid (show baseFlt bt bf bd=⟨30,1,[]⟩ by unfold baseFlt; rw [if_neg (fun c=>c (p0 (by omega)))]; rw [if_pos hn.out])
    go_wp2
    have F:=((B1.out.set 0 (.int .i64 30)).set 1 (.int .i64 1)).set 2 (.string ⟨#[]⟩)
    have h0:=F.cell 0
    have h1:=F.cell 1
    have h2:=F.cell 2
    simp only [List.setIfInBounds_toArray,List.set_cons_succ,List.set_cons_zero,List.getElem?_toArray,List.getElem?_cons_succ,List.getElem?_cons_zero] at h0 h1 h2
    refine bodyPost_ret (v:=lfA ⟨30,1,[]⟩) ?_ rfl ⟨by rw [E.out],sets3_grown G1.out _ (by omega) _ _ _⟩
    clear F z0 z1 z2 f0 f1 f2
    generalize World.setCell _ _ _=WF at *
    simp [results,Tryz.results58,go_sem,lfA,bs,h0,h1,h2]
   ·go_wp2
    go_roundw
    case rel=>exact ⟨2,by omega,by go_num,trivial,fun _=>p0 (by omega),fun _=>hy.out,fun c=>by omega⟩
    case measure=>simp [intOf]
  ·have cK:=hid (cB.out bd)
   rw [show ((2:Nat):Int)=2 from rfl]
   have ix:∀ W:World,Sem.run Tryz.prog (Instr.index 150 (.agg #[.int .i64 bt,.int .i64 bf,.int .i64 bd]) (.int .i64 2)) W = .ok (.int .i64 bd) W:=fun _=>by kernel_rfl
   go_wp2_with fail
   refine (cK.out _).mono ?_
   rintro e V ⟨ht,hV⟩
   subst hV
   rcases ht.split with ⟨rfl,hn⟩ | ⟨rfl,hy⟩
   ·have E:=hid (show baseFlt bt bf bd=⟨30,2,[]⟩ by unfold baseFlt; rw [if_neg (fun c=>c (p0 (by omega))),if_neg (fun c=>c (p1 (by omega)))]; rw [if_pos hn.out])
    go_wp2
    have F:=((B1.out.set 0 (.int .i64 30)).set 1 (.int .i64 2)).set 2 (.string ⟨#[]⟩)
    have h0:=F.cell 0
    have h1:=F.cell 1
    have h2:=F.cell 2
    simp only [List.setIfInBounds_toArray,List.set_cons_succ,List.set_cons_zero,List.getElem?_toArray,List.getElem?_cons_succ,List.getElem?_cons_zero] at h0 h1 h2
    refine bodyPost_ret (v:=lfA ⟨30,2,[]⟩) ?_ rfl ⟨by rw [E.out],sets3_grown G1.out _ (by omega) _ _ _⟩
    clear F z0 z1 z2 f0 f1 f2
    generalize World.setCell _ _ _=WF at *
    simp [results,Tryz.results58,go_sem,lfA,bs,h0,h1,h2]
   ·go_wp2
    go_roundw
    case rel=>exact ⟨3,by omega,by go_num,trivial,fun _=>p0 (by omega),fun _=>p1 (by omega),fun _=>hy.out⟩
    case measure=>simp [intOf]
  ·have E:=hid (show baseFlt bt bf bd=Ln.ok by unfold baseFlt; rw [if_neg (fun c=>c (p0 (by omega))),if_neg (fun c=>c (p1 (by omega))),if_neg (fun c=>c (p2 (by omega)))])
   go_wp2
   have F:=((B1.out.set 0 (.int .i64 0)).set 1 (.int .i64 0)).set 2 (.string ⟨#[]⟩)
   have h0:=F.cell 0
   have h1:=F.cell 1
   have h2:=F.cell 2
   simp only [List.setIfInBounds_toArray,List.set_cons_succ,List.set_cons_zero,List.getElem?_toArray,List.getElem?_cons_succ,List.getElem?_cons_zero] at h0 h1 h2
   refine bodyPost_ret (v:=lfA Ln.ok) ?_ rfl ⟨by rw [E.out],sets3_grown G1.out _ (by omega) _ _ _⟩
   clear F z0 z1 z2 f0 f1 f2
   generalize World.setCell _ _ _=WF at *
   simp [results,Tryz.results58,go_sem,lfA,Ln.ok,bs,h0,h1,h2]

end Go.Proofs.YtnfgdlkiialnnaaGreatDoor

namespace Go.Proofs.YtnfgdlkiialnnaaGreatDoor
open Go.RowKit

/-- what bytes are: an object, or an archive -/
def FileIs (l:List UInt8) (a:Bool) (os:List Lk.Obj):Prop :=
 (a=false∧IsObj l∧os=[rawObj l])∨(a=true∧¬ IsObj l∧∃ ms,IsArch l ms∧os=ms.map rawObj)
def NoFile (l:List UInt8):Prop:=¬ IsObj l∧∀ ms,¬ IsArch l ms
def fresh (os:List Lk.Obj):List (Lk.Obj×Bool):=os.map fun o=>(o,false)

theorem Tryz.infoMember:(Tryz.prog.info? 152).map (fun i=>(i.zero,i.size,i.bytes))=some (some (.agg #[.pointer none,.bool false]),2,16):=by kernel_rfl
/-- a file in memory -/
def FileAt (W:World) (B:Nat) (v:Value) (a:Bool) (os:List Lk.Obj):Prop :=
 ∃ mg cap gs,v = .agg #[.bool a,.slice (some ⟨mg,0,none⟩) os.length cap]∧B≤mg∧MemsAt W mg gs (fresh os)∧os.length≤cap∧cap≤maxLen
def ReadFileRet (B:Nat) (l:List UInt8) (e:Ending) (w':World):Prop :=
 (∃ v a os,FileIs l a os∧e = .returned (.tuple #[v,.bool true])∧FileAt w' B v a os)∨(NoFile l∧e = .returned (.tuple #[.agg #[.bool false,.slice none 0 0],.bool false]))

theorem sets2L {w V:World} (h:w.grownBy V none) (r:Nat) (hr:w.heap.size≤r) (a b:Value):w.grownBy ((V.setCell ⟨r,0,none⟩ a).setCell ⟨r,1,none⟩ b) none :=
 grown_hi (grown_hi h (grown_set V r 0 a) (by intro k e; simp at e; omega)) (grown_set _ r 1 b) (by intro k e; simp at e; omega)
theorem frame2 {V:World} {r:Nat} {cs:Array Value} {t:TypeId} (hb:BlkAt V r cs t) (a b:Value):Frame [t] V ((V.setCell ⟨r,0,none⟩ a).setCell ⟨r,1,none⟩ b) :=
 (Frame.row (grown_set V r 0 a) (RowT.blk hb) (by simp)).trans (Frame.row (grown_set _ r 1 b) (RowT.blk (hb.set 0 a)) (by simp))
theorem size2 (V:World) (r:Nat) (a b:Value):((V.setCell ⟨r,0,none⟩ a).setCell ⟨r,1,none⟩ b).heap.size=V.heap.size:=by simp [World.setCell]
def memV (gs:List Nat):List Value:=gs.flatMap fun g=>[ptrV g,.bool false]
theorem memV_get:∀ (gs:List Nat) (i:Nat) (h:i < gs.length),(memV gs)[i * 2]?=some (ptrV gs[i])∧(memV gs)[i * 2+1]?=some (.bool false):=by
 intro gs
 induction gs with
 | nil=>intro i h; simp at h
 | cons g gs ih =>
  intro i h
  cases i with
  | zero=>exact ⟨rfl,rfl⟩
  | succ i =>
   have:=ih i (by simpa using h)
   have e:memV (g :: gs)=ptrV g :: .bool false :: memV gs:=rfl
   rw [e,show (i+1) * 2=i * 2+1+1 by omega]
   simp only [List.getElem?_cons_succ,List.getElem_cons_succ]
   exact this
theorem memV_snoc (gs:List Nat) (g:Nat):memV gs ++ [ptrV g,.bool false]=memV (gs ++ [g]):=by simp [memV]
theorem newsM (U:World) (g:Nat):∀ j u,[ptrV g,Value.bool false][j]?=some u→(U.alloc (.cells #[ptrV g,.bool false] 152)).cell? ((⟨U.heap.size,0,none⟩:Addr).add j)=some u:=by
 intro j u hu
 have e:(⟨U.heap.size,0,none⟩:Addr).add j=⟨U.heap.size,j,none⟩:=by
  unfold Addr.add
  by_cases h0:j=0
  ·subst h0; simp
  ·simp [h0]
 rw [e,(BlkAt.new U #[ptrV g,.bool false] 152).cell j]
 simpa using hu
/-- members as a row that is owned has them -/
theorem mems_of_row {W:World} {mg:Nat} {gs:List Nat} {os:List Lk.Obj} {cur:Array Value} (hb:BlkAt W mg cur 152) (ht:cur.toList.take (gs.length * 2)=memV gs) (hl:gs.length=os.length) (ho:∀ i (h:i < os.length),ObjAt W (gs[i]'(by rw [hl]; exact h)) os[i]) (hs:∀ o∈os,o.syms.length≤65535):MemsAt W mg gs (fresh os):=by
 have fl:(fresh os).length=os.length:=by simp [fresh]
 refine ⟨by rw [fl]; exact hl,⟨cur,hb,fun i hi=>?_⟩,fun i hi=>?_,fun m hm=>?_⟩
 ·rw [fl] at hi
  have hi2:i < gs.length:=by omega
  obtain ⟨q0,q1⟩:=memV_get gs i hi2
  rw [← ht,List.getElem?_take,if_pos (by omega)] at q0
  rw [← ht,List.getElem?_take,if_pos (by omega)] at q1
  have e:(fresh os)[i]'(by rw [fl]; exact hi)=(os[i],false):=by simp [fresh]
  rw [e]
  exact ⟨by simpa using q0,by simpa using q1⟩
 ·rw [fl] at hi
  have e:(fresh os)[i]'(by rw [fl]; exact hi)=(os[i],false):=by simp [fresh]
  rw [e]
  exact ho i hi
 ·simp only [fresh,List.mem_map] at hm
  obtain ⟨o,ho',rfl⟩:=hm
  exact hs o ho'

set_option maxRecDepth 100000 in
set_option maxHeartbeats 8000000 in
theorem readFile_any (s:ByteArray) (w:World) (ht:Tabs w) (hs:s.size≤1048576) :
  Calls Tryz.prog 59 #[.string s] w fun e w'=>ReadFileRet w.heap.size (sl s) e w'∧w.grownBy w' none:=by
 have G0:=hid (World.grownBy_alloc w (.cells #[.bool false,.slice none 0 0] 109) none)
 have B0:=hid (BlkAt.new w #[.bool false,.slice none 0 0] 109)
 have cR:=hid (fun W (hg:w.grownBy W none)=>read_any s W (ht.grown hg) hs)
 have cM:=hid (fun W (hg:w.grownBy W none)=>members_any s W (ht.grown hg) hs)
 have HT:=hid ht
 clear ht
 go_enter Tryz.func59,Tryz.ntmps59
 go_wp2_with fail
 refine (cR.out _ G0.out).mono ?_
 rintro e W1 ⟨hr,hg1⟩
 have G1:=hid (grown_trans G0.out hg1)
 have B1:=hid (B0.out.grown hg1 (by simp))
 clear hg1
 have z0:W1.cell? ⟨w.heap.size,0,none⟩=some (.bool false):=B1.out.cell 0
 have z1:W1.cell? ⟨w.heap.size,1,none⟩=some (.slice none 0 0):=B1.out.cell 1
 have f0:=B1.out.free 0
 have f1:=B1.out.free 1
 have hlt:=B1.out.lt
 rcases hr with ⟨o,g,h1,h2,rfl,h3,h4⟩ | ⟨h1,rfl⟩
 ·have HO:=hid h3
  have HI:=hid (isObj_of_read h1 h2)
  have hne:w.heap.size≠W1.heap.size:=by omega
  have hsy:o.syms.length≤65535:=(good_tame (valid_good h2)).1.2.2.2.2.1
  clear h1 h2 h3 cM cR
  go_wp2
  have F2:=frame2 B1.out (.bool false) (.slice (some ⟨W1.heap.size,0,none⟩) 1 1)
  have GF:=sets2L G1.out w.heap.size (Nat.le_refl _) (.bool false) (.slice (some ⟨W1.heap.size,0,none⟩) 1 1)
  have SZ:=size2 W1 w.heap.size (.bool false) (.slice (some ⟨W1.heap.size,0,none⟩) 1 1)
  have BR:=(B1.out.set 0 (.bool false)).set 1 (.slice (some ⟨W1.heap.size,0,none⟩) 1 1)
  have HO2:=F2.obj HO.out (by decide) (by decide) (by decide) (by decide)
  generalize (W1.setCell ⟨w.heap.size,0,none⟩ (.bool false)).setCell ⟨w.heap.size,1,none⟩ (.slice (some ⟨W1.heap.size,0,none⟩) 1 1)=V at *
  have AL:=World.grownBy_alloc V (.cells #[.pointer (some ⟨g,0,none⟩),.bool false] 152) none
  have BN:=BlkAt.new V #[.pointer (some ⟨g,0,none⟩),.bool false] 152
  rw [SZ] at BN
  have BR2:=BR.grown AL (by simp)
  have h0:=BR2.cell 0
  have h1:=BR2.cell 1
  simp only [List.setIfInBounds_toArray,List.set_cons_succ,List.set_cons_zero,List.getElem?_toArray,List.getElem?_cons_succ,List.getElem?_cons_zero] at h0 h1
  have MM:MemsAt (V.alloc (.cells #[.pointer (some ⟨g,0,none⟩),.bool false] 152)) W1.heap.size [g] (fresh [o]):=mems_of_row BN rfl rfl (fun i hi=>by
   obtain rfl:i=0:=by simp at hi; omega
   exact HO2.kept AL) (fun x hx=>by simp at hx; subst hx; exact hsy)
  refine bodyPost_ret (v:=.tuple #[.agg #[.bool false,.slice (some ⟨W1.heap.size,0,none⟩) 1 1],.bool true]) ?_ rfl ⟨.inl ⟨_,false,[o],.inl ⟨rfl,HI.out.1,by rw [HI.out.2]⟩,rfl,W1.heap.size,1,[g],rfl,by omega,MM,by simp,by decide⟩,grown_trans GF AL⟩
  clear MM BR2 BR AL F2 GF BN z0 z1 f0 f1
  generalize World.alloc _ _=WF at *
  simp [results,Tryz.results59,go_sem,h0,h1]
 ·have HI:=hid (not_isObj_of_read h1)
  clear h1 cR
  go_wp2_with fail
  refine (cM.out _ G1.out).mono ?_
  rintro e W2 ⟨hm,hg2⟩
  have G2:=hid (grown_trans G1.out hg2)
  have B2:=hid (B1.out.grown hg2 (by simp))
  clear z0 z1 f0 f1 cM
  have z0:W2.cell? ⟨w.heap.size,0,none⟩=some (.bool false):=B2.out.cell 0
  have z1:W2.cell? ⟨w.heap.size,1,none⟩=some (.slice none 0 0):=B2.out.cell 1
  have f0:=B2.out.free 0
  have f1:=B2.out.free 1
  rcases hm with ⟨ms,v,hA,rfl,hown⟩ | ⟨hA,rfl⟩
  ·obtain ⟨av,cv,rfl⟩:=own_form hown
   have HA:=hid hA
   have HO:=hid hown
   have hml:=hA.1
   have HOB:=hid hA.2.1
   clear hA hown z0 z1 f0 f1
   have hcv:=own_cap HO.out
   have hX:w.heap.size < W2.heap.size:=B2.out.lt
   have A3:=hid (World.grownBy_alloc W2 (.cells #[.bool true,.slice none 0 0] 109) none)
   have B3:=hid (BlkAt.new W2 #[.bool true,.slice none 0 0] 109)
   have R3:=hid (B2.out.grown A3.out (by simp))
   have S3:=hid (HO.out.alloc (.cells #[.bool true,.slice none 0 0] 109))
   have SZ3:=hid (show (W2.alloc (.cells #[.bool true,.slice none 0 0] 109)).heap.size=W2.heap.size+1 from Array.size_push _)
   have G3:=hid (grown_trans G2.out A3.out)
   obtain ⟨i0,hi,hz0,hz1,hz2⟩:=info_parts Tryz.infoMember
   go_wp2
   generalize W2.alloc (.cells #[.bool true,.slice none 0 0] 109)=W3 at *
   generalize W2.heap.size=X at *
   go_loopw [34] (fun i wr=>∃ (k:Nat) (gs:List Nat) (vm:Value),k≤ms.length∧i = .int .i64 k∧gs.length=k∧BlkAt wr X #[.bool true,vm] 109∧wr.ownsRow (X+1) 152 2 vm k (memV gs)∧(∀ j (h:j < k) (h1:j < gs.length) (h2:j < ms.length),ObjAt wr gs[j] (rawObj ms[j]))∧BlkAt wr w.heap.size #[.bool false,.slice none 0 0] 109∧wr.ownsRow W1.heap.size 9 1 (.slice av ms.length cv) ms.length (strV ms)∧w.grownBy wr none∧X+1≤wr.heap.size) (fun i _=>ms.length - (intOf i).toNat)
   case atStart=>exact ⟨0,[],_,Nat.zero_le _,rfl,rfl,B3.out,World.ownsRow_nil _ _ _ _,fun j h=>by omega,R3.out,S3.out,G3.out,by rw [SZ3.out]; exact Nat.le_refl _⟩
   case round =>
    obtain ⟨k,gs,vm,hk,rfl,hgl,hb,hrow,hob,hres,hstr,hgw,hxs⟩:=hrel
    obtain ⟨am,cm,rfl⟩:=own_form hrow
    have HB:=hid hb
    have HRW:=hid hrow
    have HOJ:=hid hob
    have HRS:=hid hres
    have HST:=hid hstr
    have HGW:=hid hgw
    clear hb hrow hob hres hstr hgw B3 R3 S3
    by_cases hlt:k < ms.length
    ·have hIO:=HOB.out ms[k] (List.getElem_mem hlt)
     have hsz:=isObj_short hIO
     obtain ⟨sg,hsg,-,-,-,hsc⟩:=own_some HST.out (by omega)
     have ck:=hsc k hlt
     rw [show (strV ms)[k]?=some (.string (bs ms[k])) by simp [strV,List.getElem?_map,List.getElem?_eq_getElem hlt]] at ck
     have cR:=hid (read_any (bs ms[k]) wr (HT.out.grown HGW.out) (by rw [bs_size]; omega))
     have g1:(k:Int) < (ms.length:Int):=by omega
     have KI:=hid hIO
     clear hsc hIO hsz
     generalize hmk:ms[k]=mk at *
     have HMK:=hid hmk
     clear hmk
     subst hsg
     go_wp2_with fail
     refine cR.out.mono ?_
     rintro e U5 ⟨hr5,h5⟩
     rcases hr5 with ⟨o,g,q1,q2,rfl,q3,q4⟩ | ⟨q1,rfl⟩
     ·rw [sl_bs] at q1
      have EO:=hid (isObj_of_read q1 q2).2
      have hsy:o.syms.length≤65535:=(good_tame (valid_good q2)).1.2.2.2.2.1
      have OB5:=hid q3
      have HB5:=hid (HB.out.grown h5 (by simp))
      have HR5:=hid (HRW.out.kept h5 (by cases Value.ownBlock _ <;> simp))
      have HJ5:=hid (fun j h h1 h2=>(HOJ.out j h h1 h2).kept h5)
      have RS5:=hid (HRS.out.grown h5 (by simp))
      have ST5:=hid (HST.out.kept h5 (by cases Value.ownBlock _ <;> simp))
      have GW5:=hid (grown_trans HGW.out h5)
      have hx5:X+1≤U5.heap.size:=Nat.le_trans hxs h5.size
      clear q1 q2 q3 cR ck h5 HB HRW HOJ HRS HST HGW
      have x1:U5.cell? ⟨X,1,none⟩=some (.slice am k cm):=HB5.out.cell 1
      have xf:=HB5.out.free 1
      have hcm:=own_cap HR5.out
      have CN:=hid (newsM U5 g)
      have AM:=hid (World.grownBy_alloc U5 (.cells #[ptrV g,.bool false] 152) none)
      have HRA:=hid (HR5.out.alloc (.cells #[ptrV g,.bool false] 152))
      have HBA:=hid (HB5.out.grown AM.out (by simp))
      have hXr:X≠w.heap.size:=by omega
      have STEP:=hid (fun (v':Value) (w3:World) (hown':w3.ownsRow (X+1) 152 2 v' (k+1) (memV gs ++ [ptrV g,.bool false])) (hgrow:(U5.alloc (.cells #[ptrV g,.bool false] 152)).grownBy w3 (Value.ownBlock (.slice am k cm)))=>show (BlkAt w3 X #[.bool true,.slice am k cm] 109)∧∃ (gs':List Nat),gs'.length=k+1∧BlkAt (w3.setCell ⟨X,1,none⟩ v') X #[.bool true,v'] 109∧(w3.setCell ⟨X,1,none⟩ v').ownsRow (X+1) 152 2 v' (k+1) (memV gs')∧(∀ j (h:j < k+1) (h1:j < gs'.length) (h2:j < ms.length),ObjAt (w3.setCell ⟨X,1,none⟩ v') gs'[j] (rawObj ms[j]))∧BlkAt (w3.setCell ⟨X,1,none⟩ v') w.heap.size #[.bool false,.slice none 0 0] 109∧(w3.setCell ⟨X,1,none⟩ v').ownsRow W1.heap.size 9 1 (.slice (some ⟨sg,0,none⟩) ms.length cv) ms.length (strV ms)∧w.grownBy (w3.setCell ⟨X,1,none⟩ v') none∧X+1≤(w3.setCell ⟨X,1,none⟩ v').heap.size by
       have RT:=RowT.own HRA.out
       have b3:=blk_ty HBA.out hgrow RT (by decide)
       have gS:=grown_set w3 X 1 v'
       have RP:=RowT.blk b3
       refine ⟨b3,gs ++ [g],by simp [hgl],b3.set 1 v',?_,fun j h h1 h2=>?_,?_,?_,?_,?_⟩
       ·rw [← memV_snoc]
        exact own_ty hown' gS RP (by decide)
       ·by_cases hjk:j < k
        ·rw [List.getElem_append_left (by omega)]
         exact obj_ty (obj_ty ((HJ5.out j hjk (by omega) h2).kept AM.out) hgrow RT (by decide) (by decide) (by decide) (by decide)) gS RP (by decide) (by decide) (by decide) (by decide)
        ·obtain rfl:j=k:=by omega
         have e1:(gs ++ [g])[j]=g:=by simp [← hgl]
         rw [e1,HMK.out,EO.out]
         exact obj_ty (obj_ty (OB5.out.kept AM.out) hgrow RT (by decide) (by decide) (by decide) (by decide)) gS RP (by decide) (by decide) (by decide) (by decide)
       ·exact (blk_ty (RS5.out.grown AM.out (by simp)) hgrow RT (by decide)).grown gS (by simp; omega)
       ·exact own_ty (own_ty (ST5.out.alloc _) hgrow RT (by decide)) gS RP (by decide)
       ·exact grown_hi (grown_hi (grown_trans GW5.out AM.out) hgrow (fun b e=>by have:=(HRA.out.lt b e).1; omega)) gS (by intro b e; simp at e; omega)
       ·have:=gS.size
        have:=hgrow.size
        have:=AM.out.size
        omega)
      clear HJ5 OB5 RS5 ST5 GW5 HB5
      unfold ptrV at CN HRA STEP
      go_wp2_with (at_builtin; refine wpList_append_at _ rfl _ _ 107 rfl (X+1) 152 i0 (.agg #[.pointer none,.bool false]) 2 16 Tryz.underlying107 hi hz0 hz1 hz2 rfl (by decide) _ _ _ rfl HRA.out ⟨U5.heap.size,0,none⟩ 1 1 [.pointer (some ⟨g,0,none⟩),.bool false] rfl rfl CN.out (by intro u hu; simp at hu; rcases hu with rfl | rfl <;> rfl) (by unfold maxLen; omega) (by omega) (by simp; omega) ?_; intro v' w3 hown' hgrow hblk; obtain ⟨av',cv',rfl⟩:=own_form hown'; obtain ⟨b3,gs',r1,r2,r3,r4,r5,r6,r7,r8⟩:=STEP.out _ _ hown' hgrow; have k1:=b3.cell 1; have k1f:=b3.free 1; have Q1:=hid r2; have Q2:=hid r3; have Q3:=hid r4; have Q4:=hid r5; have Q5:=hid r6; have Q6:=hid r7; have Q7:=hid r8; clear hgrow hown' b3 r2 r3 r4 r5 r6 r7 r8 hblk)
      go_roundw
      case rel=>exact ⟨k+1,gs',_,by omega,by go_num,r1,Q1.out,Q2.out,Q3.out,Q4.out,Q5.out,Q6.out,Q7.out⟩
      case measure=>simp [intOf]; omega
     ·exact absurd KI.out (not_isObj_of_read (by rw [sl_bs] at q1; exact q1))
    ·obtain rfl:k=ms.length:=by omega
     have g3:decide ((ms.length:Int) < (ms.length:Int))=false:=by simp
     have x0:wr.cell? ⟨X,0,none⟩=some (.bool true):=HB.out.cell 0
     have x1:wr.cell? ⟨X,1,none⟩=some (.slice am ms.length cm):=HB.out.cell 1
     have z0:wr.cell? ⟨w.heap.size,0,none⟩=some (.bool false):=HRS.out.cell 0
     have z1:wr.cell? ⟨w.heap.size,1,none⟩=some (.slice none 0 0):=HRS.out.cell 1
     have f0:=HRS.out.free 0
     have f1:=HRS.out.free 1
     have hXr:X≠w.heap.size:=by omega
     have hXr2:w.heap.size≠X:=by omega
     go_wp2
     have F2:=frame2 HRS.out (.bool true) (.slice am ms.length cm)
     have GF:=sets2L HGW.out w.heap.size (Nat.le_refl _) (.bool true) (.slice am ms.length cm)
     have BR:=(HRS.out.set 0 (.bool true)).set 1 (.slice am ms.length cm)
     have h0:=BR.cell 0
     have h1:=BR.cell 1
     simp only [List.setIfInBounds_toArray,List.set_cons_succ,List.set_cons_zero,List.getElem?_toArray,List.getElem?_cons_succ,List.getElem?_cons_zero] at h0 h1
     have RW2:=F2.own HRW.out (by decide)
     have FA:FileAt ((wr.setCell ⟨w.heap.size,0,none⟩ (.bool true)).setCell ⟨w.heap.size,1,none⟩ (.slice am ms.length cm)) w.heap.size (.agg #[.bool true,.slice am ms.length cm]) true (ms.map rawObj):=by
      rcases RW2.2 with ⟨q1,q2⟩ | ⟨mg,cap,cur,hv,hb,hg,r3,r4,r5,r6⟩
      ·omega
      ·simp only [Value.slice.injEq] at hv
       obtain ⟨rfl,-,rfl⟩:=hv
       refine ⟨mg,cm,gs,by simp,by omega,mems_of_row hg (by rw [hgl]; exact r6) (by simp [hgl]) (fun i hi=>?_) (fun o ho=>?_),by simpa using r3,r4⟩
       ·simp only [List.length_map] at hi
        rw [List.getElem_map]
        exact F2.obj (HOJ.out i hi (by omega) hi) (by decide) (by decide) (by decide) (by decide)
       ·obtain ⟨m,hm,rfl⟩:=List.mem_map.1 ho
        exact (good_tame (valid_good (HOB.out m hm).1)).1.2.2.2.2.1
     refine bodyPost_ret (v:=.tuple #[.agg #[.bool true,.slice am ms.length cm],.bool true]) ?_ rfl ⟨.inl ⟨_,true,ms.map rawObj,.inr ⟨rfl,HI.out,ms,HA.out,rfl⟩,rfl,FA⟩,GF⟩
     clear FA RW2 BR GF F2 x0 x1 z0 z1 f0 f1
     generalize World.setCell _ _ _=WF at *
     simp [results,Tryz.results59,go_sem,h0,h1]
  ·have N:=hid (show NoFile (sl s) from ⟨HI.out,hA⟩)
   clear hA
   go_wp2
   have BR:=(B2.out.set 0 (.bool false)).set 1 (.slice none 0 0)
   have h0:=BR.cell 0
   have h1:=BR.cell 1
   simp only [List.setIfInBounds_toArray,List.set_cons_succ,List.set_cons_zero,List.getElem?_toArray,List.getElem?_cons_succ,List.getElem?_cons_zero] at h0 h1
   refine bodyPost_ret (v:=.tuple #[.agg #[.bool false,.slice none 0 0],.bool false]) ?_ rfl ⟨.inr ⟨N.out,rfl⟩,sets2L G2.out w.heap.size (Nat.le_refl _) _ _⟩
   clear BR z0 z1 f0 f1
   generalize World.setCell _ _ _=WF at *
   simp [results,Tryz.results59,go_sem,h0,h1]

end Go.Proofs.YtnfgdlkiialnnaaGreatDoor
