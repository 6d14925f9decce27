/- Walks: relocations brought together. -/
/- The scanner goes forward only. -/
/- What a text's object keeps to, whatever the text says. -/
/- Writing what is no object. -/
/- Walks: a text assembled. -/
/- Texts that are none, and what is told of them: the plain side. -/
/- Walks: Faults. -/
/- Walks: Faults. -/
/- Walks: Back. -/
/- Walks: Back, the whole. -/
import Derived.Test.YtnfgdlkiialnnaaGreatDoorG24
import Derived.Test.YtnfgdlkiialnnaaGreatDoorG06
import Derived.Test.YtnfgdlkiialnnaaGreatDoorG23
import Derived.Test.YtnfgdlkiialnnaaGreatDoorG08
import Derived.Test.YtnfgdlkiialnnaaGreatDoorG04
namespace Go.Proofs.YtnfgdlkiialnnaaGreatDoor
open Go.RowKit

/-- those of the sections 1 to c -/
def relsDone (rs:List Lk.Rel):Nat→List Lk.Rel
 | 0=>[]
 | c+1=>relsDone rs c ++ rs.filter (fun r=>r.sect=((c+1:Nat):Int))
def relsUpTo (rs:List Lk.Rel) (c k:Nat):List Lk.Rel:=relsDone rs c ++ (rs.take k).filter (fun r=>r.sect=((c+1:Nat):Int))
theorem relsUpTo_end (rs:List Lk.Rel) (c:Nat):relsUpTo rs c rs.length=relsDone rs (c+1):=by unfold relsUpTo; rw [List.take_length]; rfl
theorem relsUpTo_zero (rs:List Lk.Rel) (c:Nat):relsUpTo rs c 0=relsDone rs c:=by simp [relsUpTo]
theorem relsUpTo_yes (rs:List Lk.Rel) (c k:Nat) (h:k < rs.length) (he:rs[k].sect=((c+1:Nat):Int)):relsUpTo rs c (k+1)=relsUpTo rs c k ++ [rs[k]]:=by
 unfold relsUpTo
 rw [List.take_succ_eq_append_getElem h,List.filter_append,List.append_assoc]
 congr 1
 rw [List.filter_cons_of_pos (by simpa using he)]
 rfl
theorem relsUpTo_no (rs:List Lk.Rel) (c k:Nat) (h:k < rs.length) (he:¬ rs[k].sect=((c+1:Nat):Int)):relsUpTo rs c (k+1)=relsUpTo rs c k:=by
 unfold relsUpTo
 rw [List.take_succ_eq_append_getElem h,List.filter_append]
 congr 1
 rw [List.filter_cons_of_neg (by simpa using he)]
 simp
theorem relsDone_three (rs:List Lk.Rel):relsDone rs 3=As.orderRels rs:=by
 simp only [relsDone,As.orderRels,List.nil_append]
 rfl
theorem order_le (rs:List Lk.Rel):(As.orderRels rs).length≤rs.length:=by
 unfold As.orderRels
 induction rs with
 | nil=>simp
 | cons r rs ih =>
  simp only [List.length_append,List.length_cons] at ih ⊢
  rcases (show r.sect=1∨r.sect=2∨r.sect=3∨¬ (r.sect=1∨r.sect=2∨r.sect=3) by omega) with h | h | h | h
  ·rw [List.filter_cons_of_pos (by simp [h]),List.filter_cons_of_neg (by simp [h]),List.filter_cons_of_neg (by simp [h])]; simp only [List.length_cons]; omega
  ·rw [List.filter_cons_of_neg (by simp [h]),List.filter_cons_of_pos (by simp [h]),List.filter_cons_of_neg (by simp [h])]; simp only [List.length_cons]; omega
  ·rw [List.filter_cons_of_neg (by simp [h]),List.filter_cons_of_neg (by simp [h]),List.filter_cons_of_pos (by simp [h])]; simp only [List.length_cons]; omega
  ·rw [List.filter_cons_of_neg (by simp; omega),List.filter_cons_of_neg (by simp; omega),List.filter_cons_of_neg (by simp; omega)]; omega
theorem done_le (rs:List Lk.Rel) (c:Nat):(relsDone rs c).length≤c * rs.length:=by
 induction c with
 | zero=>simp [relsDone]
 | succ c ih =>
  have h:=List.length_filter_le (fun r:Lk.Rel=>decide (r.sect=((c+1:Nat):Int))) rs
  simp only [relsDone,List.length_append]
  rw [Nat.succ_mul]
  omega
theorem upTo_le (rs:List Lk.Rel) (c k:Nat) (hc:c≤2) (hr:rs.length≤32):(relsUpTo rs c k).length≤96:=by
 have h1:=done_le rs c
 have h2:=List.length_filter_le (fun r:Lk.Rel=>decide (r.sect=((c+1:Nat):Int))) (rs.take k)
 have h3:(rs.take k).length≤32:=by rw [List.length_take]; omega
 have h4:c * rs.length≤2 * 32:=Nat.mul_le_mul hc hr
 unfold relsUpTo
 rw [List.length_append]
 omega

def withRels (st:As.St) (rs:List Lk.Rel):As.St:={ st with obj:={ st.obj with rels:=rs } }

set_option maxRecDepth 100000 in
set_option maxHeartbeats 8000000 in
theorem orderRelocs_any (B:Nat) (s:ByteArray) (b g:Nat) (st:As.St) (W:World) (h:AsmAt B s b g st W) :
  Calls Tryz.prog 51 #[.pointer (some ⟨b,0,none⟩)] W fun en W'=>en = .returned (.tuple #[])∧Does B s b g W (withRels st (As.orderRels st.obj.rels)) W':=by
 obtain ⟨i2,hi2,hx0,hx1,hx2⟩:=info_parts Tryz.infoRel
 have HW:=hid h
 have c14:=cell_obj h
 obtain ⟨vt,vf,vd,va,vs,vr,ho⟩:=h.own
 obtain ⟨ar,cr,rfl⟩:=own_form ho.rels
 have HO:=hid ho
 have RI:=hid (RelsIn.of_own ho.rels)
 have hcap:=own_cap ho.rels
 have g6:=ho.blk.cell 6
 have fg:=ho.blk.free 6
 simp only [List.getElem?_toArray,List.getElem?_cons_succ,List.getElem?_cons_zero] at g6
 have hn32:=h.ok.rels
 clear ho h
 generalize hrs:st.obj.rels=rs at *
 have HRS:=hid hrs
 clear hrs
 go_enter Tryz.func51,Tryz.ntmps51
 go_wp2
 go_loopw [2,3] (fun v i wr=>∃ c:Nat,c≤3∧i = .int .i64 (c+1:Nat)∧wr.ownsRow W.heap.size 139 5 v (relsDone rs c).length ((relsDone rs c).flatMap relV)∧W.grownBy wr none) (fun _ i _=>4 - (intOf i).toNat)
 case atStart=>exact ⟨0,by omega,rfl,World.ownsRow_nil _ _ _ _,World.grownBy.refl _ _⟩
 case round =>
  obtain ⟨c,hc3,rfl,hown,hgr⟩:=hrel
  obtain ⟨av,cv,rfl⟩:=own_form hown
  have HOW:=hid hown
  have HG:=hid hgr
  have q14:=gcell c14 hgr
  have q6:=gcell g6 hgr
  clear hown hgr
  by_cases hlt:c≤2
  ·have g1:(c:Int)+1≤3:=by omega
   go_wp2
   go_loopw [2,18] (fun v i w2=>∃ k:Nat,k≤rs.length∧i = .int .i64 k∧w2.ownsRow W.heap.size 139 5 v (relsUpTo rs c k).length ((relsUpTo rs c k).flatMap relV)∧W.grownBy w2 none) (fun _ i _=>rs.length - (intOf i).toNat)
   case atStart=>exact ⟨0,Nat.zero_le _,rfl,by rw [relsUpTo_zero]; exact HOW.out,HG.out⟩
   case round =>
    obtain ⟨k,hk,rfl,hown,hgr⟩:=hrel
    obtain ⟨av2,cv2,rfl⟩:=own_form hown
    have HG2:=hid hgr
    have hsz:=hgr.size
    have hle:=upTo_le rs c k hlt hn32
    by_cases hkl:k < rs.length
    ·obtain ⟨sg,hsg,hgs,hcs⟩:=RI.out.grown hgr (by omega)
     obtain ⟨k0,k1,k2,k3,k4⟩:=hcs k hkl
     clear hcs hgr
     subst hsg
     have hk':(k:Int) < (rs.length:Int):=by omega
     have hk2':(k:Int)≤(cr:Int):=by omega
     by_cases e1:rs[k].sect=((c+1:Nat):Int)
     ·have d:(rs[k].sect == (c:Int)+1)=true:=by simp; omega
      have E:=hid (relsUpTo_yes rs c k hkl e1)
      clear e1
      have AG:Hid (W.grownBy ((wr.alloc (.cells #[.int .i64 rs[k].sect,.int .i64 rs[k].off,.int .i64 rs[k].kind,.int .i64 rs[k].sym,.int .i64 rs[k].addend] 139)).alloc (.cells #[.int .i64 rs[k].sect,.int .i64 rs[k].off,.int .i64 rs[k].kind,.int .i64 rs[k].sym,.int .i64 rs[k].addend] 139)) none):=grown_trans (grown_trans HG2.out (World.grownBy_alloc _ _ _)) (World.grownBy_alloc _ _ _)
      go_wp2_with (at_builtin; refine wpList_append_own _ rfl _ _ 88 rfl W.heap.size 139 i2 (.agg #[.int .i64 0,.int .i64 0,.int .i64 0,.int .i64 0,.int .i64 0]) 5 40 Tryz.underlying88 hi2 hx0 hx1 hx2 rfl (by decide) _ _ _ rfl ((hown.alloc _).alloc _) ⟨wr.heap.size+1,0,none⟩ 1 1 (relV rs[k]) rfl rfl (news2 _ _ _ _) (by intro u hu; simp [relV] at hu; rcases hu with rfl | rfl | rfl | rfl | rfl <;> rfl) (by unfold maxLen; omega) (by omega) (by simp; omega) ?_; intro v' w3 hown' hgrow _; obtain ⟨av',cv',rfl⟩:=own_form hown'; have K:=hid (grown_ownN AG.out hgrow (fun b hb=>(hown.lt b hb).1)); have HO3:=hid hown'; clear hgrow hown')
      go_wp2
      go_roundw
      case rel =>
       refine ⟨_,_,_,_,_,_,_,_,_,_,_,_,_,_,_,⟨k+1,by omega,?_,?_,K.out⟩,rfl⟩
       ·go_num
       ·rw [E.out,List.length_append,List.flatMap_append]; simpa using HO3.out
      case measure=>simp [intOf]; omega
     ·have d:(rs[k].sect == (c:Int)+1)=false:=by simp; omega
      have E:=hid (relsUpTo_no rs c k hkl e1)
      have HO2:=hid hown
      clear e1 hown
      go_wp2
      go_roundw
      case rel=>exact ⟨k+1,by omega,by go_num,by rw [E.out]; exact HO2.out.alloc _,grown_trans HG2.out (World.grownBy_alloc _ _ _)⟩
      case measure=>simp [intOf]; omega
    ·obtain rfl:k=rs.length:=by omega
     have HO2:=hid hown
     clear hown hgr
     go_wp2
     go_roundw
     case rel=>exact ⟨c+1,by omega,by go_num,by rw [← relsUpTo_end]; exact HO2.out,HG2.out⟩
     case measure=>simp [intOf]; omega
  ·obtain rfl:c=3:=by omega
   have qf:wr.frozen? ⟨g,6,none⟩=false:=(HO.out.blk.grown HG.out (by simp)).free 6
   go_wp2
   go_end0
   rw [← relsDone_three]
   have gs:=grown_set wr g 6 (.slice av (relsDone rs 3).length cv)
   have hlt0:=HO.out.blk.lt
   have hav:∀ k,Value.ownBlock (.slice av (relsDone rs 3).length cv)=some k→W.heap.size≤k:=fun k hk=>(HOW.out.lt k hk).1
   have nr:NewRow B W (wr.setCell ⟨g,6,none⟩ (.slice av (relsDone rs 3).length cv)) b g (.slice ar rs.length cr) (.slice av (relsDone rs 3).length cv) :=
    ⟨fun k hk _ hkg=>(gs.block k (by have:=HG.out.size; omega) (by simpa using hkg)).trans (HG.out.block k hk (by simp)),fun k hk=>.inr (hav k hk),gs.os.trans HG.out.os,gs.tape.trans HG.out.tape,gs.output.trans HG.out.output,Nat.le_trans HG.out.size gs.size⟩
   have nb:=(HO.out.blk.grown HG.out (by simp)).set 6 (.slice av (relsDone rs 3).length cv)
   have hle:(relsDone rs 3).length≤32:=by rw [relsDone_three]; have:=order_le rs; omega
   refine ⟨rfl,HW.out.newRels HO.out nr (relsDone rs 3) hle (by simpa using nb) ?_⟩
   refine own_base (own_keep_set HOW.out fun k hk e=>?_) HW.out.size
   have:=hav k hk
   omega

end Go.Proofs.YtnfgdlkiialnnaaGreatDoor

namespace Go.Proofs.YtnfgdlkiialnnaaGreatDoor
namespace As

theorem skip_up (f:UInt8→Bool) (s:List UInt8) (p:Nat):p≤skip f s p:=by unfold skip; omega
theorem scanNum_up (s:List UInt8) (p:Nat):p≤(scanNum s p).2.2:=by
 unfold scanNum
 split
 ·simp
 split
 ·exact skip_up _ _ _
 ·exact skip_up _ _ _
theorem nextAt_up (s:List UInt8) (q:Nat):q≤(nextAt s q).2.2:=by
 unfold nextAt
 split
 ·exact Nat.le_refl _
 split
 ·exact Nat.le_refl _
 split
 ·exact scanNum_up s q
 split
 ·exact skip_up _ _ _
 split
 ·exact Nat.le_succ _
 ·exact Nat.le_refl _
theorem next_up (s:List UInt8) (p:Nat):p≤(next s p).2.2:=Nat.le_trans (skip_up _ s p) (nextAt_up s _)
theorem refuse_p (e pos:Nat) (st:St):(refuse e pos st).p=st.p:=by unfold refuse; split <;> rfl
theorem refuseIf_p (c:Bool) (e pos:Nat) (st:St):(refuseIf c e pos st).p=st.p:=by unfold refuseIf; split; exact refuse_p _ _ _; rfl
theorem advance_up (s:List UInt8) (st:St):st.p≤(advance s st).p:=by
 unfold advance
 split
 ·exact Nat.le_refl _
 split
 ·exact next_up s st.p
 ·rw [refuse_p]; exact next_up s st.p
theorem takeWord_up (s:List UInt8) (st:St):st.p≤(takeWord s st).2.p:=by
 unfold takeWord
 split
 ·exact advance_up s st
 ·exact Nat.le_refl _
theorem checkName_p (t:Tok) (st:St):(checkName t st).p=st.p:=by unfold checkName; rw [refuseIf_p,refuseIf_p,refuseIf_p]
theorem symbolNamed_p (t:Tok) (st:St):(symbolNamed t st).2.p=st.p:=by
 unfold symbolNamed
 split
 ·rfl
 split
 ·rfl
 split
 ·exact refuse_p _ _ _
 ·rfl
theorem label_p (t:Tok) (st:St):(label t st).p=st.p:=by
 unfold label
 dsimp only
 have h:=symbolNamed_p t (checkName t st)
 rw [checkName_p] at h
 split
 ·exact h
 split
 ·rw [refuse_p]; exact h
 ·exact h
theorem name_up (s:List UInt8) (st:St):st.p≤(name s st).2.p:=by
 unfold name
 split
 ·have:=advance_up s (checkName st.tok st); rw [checkName_p] at this; exact this
 ·rw [refuse_p]; exact Nat.le_refl _
theorem bind_up (s:List UInt8) (b:Int) (st:St):st.p≤(bind s b st).p:=by
 unfold bind
 dsimp only
 have h:=symbolNamed_p (name s st).1 (name s st).2
 have h2:=name_up s st
 split
 ·omega
 split
 ·rw [refuse_p]; omega
 ·show _≤(symbolNamed (name s st).1 (name s st).2).2.p; omega
theorem sign_up (s c:List UInt8) (st:St):st.p≤(sign s c st).p:=by
 unfold sign
 split
 ·exact advance_up s st
 ·rw [refuse_p]; exact Nat.le_refl _
theorem register_up (s:List UInt8) (st:St):st.p≤(register s st).2.p:=by
 unfold register
 split
 ·split
  ·rw [refuse_p]; exact Nat.le_refl _
  ·exact advance_up s st
 ·rw [refuse_p]; exact Nat.le_refl _
theorem numberFrom_up (s:List UInt8) (neg:Bool) (pos:Nat) (lo hi:Int) (st:St):st.p≤(numberFrom s neg pos lo hi st).2.p:=by
 unfold numberFrom
 generalize (if neg then -(st.tok.n:Int) else (st.tok.n:Int))=x
 split
 ·by_cases h:x < lo∨hi < x
  ·rw [if_pos h,refuse_p]; exact Nat.le_refl _
  ·rw [if_neg h]; exact advance_up s st
 ·rw [refuse_p]; exact Nat.le_refl _
theorem number_up (s:List UInt8) (lo hi:Int) (st:St):st.p≤(number s lo hi st).2.p:=by
 unfold number
 split
 ·exact Nat.le_trans (advance_up s st) (numberFrom_up _ _ _ _ _ _)
 ·exact numberFrom_up _ _ _ _ _ _
theorem symbol_up (s:List UInt8) (st:St):st.p≤(symbol s st).2.p:=by
 unfold symbol
 dsimp only
 rw [symbolNamed_p]
 exact name_up s st
theorem target_up (s:List UInt8) (st:St):st.p≤(target s st).2.p:=by
 unfold target
 dsimp only
 have h:=symbol_up s st
 split
 ·exact Nat.le_trans h (Nat.le_trans (advance_up s _) (number_up _ _ _ _))
 split
 ·exact Nat.le_trans h (Nat.le_trans (advance_up s _) (number_up _ _ _ _))
 ·exact h
theorem place_up (s:List UInt8) (st:St):st.p≤(place s st).2.p :=
 Nat.le_trans (number_up s _ _ st) (Nat.le_trans (sign_up s _ _) (Nat.le_trans (register_up s _) (sign_up s _ _)))
theorem lay_p (ws:List Int) (st:St):(lay ws st).p=st.p:=by
 unfold lay
 split
 ·exact refuse_p _ _ _
 split <;> rfl
theorem layWith_p (kind:Int) (sym:Nat) (addend:Int) (ws:List Int) (st:St):(layWith kind sym addend ws st).p=st.p:=by
 unfold layWith
 dsimp only
 split
 ·exact refuseIf_p _ _ _ _
 ·rw [lay_p]; exact refuseIf_p _ _ _ _
theorem layOne_p (op rd rs1 rs2:Nat) (n:Int) (st:St):(layOne op rd rs1 rs2 n st).p=st.p:=lay_p _ _
theorem layAddress_p (reg op rd rs1 rs2:Nat) (n:Int) (sym:Nat) (addend:Int) (st:St):(layAddress reg op rd rs1 rs2 n sym addend st).p=st.p:=by
 unfold layAddress; rw [layWith_p,refuseIf_p]

theorem up2 {a b c:Nat} (h:a≤b) (k:b≤c):a≤c:=Nat.le_trans h k
theorem threeRegs_up (s:List UInt8) (op:Nat) (st:St):st.p≤(threeRegs s op st).p:=by
 unfold threeRegs; dsimp only; rw [layOne_p]
 exact up2 (register_up s st) (up2 (sign_up s _ _) (up2 (register_up s _) (up2 (sign_up s _ _) (register_up s _))))
theorem twoRegsNum_up (s:List UInt8) (op:Nat) (st:St):st.p≤(twoRegsNum s op st).p:=by
 unfold twoRegsNum; dsimp only; rw [layOne_p]
 exact up2 (register_up s st) (up2 (sign_up s _ _) (up2 (register_up s _) (up2 (sign_up s _ _) (number_up s _ _ _))))
theorem upper_up (s:List UInt8) (st:St):st.p≤(upper s st).p:=by
 unfold upper; dsimp only; rw [layOne_p]
 exact up2 (register_up s st) (up2 (sign_up s _ _) (number_up s _ _ _))
theorem load_up (s:List UInt8) (st:St):st.p≤(load s st).p:=by
 unfold load; dsimp only
 split
 ·rw [layAddress_p]; exact up2 (register_up s st) (up2 (sign_up s _ _) (target_up s _))
 ·rw [layOne_p]; exact up2 (register_up s st) (up2 (sign_up s _ _) (place_up s _))
theorem store_up (s:List UInt8) (st:St):st.p≤(store s st).p:=by
 unfold store; dsimp only
 split
 ·rw [layAddress_p]; exact up2 (register_up s st) (up2 (sign_up s _ _) (up2 (target_up s _) (up2 (sign_up s _ _) (register_up s _))))
 ·rw [layOne_p]; exact up2 (register_up s st) (up2 (sign_up s _ _) (place_up s _))
theorem loadAddress_up (s:List UInt8) (st:St):st.p≤(loadAddress s st).p:=by
 unfold loadAddress; dsimp only; rw [layAddress_p]
 exact up2 (register_up s st) (up2 (sign_up s _ _) (target_up s _))
theorem jumpRegister_up (s:List UInt8) (st:St):st.p≤(jumpRegister s st).p:=by
 unfold jumpRegister; dsimp only; rw [layOne_p]
 exact up2 (register_up s st) (up2 (sign_up s _ _) (place_up s _))
theorem bare_p (st:St):(bare st).p=st.p:=by
 unfold bare
 split
 ·exact layOne_p ..
 split
 ·exact layOne_p ..
 split
 ·exact layOne_p ..
 ·rfl
theorem branch_up (s:List UInt8) (op:Nat) (st:St):st.p≤(branch s op st).p:=by
 unfold branch; dsimp only; rw [layWith_p]
 exact up2 (register_up s st) (up2 (sign_up s _ _) (up2 (register_up s _) (up2 (sign_up s _ _) (symbol_up s _))))
theorem layJump_up (s:List UInt8) (rd:Nat) (st:St):st.p≤(layJump s rd st).p:=by
 unfold layJump; dsimp only; rw [layWith_p]
 exact symbol_up s st
theorem jumpLink_up (s:List UInt8) (st:St):st.p≤(jumpLink s st).p:=by
 unfold jumpLink; dsimp only
 exact up2 (register_up s st) (up2 (sign_up s _ _) (layJump_up s _ _))
theorem move_up (s:List UInt8) (st:St):st.p≤(move s st).p:=by
 unfold move; dsimp only; rw [layOne_p]
 exact up2 (register_up s st) (up2 (sign_up s _ _) (register_up s _))
theorem loadNumber_up (s:List UInt8) (st:St):st.p≤(loadNumber s st).p:=by
 unfold loadNumber; dsimp only
 split
 ·rw [layOne_p]; exact up2 (register_up s st) (up2 (sign_up s _ _) (number_up s _ _ _))
 ·rw [lay_p]; exact up2 (register_up s st) (up2 (sign_up s _ _) (number_up s _ _ _))
theorem call_up (s:List UInt8) (st:St):st.p≤(call s st).p:=by
 unfold call; dsimp only; rw [layWith_p]
 exact symbol_up s st
theorem section_p (st:St):(section' st).p=st.p:=by
 unfold section'
 repeat' split
 all_goals rfl
theorem word_up (s:List UInt8) (st:St):st.p≤(word s st).p:=by
 unfold word; dsimp only
 split
 ·rw [layWith_p]; exact target_up s st
 ·rw [lay_p]; exact number_up s _ _ st
theorem space_up (s:List UInt8) (st:St):st.p≤(space s st).p:=by
 unfold space; dsimp only
 split
 ·rw [lay_p]; exact number_up s _ _ st
 ·rw [refuse_p]; exact number_up s _ _ st
theorem raiseBorder_p (k:Int) (st:St):(raiseBorder k st).p=st.p:=by unfold raiseBorder; split <;> rfl
theorem alignTo_p (b:Nat) (st:St):(alignTo b st).p=st.p:=by
 unfold alignTo
 split
 ·split
  ·exact layWith_p _ _ _ _ _
  ·rfl
 ·exact lay_p _ _
theorem align_up (s:List UInt8) (st:St):st.p≤(align s st).p:=by
 unfold align; dsimp only
 split
 ·exact number_up s _ _ st
 ·rw [raiseBorder_p,alignTo_p]; exact number_up s _ _ st
theorem instruction_up (s:List UInt8) (shape op:Nat) (st:St):st.p≤(instruction s shape op st).p:=by
 unfold instruction
 by_cases h:shape=1
 ·rw [if_pos h]; exact threeRegs_up _ _ _
 rw [if_neg h]
 clear h
 by_cases h:shape=2
 ·rw [if_pos h]; exact twoRegsNum_up _ _ _
 rw [if_neg h]
 clear h
 by_cases h:shape=3
 ·rw [if_pos h]; exact upper_up _ _
 rw [if_neg h]
 clear h
 by_cases h:shape=4
 ·rw [if_pos h]; exact load_up _ _
 rw [if_neg h]
 clear h
 by_cases h:shape=5
 ·rw [if_pos h]; exact store_up _ _
 rw [if_neg h]
 clear h
 by_cases h:shape=6
 ·rw [if_pos h]; exact jumpRegister_up _ _
 rw [if_neg h]
 clear h
 by_cases h:shape=7
 ·rw [if_pos h]; rw [bare_p]; exact Nat.le_refl _
 rw [if_neg h]
 clear h
 by_cases h:shape=8
 ·rw [if_pos h]; exact branch_up _ _ _
 rw [if_neg h]
 clear h
 by_cases h:shape=9
 ·rw [if_pos h]; exact jumpLink_up _ _
 rw [if_neg h]
 clear h
 by_cases h:shape=10
 ·rw [if_pos h]; exact layJump_up _ _ _
 rw [if_neg h]
 clear h
 by_cases h:shape=11
 ·rw [if_pos h]; exact move_up _ _
 rw [if_neg h]
 clear h
 by_cases h:shape=12
 ·rw [if_pos h]; exact loadNumber_up _ _
 rw [if_neg h]
 clear h
 by_cases h:shape=13
 ·rw [if_pos h]; exact call_up _ _
 rw [if_neg h]
 clear h
 by_cases h:shape=14
 ·rw [if_pos h]; exact loadAddress_up _ _
 rw [if_neg h]
 clear h
 exact Nat.le_refl _
theorem directive_up (s:List UInt8) (shape:Nat) (st:St):st.p≤(directive s shape st).p:=by
 unfold directive
 split
 ·rw [section_p]; exact Nat.le_refl _
 split
 ·exact word_up _ _
 split
 ·exact space_up _ _
 split
 ·exact align_up _ _
 split
 ·exact bind_up _ _ _
 ·exact Nat.le_refl _
theorem operation_up (s:List UInt8) (t:Tok) (st:St):st.p≤(operation s t st).p:=by
 unfold operation
 split
 ·rw [refuse_p]; exact Nat.le_refl _
 split
 ·rw [refuse_p]; exact Nat.le_refl _
 split
 ·exact instruction_up _ _ _ { st with op:=t }
 ·exact directive_up _ _ { st with op:=t }
theorem lineOp_up (s:List UInt8) (t:Tok) (st:St):st.p≤(lineOp s t st).p:=by
 unfold lineOp; dsimp only
 have h:st.p≤(if t.kind == 1 then operation s t st else st).p:=by
  split
  ·exact operation_up _ _ _
  ·exact Nat.le_refl _
 generalize (if t.kind == 1 then operation s t st else st)=x at h ⊢
 split
 ·exact h
 ·rw [refuse_p]; exact h
theorem line_up (s:List UInt8) (st:St):st.p≤(line s st).p:=by
 unfold line; dsimp only
 have h:=up2 (advance_up s st) (takeWord_up s (advance s st))
 split
 ·refine up2 h (up2 (Nat.le_of_eq (label_p _ _).symm) (up2 (advance_up s _) (up2 (takeWord_up s _) (lineOp_up _ _ _))))
 ·exact up2 h (lineOp_up _ _ _)
theorem nextLine_up (s:List UInt8) (st:St) (h:(nextLine s st).1=true):st.p < (nextLine s st).2.p∧(nextLine s st).2.p≤s.length:=by
 unfold nextLine at h ⊢
 split at h
 ·cases h
 ·rename_i hf
  rw [if_neg hf]
  have k:=skip_up notEnd s st.p
  unfold lineEnd at h ⊢
  split at h
  ·rename_i hl
   rw [if_pos hl]
   exact ⟨by show st.p < skip notEnd s st.p+1; omega,by show skip notEnd s st.p+1≤s.length; omega⟩
  ·cases h

end As
end Go.Proofs.YtnfgdlkiialnnaaGreatDoor

namespace Go.Proofs.YtnfgdlkiialnnaaGreatDoor
namespace As

structure Tm (o:Lk.Obj):Prop where
 text:o.text.length≤1200
 far:o.far.length≤1200
 data:o.data.length≤64
 bss:0≤o.bss∧o.bss≤64
 names:∀ y∈o.syms,y.name.length≤6
 offs:∀ r∈o.rels,r.off≤4800

theorem secLen_le {o:Lk.Obj} (h:Tm o) (sect:Nat):secLen o sect≤1200:=by
 have h1:=h.text
 have h2:=h.far
 have h3:=h.data
 have h4:=h.bss
 unfold secLen
 repeat' split
 all_goals omega
theorem refuse_obj (e pos:Nat) (st:St):(refuse e pos st).obj=st.obj:=by unfold refuse; split <;> rfl
theorem refuseIf_obj (c:Bool) (e pos:Nat) (st:St):(refuseIf c e pos st).obj=st.obj:=by unfold refuseIf; split; exact refuse_obj _ _ _; rfl
theorem advance_obj (s:List UInt8) (st:St):(advance s st).obj=st.obj:=by
 unfold advance
 split
 ·rfl
 split
 ·rfl
 ·rw [refuse_obj]
theorem takeWord_obj (s:List UInt8) (st:St):(takeWord s st).2.obj=st.obj:=by
 unfold takeWord
 split
 ·exact advance_obj s st
 ·rfl
theorem checkName_obj (t:Tok) (st:St):(checkName t st).obj=st.obj:=by unfold checkName; rw [refuseIf_obj,refuseIf_obj,refuseIf_obj]
theorem name_obj (s:List UInt8) (st:St):(name s st).2.obj=st.obj:=by
 unfold name
 split
 ·show (advance s _).obj=_; rw [advance_obj,checkName_obj]
 ·exact refuse_obj _ _ _
theorem sign_obj (s c:List UInt8) (st:St):(sign s c st).obj=st.obj:=by
 unfold sign
 split
 ·exact advance_obj s st
 ·exact refuse_obj _ _ _
theorem register_obj (s:List UInt8) (st:St):(register s st).2.obj=st.obj:=by
 unfold register
 split
 ·split
  ·exact refuse_obj _ _ _
  ·exact advance_obj _ _
 ·exact refuse_obj _ _ _
theorem numberFrom_obj (s:List UInt8) (neg:Bool) (pos:Nat) (lo hi:Int) (st:St):(numberFrom s neg pos lo hi st).2.obj=st.obj:=by
 unfold numberFrom
 generalize (if neg=true then -(st.tok.n:Int) else (st.tok.n:Int))=v
 split
 ·split
  ·exact refuse_obj _ _ _
  ·exact advance_obj _ _
 ·exact refuse_obj _ _ _
theorem number_obj (s:List UInt8) (lo hi:Int) (st:St):(number s lo hi st).2.obj=st.obj:=by
 unfold number
 split
 ·rw [numberFrom_obj,advance_obj]
 ·rw [numberFrom_obj]
theorem place_obj (s:List UInt8) (st:St):(place s st).2.obj=st.obj:=by
 unfold place; dsimp only
 rw [sign_obj,register_obj,sign_obj,number_obj]

theorem failed_refuse (e pos:Nat) (he:e≠0) (st:St):failed (refuse e pos st)=true:=by
 unfold refuse
 split
 ·assumption
 ·simp [failed,he]
theorem failed_refuseIf (c:Bool) (e pos:Nat) (st:St) (h:failed (refuseIf c e pos st)=false):failed st=false:=by
 unfold refuseIf at h
 split at h
 ·unfold refuse at h
  split at h
  ·exact h
  ·rename_i hf; simpa using hf
 ·exact h
theorem refuseIf_no (c:Bool) (e pos:Nat) (he:e≠0) (st:St) (h:failed (refuseIf c e pos st)=false):c=false:=by
 unfold refuseIf at h
 split at h
 ·rw [failed_refuse e pos he] at h; cases h
 ·rename_i hc; simpa using hc
theorem failed_advance (s:List UInt8) (st:St) (h:failed (advance s st)=false):failed st=false:=by
 unfold advance at h
 split at h
 ·exact h
 ·rename_i hf; simpa using hf
theorem checkName_ok (t:Tok) (st:St) (h:failed (checkName t st)=false):t.text.length≤6:=by
 unfold checkName at h
 have:=refuseIf_no _ _ _ (by decide) _ (failed_refuseIf _ _ _ _ h)
 simpa using this
theorem name_ok (s:List UInt8) (st:St) (h:failed (name s st).2=false):(name s st).1.text.length≤6:=by
 unfold name at h ⊢
 split at h
 ·rename_i hk
  rw [if_pos hk]
  exact checkName_ok _ _ (failed_advance s _ h)
 ·rename_i hk
  rw [if_neg hk]
  exact Nat.zero_le _

theorem symbolNamed_tm (t:Tok) (st:St) (h:Tm st.obj) (ht:failed st=false→t.text.length≤6):Tm (symbolNamed t st).2.obj:=by
 unfold symbolNamed
 split
 ·exact h
 rename_i hf
 have hf':failed st=false:=by simpa using hf
 split
 ·exact h
 split
 ·show Tm (refuse _ _ _).obj; rw [refuse_obj]; exact h
 ·refine ⟨h.text,h.far,h.data,h.bss,fun y hy=>?_,h.offs⟩
  rcases List.mem_append.1 hy with hy | hy
  ·exact h.names y hy
  ·simp at hy; subst hy; exact ht hf'
theorem mem_modify {α:Type} (l:List α) (i:Nat) (f:α→α) (y:α) (h:y∈l.modify i f):∃ x∈l,y=x∨y=f x:=by
 obtain ⟨j,hj,rfl⟩:=List.getElem_of_mem h
 rw [List.getElem_modify]
 refine ⟨l[j]'(by simpa using hj),List.getElem_mem _,?_⟩
 split
 ·exact .inr rfl
 ·exact .inl rfl
theorem setSym_tm (st:St) (i:Nat) (f:Lk.Sym→Lk.Sym) (h:Tm st.obj) (hf:∀ y,(f y).name=y.name):Tm (setSym st i f).obj:=by
 refine ⟨h.text,h.far,h.data,h.bss,fun y hy=>?_,h.offs⟩
 obtain ⟨x,hx,rfl | rfl⟩:=mem_modify _ _ _ _ hy
 ·exact h.names _ hx
 ·rw [hf]; exact h.names _ hx
theorem label_tm (t:Tok) (st:St) (h:Tm st.obj):Tm (label t st).obj:=by
 unfold label; dsimp only
 have k:=symbolNamed_tm t (checkName t st) (by rw [checkName_obj]; exact h) (checkName_ok t st)
 split
 ·exact k
 split
 ·rw [refuse_obj]; exact k
 ·exact setSym_tm _ _ _ k fun _=>rfl
theorem bind_tm (s:List UInt8) (binding:Int) (st:St) (h:Tm st.obj):Tm (bind s binding st).obj:=by
 unfold bind; dsimp only
 have k:=symbolNamed_tm (name s st).1 (name s st).2 (by rw [name_obj]; exact h) (name_ok s st)
 split
 ·exact k
 split
 ·rw [refuse_obj]; exact k
 ·exact setSym_tm _ _ _ k fun _=>rfl
theorem symbol_tm (s:List UInt8) (st:St) (h:Tm st.obj):Tm (symbol s st).2.obj:=symbolNamed_tm (name s st).1 (name s st).2 (by rw [name_obj]; exact h) (name_ok s st)
theorem target_tm (s:List UInt8) (st:St) (h:Tm st.obj):Tm (target s st).2.obj:=by
 unfold target; dsimp only
 have k:=symbol_tm s st h
 split
 ·rw [number_obj,advance_obj]; exact k
 split
 ·rw [number_obj,advance_obj]; exact k
 ·exact k
theorem addWords_tm (o:Lk.Obj) (sect:Nat) (ws:List Int) (h:Tm o) (hl:¬ 4 * limit sect < 4 * secLen o sect+4 * (ws.length:Int)):Tm (addWords o sect ws):=by
 unfold limit secLen at hl
 have h4:=h.bss
 unfold addWords
 split
 ·rename_i e; subst e
  simp at hl
  exact ⟨by simp; omega,h.far,h.data,h.bss,h.names,h.offs⟩
 split
 ·rename_i e; subst e
  simp at hl
  exact ⟨h.text,by simp; omega,h.data,h.bss,h.names,h.offs⟩
 split
 ·rename_i e; subst e
  simp at hl
  exact ⟨h.text,h.far,by simp; omega,h.bss,h.names,h.offs⟩
 split
 ·rename_i e; subst e
  simp at hl
  exact ⟨h.text,h.far,h.data,by simp; omega,h.names,h.offs⟩
 ·exact h
theorem lay_tm (ws:List Int) (st:St) (h:Tm st.obj):Tm (lay ws st).obj:=by
 unfold lay
 split
 ·rw [refuse_obj]; exact h
 split
 ·exact h
 ·rename_i hl _
  exact addWords_tm _ _ _ h hl
theorem layWith_tm (kind:Int) (sym:Nat) (addend:Int) (ws:List Int) (st:St) (h:Tm st.obj):Tm (layWith kind sym addend ws st).obj:=by
 unfold layWith; dsimp only
 have k:Tm (refuseIf (decide (32≤st.obj.rels.length)) 12 st.op.pos st).obj:=by rw [refuseIf_obj]; exact h
 split
 ·exact k
 ·refine lay_tm _ _ ⟨k.text,k.far,k.data,k.bss,k.names,fun r hr=>?_⟩
  rcases List.mem_append.1 hr with hr | hr
  ·exact k.offs r hr
  ·simp at hr; subst hr
   have:=secLen_le k (refuseIf (decide (32≤st.obj.rels.length)) 12 st.op.pos st).sect
   show 4 * _≤(4800:Int)
   omega
theorem layOne_tm (op rd rs1 rs2:Nat) (n:Int) (st:St) (h:Tm st.obj):Tm (layOne op rd rs1 rs2 n st).obj:=lay_tm _ _ h
theorem layAddress_tm (reg op rd rs1 rs2:Nat) (n:Int) (sym:Nat) (addend:Int) (st:St) (h:Tm st.obj):Tm (layAddress reg op rd rs1 rs2 n sym addend st).obj:=by
 unfold layAddress
 exact layWith_tm _ _ _ _ _ (by rw [refuseIf_obj]; exact h)
theorem ite_tm {c:Prop} [Decidable c] {a b:St} (ha:Tm a.obj) (hb:Tm b.obj):Tm (if c then a else b).obj:=by
 by_cases h:c
 ·rw [if_pos h]; exact ha
 ·rw [if_neg h]; exact hb
section
variable (s:List UInt8) (op:Nat) (st:St) (h:Tm st.obj)
include h
theorem threeRegs_tm:Tm (threeRegs s op st).obj:=by unfold threeRegs; dsimp only; refine layOne_tm _ _ _ _ _ _ ?_; rw [register_obj,sign_obj,register_obj,sign_obj,register_obj]; exact h
theorem twoRegsNum_tm:Tm (twoRegsNum s op st).obj:=by unfold twoRegsNum; dsimp only; refine layOne_tm _ _ _ _ _ _ ?_; rw [number_obj,sign_obj,register_obj,sign_obj,register_obj]; exact h
theorem upper_tm:Tm (upper s st).obj:=by unfold upper; dsimp only; refine layOne_tm _ _ _ _ _ _ ?_; rw [number_obj,sign_obj,register_obj]; exact h
theorem load_tm:Tm (load s st).obj:=by
 unfold load; dsimp only
 refine ite_tm ?_ ?_
 ·refine layAddress_tm _ _ _ _ _ _ _ _ _ (target_tm s _ ?_); rw [sign_obj,register_obj]; exact h
 ·refine layOne_tm _ _ _ _ _ _ ?_; rw [place_obj,sign_obj,register_obj]; exact h
theorem store_tm:Tm (store s st).obj:=by
 unfold store; dsimp only
 refine ite_tm ?_ ?_
 ·refine layAddress_tm _ _ _ _ _ _ _ _ _ ?_; rw [register_obj,sign_obj]; refine target_tm s _ ?_; rw [sign_obj,register_obj]; exact h
 ·refine layOne_tm _ _ _ _ _ _ ?_; rw [place_obj,sign_obj,register_obj]; exact h
theorem jumpRegister_tm:Tm (jumpRegister s st).obj:=by unfold jumpRegister; dsimp only; refine layOne_tm _ _ _ _ _ _ ?_; rw [place_obj,sign_obj,register_obj]; exact h
theorem bare_tm:Tm (bare st).obj:=by
 unfold bare
 exact ite_tm (layOne_tm _ _ _ _ _ _ h) (ite_tm (layOne_tm _ _ _ _ _ _ h) (ite_tm (layOne_tm _ _ _ _ _ _ h) h))
theorem branch_tm:Tm (branch s op st).obj:=by unfold branch; dsimp only; refine layWith_tm _ _ _ _ _ (symbol_tm s _ ?_); rw [sign_obj,register_obj,sign_obj,register_obj]; exact h
theorem layJump_tm (rd:Nat):Tm (layJump s rd st).obj:=by unfold layJump; dsimp only; exact layWith_tm _ _ _ _ _ (symbol_tm s _ h)
theorem move_tm:Tm (move s st).obj:=by unfold move; dsimp only; refine layOne_tm _ _ _ _ _ _ ?_; rw [register_obj,sign_obj,register_obj]; exact h
theorem loadNumber_tm:Tm (loadNumber s st).obj:=by
 unfold loadNumber; dsimp only
 refine ite_tm ?_ ?_
 ·refine layOne_tm _ _ _ _ _ _ ?_; rw [number_obj,sign_obj,register_obj]; exact h
 ·refine lay_tm _ _ ?_; rw [number_obj,sign_obj,register_obj]; exact h
theorem call_tm:Tm (call s st).obj:=by unfold call; dsimp only; exact layWith_tm _ _ _ _ _ (symbol_tm s _ h)
theorem loadAddress_tm:Tm (loadAddress s st).obj:=by unfold loadAddress; dsimp only; refine layAddress_tm _ _ _ _ _ _ _ _ _ (target_tm s _ ?_); rw [sign_obj,register_obj]; exact h
end
theorem jumpLink_tm (s:List UInt8) (st:St) (h:Tm st.obj):Tm (jumpLink s st).obj:=by unfold jumpLink; dsimp only; refine layJump_tm s _ ?_ _; rw [sign_obj,register_obj]; exact h
theorem instruction_tm (s:List UInt8) (shape op:Nat) (st:St) (h:Tm st.obj):Tm (instruction s shape op st).obj:=by
 unfold instruction
 exact ite_tm (threeRegs_tm s op st h) (ite_tm (twoRegsNum_tm s op st h) (ite_tm (upper_tm s st h) (ite_tm (load_tm s st h) (ite_tm (store_tm s st h) (ite_tm (jumpRegister_tm s st h) (ite_tm (bare_tm st h) (ite_tm (branch_tm s op st h) (ite_tm (jumpLink_tm s st h) (ite_tm (layJump_tm s st h 0) (ite_tm (move_tm s st h) (ite_tm (loadNumber_tm s st h) (ite_tm (call_tm s st h) (ite_tm (loadAddress_tm s st h) h)))))))))))))
theorem section_obj (st:St):(section' st).obj=st.obj:=by unfold section'; (repeat' split) <;> rfl
theorem directive_tm (s:List UInt8) (shape:Nat) (st:St) (h:Tm st.obj):Tm (directive s shape st).obj:=by
 unfold directive
 split
 ·rw [section_obj]; exact h
 split
 ·unfold word; dsimp only
  split
  ·exact layWith_tm _ _ _ _ _ (target_tm s _ h)
  ·refine lay_tm _ _ ?_; rw [number_obj]; exact h
 split
 ·unfold space; dsimp only
  split
  ·refine lay_tm _ _ ?_; rw [number_obj]; exact h
  ·rw [refuse_obj,number_obj]; exact h
 split
 ·unfold align; dsimp only
  have k:Tm (number s 2 4 st).2.obj:=by rw [number_obj]; exact h
  split
  ·exact k
  ·have k2:Tm (alignTo (2 ^ (number s 2 4 st).1.toNat) (number s 2 4 st).2).obj:=by
    unfold alignTo
    split
    ·split
     ·exact layWith_tm _ _ _ _ _ k
     ·exact k
    ·exact lay_tm _ _ k
   unfold raiseBorder
   split
   ·exact ⟨k2.text,k2.far,k2.data,k2.bss,k2.names,k2.offs⟩
   ·exact k2
 split
 ·unfold binding; exact bind_tm s _ _ h
 ·exact h
theorem operation_tm (s:List UInt8) (t:Tok) (st:St) (h:Tm st.obj):Tm (operation s t st).obj:=by
 unfold operation
 split
 ·rw [refuse_obj]; exact h
 split
 ·rw [refuse_obj]; exact h
 split
 ·exact instruction_tm s _ _ _ h
 ·exact directive_tm s _ _ h
theorem lineOp_tm (s:List UInt8) (t:Tok) (st:St) (h:Tm st.obj):Tm (lineOp s t st).obj:=by
 unfold lineOp; dsimp only
 have k:Tm (if t.kind == 1 then operation s t st else st).obj:=ite_tm (operation_tm s t st h) h
 exact ite_tm k (by rw [refuse_obj]; exact k)
theorem line_tm (s:List UInt8) (st:St) (h:Tm st.obj):Tm (line s st).obj:=by
 unfold line; dsimp only
 split
 ·refine lineOp_tm s _ _ ?_
  rw [takeWord_obj,advance_obj]
  refine label_tm _ _ ?_
  rw [takeWord_obj,advance_obj]; exact h
 ·refine lineOp_tm s _ _ ?_
  rw [takeWord_obj,advance_obj]; exact h
theorem nextLine_obj (s:List UInt8) (st:St):(nextLine s st).2.obj=st.obj:=by unfold nextLine; split <;> rfl
theorem lines_tm (s:List UInt8) (n:Nat) (st:St) (h:Tm st.obj):Tm (lines s n st).obj:=by
 induction n generalizing st with
 | zero=>exact h
 | succ n ih =>
  unfold lines; dsimp only
  have k:Tm (nextLine s (line s st)).2.obj:=by rw [nextLine_obj]; exact line_tm s st h
  split
  ·exact ih _ k
  ·exact k
theorem start_tm:Tm start.obj:=⟨by decide,by decide,by decide,by decide,by simp [start],by simp [start]⟩

end As
end Go.Proofs.YtnfgdlkiialnnaaGreatDoor

namespace Go.Proofs.YtnfgdlkiialnnaaGreatDoor
open Go.RowKit

set_option maxHeartbeats 1000000 in
theorem write_no (g:Nat) (o:Lk.Obj) (w:World) (ht:Tabs w) (h:ObjAt w g o) (hn:Tame o) (hv:¬ Valid o) :
  Calls Tryz.prog 52 #[.pointer (some ⟨g,0,none⟩)] w fun e w'=>e = .returned (.tuple #[.string ⟨#[]⟩,.int .i64 20])∧w.grownBy w' none:=by
 have cV:=hid (valid_any g o w ht h hn)
 have HV:=hid hv
 clear ht h hv hn
 go_enter Tryz.func52,Tryz.ntmps52
 go_wp2_with fail
 refine cV.out.mono ?_
 rintro e W1 ⟨tv,q1⟩
 rcases tv.split with ⟨rfl,_⟩ | ⟨_,p⟩
 ·have Q:=hid q1
  clear q1
  go_wp2
  go_ret2
  exact ⟨rfl,Q.out⟩
 ·exact absurd p.out HV.out

/-- what is written of an object, be it one or not -/
theorem write_said (g:Nat) (o:Lk.Obj) (w:World) (ht:Tabs w) (h:ObjAt w g o) (hn:Tame o) :
  Calls Tryz.prog 52 #[.pointer (some ⟨g,0,none⟩)] w fun e w'=>((e = .returned (.tuple #[.string (bs (Lk.objB o)),.int .i64 0])∧Valid o)∨(e = .returned (.tuple #[.string (bs []),.int .i64 20])∧¬ Valid o))∧w.grownBy w' none:=by
 by_cases hv:Valid o
 ·exact (write_yes g o w ht h (valid_good hv) hv).mono fun e w' k=>⟨.inl ⟨k.1,hv⟩,k.2⟩
 ·exact (write_no g o w ht h hn hv).mono fun e w' k=>⟨.inr ⟨k.1,hv⟩,k.2⟩

end Go.Proofs.YtnfgdlkiialnnaaGreatDoor

namespace Go.Proofs.YtnfgdlkiialnnaaGreatDoor
open Go.RowKit

/-- what Assemble tells of a text -/
def Told (s t:List UInt8) (fe fa:Nat):Prop :=
 ((As.assemble s).1.1≠0∧t=[]∧fe=(As.assemble s).1.1∧fa=(As.assemble s).1.2) ∨
 ((As.assemble s).1.1=0∧Valid (As.assemble s).2∧t=Lk.objB (As.assemble s).2∧fe=0∧fa=0) ∨
 ((As.assemble s).1.1=0∧¬ Valid (As.assemble s).2∧t=[]∧fe=20∧fa=0)

def faultA (fe fa:Nat):Value:=.agg #[.int .i64 fe,.int .i64 fa,.string ⟨#[]⟩]
def faultC (fe fa:Nat):Array Value:=#[.int .i64 fe,.int .i64 fa,.string ⟨#[]⟩]

/-- where Assemble's loop begins -/
def asmW (s:ByteArray) (w:World):World :=
 (((w.alloc (.cells (faultC 0 0) 45)).alloc (.cells (asmCells s (w.heap.size+1+1+1) As.start) 86)).alloc (.cells #[.int .i64 2,.int .i64 2,.int .i64 2,.int .i64 2] 3)).alloc
  (.cells #[.slice none 0 0,.slice none 0 0,.slice none 0 0,.int .i64 0,.slice (some ⟨w.heap.size+1+1,0,none⟩) 4 4,.slice none 0 0,.slice none 0 0] 90)

theorem asmW_grown (s:ByteArray) (w:World):w.grownBy (asmW s w) none :=
 grown_trans (grown_trans (grown_trans (World.grownBy_alloc _ _ _) (World.grownBy_alloc _ _ _)) (World.grownBy_alloc _ _ _)) (World.grownBy_alloc _ _ _)
theorem asmW_fault (s:ByteArray) (w:World):BlkAt (asmW s w) w.heap.size (faultC 0 0) 45 :=
 (BlkAt.new w (faultC 0 0) 45).grown (grown_trans (grown_trans (World.grownBy_alloc _ _ none) (World.grownBy_alloc _ _ none)) (World.grownBy_alloc _ _ none)) (by simp)
theorem size_alloc (w:World) (o:Obj):(w.alloc o).heap.size=w.heap.size+1:=Array.size_push _
theorem start_ok (s:ByteArray) (hs:s.size≤1000):StOk s As.start :=
 ⟨hs,Nat.zero_le _,tokNil_ok,by decide,by decide,tokNil_ok,by decide,by decide,by decide,by decide,by decide,by decide,by decide,by decide⟩
theorem asmW_at (s:ByteArray) (w:World) (ht:Tabs w) (hB:3≤w.heap.size) (hs:s.size≤1000) :
  AsmAt w.heap.size s (w.heap.size+1) (w.heap.size+1+1+1) As.start (asmW s w):=by
 have b1:=BlkAt.new (w.alloc (.cells (faultC 0 0) 45)) (asmCells s (w.heap.size+1+1+1) As.start) 86
 have b2:=BlkAt.new ((w.alloc (.cells (faultC 0 0) 45)).alloc (.cells (asmCells s (w.heap.size+1+1+1) As.start) 86)) #[.int .i64 2,.int .i64 2,.int .i64 2,.int .i64 2] 3
 have b3:=BlkAt.new (((w.alloc (.cells (faultC 0 0) 45)).alloc (.cells (asmCells s (w.heap.size+1+1+1) As.start) 86)).alloc (.cells #[.int .i64 2,.int .i64 2,.int .i64 2,.int .i64 2] 3)) #[.slice none 0 0,.slice none 0 0,.slice none 0 0,.int .i64 0,.slice (some ⟨w.heap.size+1+1,0,none⟩) 4 4,.slice none 0 0,.slice none 0 0] 90
 rw [size_alloc] at b1
 rw [size_alloc,size_alloc] at b2
 rw [size_alloc,size_alloc,size_alloc] at b3
 refine ⟨b1.grown (grown_trans (World.grownBy_alloc _ _ none) (World.grownBy_alloc _ _ none)) (by simp),⟨.slice none 0 0,.slice none 0 0,.slice none 0 0,.slice (some ⟨w.heap.size+1+1,0,none⟩) 4 4,.slice none 0 0,.slice none 0 0,?_⟩,⟨hB,by omega,by omega,by omega⟩,start_ok s hs,ht.grown (asmW_grown s w)⟩
 refine ⟨b3,World.ownsRow_nil _ _ _ _,World.ownsRow_nil _ _ _ _,World.ownsRow_nil _ _ _ _,⟨rfl,.inr ⟨w.heap.size+1+1,4,#[.int .i64 2,.int .i64 2,.int .i64 2,.int .i64 2],rfl,by omega,b2.grown (World.grownBy_alloc _ _ none) (by simp),Nat.le_refl 4,by decide,rfl,rfl⟩⟩,World.ownsRow_nil _ _ _ _,World.ownsRow_nil _ _ _ _,?_⟩
 unfold Apart blkV Value.ownBlock
 simp
 omega

theorem fin_grown {w W V:World} (h:w.grownBy W none) (hb:Below w.heap.size W V):w.grownBy V none :=
 ⟨hb.os.trans h.os,hb.tape.trans h.tape,hb.output.trans h.output,Nat.le_trans h.size hb.size,fun i hi _=>(hb.block i hi).trans (h.block i hi (by simp))⟩
theorem fin_sets {w V:World} (h:w.grownBy V none) (r:Nat) (hr:w.heap.size≤r) (l:List (Nat×Value)):w.grownBy (sets V r l) none:=by
 have g:=sets_grown V r l
 exact ⟨g.os.trans h.os,g.tape.trans h.tape,g.output.trans h.output,Nat.le_trans h.size g.size,fun i hi _=>(g.block i (Nat.lt_of_lt_of_le hi h.size) (by simp; omega)).trans (h.block i hi (by simp))⟩
theorem mem_order {rs:List Lk.Rel} {r:Lk.Rel} (h:r∈As.orderRels rs):r∈rs:=by
 unfold As.orderRels at h
 simp only [List.mem_append,List.mem_filter] at h
 rcases h with (h | h) | h <;> exact h.1
theorem finish_tame {s:ByteArray} {st:As.St} (hok:StOk s st) (h:As.Tm st.obj):Tame (As.finish st.obj):=by
 have h1:=hok.syms
 have h2:=hok.rels
 have h3:=hok.align
 have h4:=order_le st.obj.rels
 refine ⟨⟨?_,?_,?_,?_,?_,?_⟩,fun y hy=>?_,fun r hr=>?_⟩
 ·have:=h.text; show st.obj.text.length≤_; omega
 ·have:=h.far; show st.obj.far.length≤_; omega
 ·have:=h.data; show st.obj.data.length≤_; omega
 ·show st.obj.align.length≤_; omega
 ·show (As.bindRest st.obj.syms).length≤_; simp [As.bindRest]; omega
 ·show (As.orderRels st.obj.rels).length≤_; omega
 ·obtain ⟨x,hx,rfl⟩:=List.mem_map.1 hy
  have:=h.names x hx
  split <;> simp <;> omega
 ·have:=h.offs r (mem_order hr); omega

def Looped (s:ByteArray) (w:World) (m:Value) (wr:World):Prop :=
 ∃ st:As.St,Does w.heap.size s (w.heap.size+1) (w.heap.size+1+1+1) (asmW s w) st wr ∧
  ((m = .bool true∧∃ n,As.lines (sl s) (s.size+1) As.start=As.lines (sl s) n st∧s.size - st.p+1≤n)∨(m = .bool false∧As.lines (sl s) (s.size+1) As.start=st))
def loopM (s:ByteArray) (w:World) (m:Value) (wr:World):Nat:=match m with
 | .bool true=>s.size - posOf (w.heap.size+1) wr+1
 | _=>0
theorem AsmAt.pos {B:Nat} {s:ByteArray} {b g:Nat} {st:As.St} {W:World} (h:AsmAt B s b g st W):posOf b W=st.p:=by
 have:=asm_cell h 1
 simp only [asmCells,List.getElem?_toArray,List.getElem?_cons_succ,List.getElem?_cons_zero] at this
 unfold posOf
 rw [this]
 simp

set_option maxRecDepth 100000 in
set_option maxHeartbeats 8000000 in
theorem assemble_any (s:ByteArray) (w:World) (ht:Tabs w) (hN:NTab w) (hB:3≤w.heap.size) :
  Calls Tryz.prog 29 #[.string s] w fun e w'=>(∃ t fe fa,e = .returned (.tuple #[.string (bs t),faultA fe fa])∧Told (sl s) t fe fa)∧w.grownBy w' none:=by
 have HT:=hid ht
 have HN:=hid hN
 clear ht hN
 by_cases hl:1000 < s.size
 ·have d:decide (1000 < (s.size:Int))=true:=by simp; omega
  have RA:=hid (show As.assemble (sl s)=((1,0),As.start.obj) by unfold As.assemble; rw [sl_length,if_pos hl])
  go_enter Tryz.func29,Tryz.ntmps29
  go_wp2
  refine bodyPost_ret (v:=.tuple #[.string (bs []),faultA 1 0]) ?_ rfl ⟨⟨[],1,0,rfl,.inl ⟨by rw [RA.out]; decide,rfl,by rw [RA.out],by rw [RA.out]⟩⟩,World.grownBy_alloc _ _ _⟩
  simp [results,Tryz.results29,go_sem,faultA,bs]
 ·have d:decide (1000 < (s.size:Int))=false:=by simp; omega
  have RA:=hid (show As.assemble (sl s)=(((As.lines (sl s) (s.size+1) As.start).fe,(As.lines (sl s) (s.size+1) As.start).fa),As.finish (As.lines (sl s) (s.size+1) As.start).obj) by unfold As.assemble; rw [sl_length,if_neg hl])
  have AT:=hid (asmW_at s w HT.out hB (by omega))
  have AG:=hid (asmW_grown s w)
  have AF:=hid (asmW_fault s w)
  have TM:=hid (As.lines_tm (sl s) (s.size+1) As.start As.start_tm)
  go_enter Tryz.func29,Tryz.ntmps29
  go_wp2
  go_loopw [5] (fun m wr=>Looped s w m wr) (fun m wr=>loopM s w m wr)
  case atStart=>exact ⟨As.start,AT.out.does,.inl ⟨rfl,s.size+1,rfl,by omega⟩⟩
  case round =>
   obtain ⟨st,hd,⟨rfl,n,hn,hle⟩ | ⟨rfl,hn⟩⟩:=hrel
   ·have D:=hid hd
    have EN:=hid hn
    have HL:=hid hle
    have N2:=hid (HN.out.below (grown_below (fin_grown AG.out D.out.2.1) (Nat.le_refl _) (by simp)) hB)
    clear hd hn hle
    go_wp2_with fail
    refine (line_any _ s _ _ st wr D.out.1 N2.out).mono ?_
    rintro e V1 ⟨rfl,h1⟩
    have D1:=hid (D.out.after h1)
    clear h1
    go_wp2_with fail
    refine (aNextLine_any _ s _ _ _ V1 D1.out.1).mono ?_
    rintro e V2 ⟨rfl,h2⟩
    have D2:=hid (D1.out.afterB h2)
    clear h2
    cases hr:(As.nextLine (sl s) (As.line (sl s) st)).1
    ·have R:=hid hr
     clear hr
     go_wp2
     go_roundw
     case rel =>
      refine ⟨_,D2.out,.inr ⟨rfl,?_⟩⟩
      rw [EN.out]
      obtain ⟨k,rfl⟩:∃ k,n=k+1:=⟨n - 1,by have:=HL.out; omega⟩
      simp only [As.lines]
      rw [R.out]
      simp
     case measure=>simp [loopM]
    ·have R:=hid hr
     clear hr
     go_wp2
     go_roundw
     case rel =>
      have u1:=As.line_up (sl s) st
      have u2:=As.nextLine_up (sl s) (As.line (sl s) st) R.out
      rw [sl_length] at u2
      have hl2:=HL.out
      obtain ⟨k,rfl⟩:∃ k,n=k+1:=⟨n - 1,by omega⟩
      refine ⟨_,D2.out,.inl ⟨rfl,k,?_,by omega⟩⟩
      rw [EN.out]
      simp only [As.lines]
      rw [R.out]
      simp
     case measure =>
      have u1:=As.line_up (sl s) st
      have u2:=As.nextLine_up (sl s) (As.line (sl s) st) R.out
      rw [sl_length] at u2
      have p1:=D.out.1.pos
      have p2:=D2.out.1.pos
      simp only [loopM,p1,p2]
      omega
   ·have D:=hid hd
    rw [hn] at TM RA
    clear hd hn HN AT
    have FB:=hid (D.out.2.2 _ _ _ (by decide) (by decide) (by decide) (by decide) (by decide) AF.out)
    go_wp2_with fail
    refine (failed_any _ s _ _ st wr D.out.1).mono ?_
    rintro e w1 ⟨rfl,rfl⟩
    cases hf:As.failed st
    ·have F0:=hid (show st.fe=0 by simpa [As.failed] using hf)
     clear hf
     go_wp2_with fail
     refine (bindRest_any _ s _ _ st _ D.out.1).mono ?_
     rintro e V1 ⟨rfl,h1⟩
     have D1:=hid (D.out.after h1)
     clear h1
     go_wp2_with fail
     refine (orderRelocs_any _ s _ _ _ V1 D1.out.1).mono ?_
     rintro e V2 ⟨rfl,h2⟩
     have D2:=hid (D1.out.after h2)
     clear h2 D1
     have FB2:=hid (D2.out.2.2 _ _ _ (by decide) (by decide) (by decide) (by decide) (by decide) AF.out)
     have c14:=cell_obj D2.out.1
     go_wp2_with fail
     refine (write_said _ (As.finish st.obj) V2 D2.out.1.tabs D2.out.1.objAt (finish_tame D.out.1.ok TM.out)).mono ?_
     rintro e V3 ⟨hw,hg⟩
     have FG:=hid (fin_grown AG.out (D2.out.grown hg).2.1)
     have FB3:=hid (FB2.out.grown hg (by simp))
     have v0:=FB3.out.free 0
     have v1:=FB3.out.free 1
     have v2:=FB3.out.free 2
     have x0:=FB3.out.cell 0
     have x1:=FB3.out.cell 1
     have x2:=FB3.out.cell 2
     simp only [faultC,List.getElem?_toArray,List.getElem?_cons_succ,List.getElem?_cons_zero] at x0 x1 x2
     clear hg c14 D2 D FB FB2
     rcases hw with ⟨rfl,hv⟩ | ⟨rfl,hv⟩
     ·have HV:=hid hv
      clear hv
      go_wp2
      have F:=sets_blk [(0,.int .i64 0),(1,.int .i64 0),(2,.string ⟨#[]⟩)] FB3.out
      have h0:=F.cell 0
      have h1:=F.cell 1
      have h2:=F.cell 2
      simp only [faultC,setsA,List.foldl_cons,List.foldl_nil,List.setIfInBounds_toArray,List.set_cons_succ,List.set_cons_zero,List.getElem?_toArray,List.getElem?_cons_succ,List.getElem?_cons_zero] at h0 h1 h2
      refine bodyPost_ret (v:=.tuple #[.string (bs (Lk.objB (As.finish st.obj))),faultA 0 0]) ?_ rfl ⟨⟨_,0,0,rfl,.inr (.inl ⟨by rw [RA.out]; exact F0.out,by rw [RA.out]; exact HV.out,by rw [RA.out],rfl,rfl⟩)⟩,fin_sets FG.out _ (Nat.le_refl _) [(0,.int .i64 0),(1,.int .i64 0),(2,.string ⟨#[]⟩)]⟩
      clear F x0 x1 x2 v0 v1 v2
      simp only [sets,List.foldl_cons,List.foldl_nil] at h0 h1 h2 ⊢
      generalize World.setCell _ _ _=WF at *
      simp [results,Tryz.results29,go_sem,faultA,h0,h1,h2]
     ·have HV:=hid hv
      clear hv
      go_wp2
      have F:=sets_blk [(0,.int .i64 20),(1,.int .i64 0),(2,.string ⟨#[]⟩)] FB3.out
      have h0:=F.cell 0
      have h1:=F.cell 1
      have h2:=F.cell 2
      simp only [faultC,setsA,List.foldl_cons,List.foldl_nil,List.setIfInBounds_toArray,List.set_cons_succ,List.set_cons_zero,List.getElem?_toArray,List.getElem?_cons_succ,List.getElem?_cons_zero] at h0 h1 h2
      refine bodyPost_ret (v:=.tuple #[.string (bs []),faultA 20 0]) ?_ rfl ⟨⟨_,20,0,rfl,.inr (.inr ⟨by rw [RA.out]; exact F0.out,by rw [RA.out]; exact HV.out,rfl,rfl,rfl⟩)⟩,fin_sets FG.out _ (Nat.le_refl _) [(0,.int .i64 20),(1,.int .i64 0),(2,.string ⟨#[]⟩)]⟩
      clear F x0 x1 x2 v0 v1 v2
      simp only [sets,List.foldl_cons,List.foldl_nil] at h0 h1 h2 ⊢
      generalize World.setCell _ _ _=WF at *
      simp [results,Tryz.results29,go_sem,faultA,h0,h1,h2]
    ·have F0:=hid (show st.fe≠0 by simpa [As.failed] using hf)
     clear hf
     have FG:=hid (fin_grown AG.out D.out.2.1)
     have c6:=asm_cell D.out.1 6
     have c7:=asm_cell D.out.1 7
     have c8:=asm_cell D.out.1 8
     simp only [asmCells,List.getElem?_toArray,List.getElem?_cons_succ,List.getElem?_cons_zero] at c6 c7 c8
     have v0:=FB.out.free 0
     have v1:=FB.out.free 1
     have v2:=FB.out.free 2
     have x0:=FB.out.cell 0
     have x1:=FB.out.cell 1
     have x2:=FB.out.cell 2
     simp only [faultC,List.getElem?_toArray,List.getElem?_cons_succ,List.getElem?_cons_zero] at x0 x1 x2
     clear D
     go_wp2
     go_region
     go_wp2
     have F:=sets_blk [(0,.int .i64 st.fe),(1,.int .i64 st.fa),(2,.string ⟨#[]⟩)] FB.out
     have h0:=F.drew.cell 0
     have h1:=F.drew.cell 1
     have h2:=F.drew.cell 2
     simp only [faultC,setsA,List.foldl_cons,List.foldl_nil,List.setIfInBounds_toArray,List.set_cons_succ,List.set_cons_zero,List.getElem?_toArray,List.getElem?_cons_succ,List.getElem?_cons_zero] at h0 h1 h2
     refine bodyPost_ret (v:=.tuple #[.string (bs []),faultA st.fe st.fa]) ?_ rfl ⟨⟨_,st.fe,st.fa,rfl,.inl ⟨by rw [RA.out]; exact F0.out,rfl,by rw [RA.out],by rw [RA.out]⟩⟩,grown_drew (fin_sets FG.out _ (Nat.le_refl _) [(0,.int .i64 st.fe),(1,.int .i64 st.fa),(2,.string ⟨#[]⟩)])⟩
     clear F x0 x1 x2 v0 v1 v2 c6 c7 c8
     simp only [sets,List.foldl_cons,List.foldl_nil] at h0 h1 h2 ⊢
     generalize World.drew _=WF at *
     simp [results,Tryz.results29,go_sem,faultA,bs,h0,h1,h2]

end Go.Proofs.YtnfgdlkiialnnaaGreatDoor

namespace Go.Proofs.YtnfgdlkiialnnaaGreatDoor
open Go.RowKit

section
instance (c:Int):Decidable (Chr c):=by unfold Chr; infer_instance
instance (s:ByteArray):Decidable (NameOk s):=by unfold NameOk; infer_instance
instance (xs:List Int):Decidable (Words xs):=by unfold Words; infer_instance
instance (xs:List Int):Decidable (Borders xs):=by unfold Borders; infer_instance
instance (o:Lk.Obj):Decidable (Sizes o):=by unfold Sizes; infer_instance
instance (o:Lk.Obj):Decidable (AllWords o):=by unfold AllWords; infer_instance
instance (o:Lk.Obj) (y:Lk.Sym):Decidable (SymOk o y):=by unfold SymOk; infer_instance
instance (o:Lk.Obj):Decidable (SymsOk o):=by unfold SymsOk; infer_instance
instance (r:Lk.Rel):Decidable (KindOk r):=by unfold KindOk; infer_instance
instance (r:Lk.Rel):Decidable (AddendOk r):=by unfold AddendOk; infer_instance
instance (o:Lk.Obj) (r:Lk.Rel):Decidable (SymIx o r):=by unfold SymIx; infer_instance
instance (o:Lk.Obj) (r:Lk.Rel):Decidable (BordOk o r):=by unfold BordOk; infer_instance
instance (o:Lk.Obj) (r:Lk.Rel):Decidable (AboutOk o r):=by unfold AboutOk; infer_instance
instance (o:Lk.Obj) (r:Lk.Rel):Decidable (WithinP o r):=by unfold WithinP; infer_instance
instance (k:Int) (xs:List Int):Decidable (GoesP k xs):=by unfold GoesP Branch0 Jal0 PairW Upper0 Short0 Store0 Nops; infer_instance
instance (o:Lk.Obj) (r:Lk.Rel):Decidable (RelOk o r):=by unfold RelOk; infer_instance
instance (a r:Lk.Rel):Decidable (FollowsP a r):=by unfold FollowsP; infer_instance
instance (o:Lk.Obj):Decidable (RelsOk o):=by unfold RelsOk; infer_instance
instance valid_dec (o:Lk.Obj):Decidable (Valid o):=by unfold Valid; infer_instance
end

end Go.Proofs.YtnfgdlkiialnnaaGreatDoor

namespace Go.Proofs.YtnfgdlkiialnnaaGreatDoor
open Go.RowKit

end Go.Proofs.YtnfgdlkiialnnaaGreatDoor

namespace Go.Proofs.YtnfgdlkiialnnaaGreatDoor
open Go.RowKit

theorem linkAssemble_any (s:ByteArray) (w:World) (ht:Tabs w) (hN:NTab w) (hB:3≤w.heap.size) :
  Calls Tryz.prog 22 #[.string s] w fun e w'=>(∃ t fe fa,e = .returned (.tuple #[.string (bs t),faultA fe fa])∧Told (sl s) t fe fa)∧w.grownBy w' none:=by
 have cA:=hid (assemble_any s (w.alloc (.cells (faultC 0 0) 45)) (ht.grown (World.grownBy_alloc _ _ none)) (hN.below (grown_below (World.grownBy_alloc _ _ none) (Nat.le_refl _) (by simp)) hB) (by rw [size_alloc]; omega))
 have b0:=hid (BlkAt.new w (faultC 0 0) 45)
 go_enter Tryz.func22,Tryz.ntmps22
 go_wp2_with fail
 refine cA.out.mono ?_
 rintro e V1 ⟨⟨t,fe,fa,rfl,ht⟩,hg⟩
 have HT:=hid ht
 have FB:=hid (b0.out.grown hg (by simp))
 have FG:=hid (grown_trans (World.grownBy_alloc w (.cells (faultC 0 0) 45) none) hg)
 clear ht hg cA b0
 unfold faultA
 have v0:=FB.out.free 0
 have v1:=FB.out.free 1
 have v2:=FB.out.free 2
 have x0:=FB.out.cell 0
 have x1:=FB.out.cell 1
 have x2:=FB.out.cell 2
 simp only [faultC,List.getElem?_toArray,List.getElem?_cons_succ,List.getElem?_cons_zero] at x0 x1 x2
 go_wp2
 have F:=sets_blk [(0,.int .i64 fe),(1,.int .i64 fa),(2,.string ⟨#[]⟩)] FB.out
 have h0:=F.cell 0
 have h1:=F.cell 1
 have h2:=F.cell 2
 simp only [faultC,setsA,List.foldl_cons,List.foldl_nil,List.setIfInBounds_toArray,List.set_cons_succ,List.set_cons_zero,List.getElem?_toArray,List.getElem?_cons_succ,List.getElem?_cons_zero] at h0 h1 h2
 refine bodyPost_ret (v:=.tuple #[.string (bs t),faultA fe fa]) ?_ rfl ⟨⟨t,fe,fa,rfl,HT.out⟩,fin_sets FG.out _ (Nat.le_refl _) [(0,.int .i64 fe),(1,.int .i64 fa),(2,.string ⟨#[]⟩)]⟩
 clear F x0 x1 x2 v0 v1 v2
 simp only [sets,List.foldl_cons,List.foldl_nil] at h0 h1 h2 ⊢
 generalize World.setCell _ _ _=WF at *
 simp [results,Tryz.results22,go_sem,faultA,h0,h1,h2]

end Go.Proofs.YtnfgdlkiialnnaaGreatDoor

namespace Go.Proofs.YtnfgdlkiialnnaaGreatDoor
open Go.RowKit


end Go.Proofs.YtnfgdlkiialnnaaGreatDoor

namespace Go.Proofs.YtnfgdlkiialnnaaGreatDoor
open Go.RowKit

end Go.Proofs.YtnfgdlkiialnnaaGreatDoor
