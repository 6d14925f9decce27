/- Linking: a short call's word. -/
/- Linking: what a word becomes. -/
/- Linking: where all lies, as numbers. -/
/- Linking: a region's words. -/
/- The assembler: sections, bindings, words, room. -/
/- Linking: how long regions are, what numbers stand in them. -/
import Derived.Test.YtpgklkhgfcjceaaGreatDoorG19
import Derived.Test.YtpgklkhgfcjceaaGreatDoorG17
namespace Go.Proofs.YtpgklkhgfcjceaaGreatDoor
open Go.RowKit
namespace Ln
def shortCall (ms:List Mod) (m:Mod) (r:Lk.Rel):Int:=encZ 3 (rdF (Mc.formOf ((yU m.obj r).getD 1 0)) ((yU m.obj r).getD 1 0)).toNat 0 0 (distance ms m r)
end Ln
set_option maxRecDepth 100000 in
set_option maxHeartbeats 4000000 in
theorem yiM (bl:List Nat) (ms:List Ln.Mod) (b g:Nat) (m:Ln.Mod) (r:Lk.Rel) (w:World) (ht:Tabs w) (h:ycw w bl ms) (hm:yD w bl b g m) (hn:yI bl.length m) (hv:yv m.obj) (hr:r∈m.obj.rels) (hk:r.kind=4) :
  Calls Tryz.prog 173 #[ptrV b,relA r] w fun e w'=>e = .returned (.int .i64 (Ln.shortCall ms m r))/\w.grownBy w' none:=by
 obtain ⟨i,hi,hri⟩:=List.getElem_of_mem hr
 have RO:ydE m.obj r:=by rw [<- hri]; exact (hv.2.2.2.2 i hi).1
 have ha:=RO.2.1
 have hab:=RO.2.2.2.2.1
 have hrs:ybk (yw m.obj r.sect):=by
  unfold yw
  repeat' split
  ·exact hv.2.2.1.1
  ·exact hv.2.2.1.2.1
  ·exact hv.2.2.1.2.2
  ·intro i h; simp at h
 obtain ⟨f1,f2,-,-⟩:=yel ha hab hrs
 have sp:(yau r).toNat=2:=by unfold yau; rw [if_pos (.inl hk)]; rfl
 rw [sp] at f1
 have HM:=hid hm
 have HH:=hid h
 have HT:=hid ht
 obtain ⟨v1,v2,v3,v4,q0,q1,-⟩:=hm
 have k0:w.cell? ⟨b,0,none⟩=some (.pointer (some ⟨g,0,none⟩)):=q0.cell 0
 have cA:=hid (fun W (hg:w.grownBy W none)=>ydd g m.obj r W (q1.kept hg) (ydt hv) ha hab)
 rw [sp] at cA
 have cD:=hid (fun W (hg:w.grownBy W none)=>ycS bl ms b g m r W (HH.out.kept hg) (HM.out.kept hg) hn (hn.rels.2 r hr).2.1 (hn.rels.2 r hr).2.2)
 have hx:1 < (yU m.obj r).length:=by omega
 have E:=hid (show Ln.shortCall ms m r=Ln.encZ 3 (rdF (Mc.formOf (yU m.obj r)[1]) (yU m.obj r)[1]).toNat 0 0 (Ln.distance ms m r) by unfold Ln.shortCall; rw [ysB,yst hx]; rfl)
 have xr:=f2 1 hx
 have rr:=yhT (Mc.formOf (yU m.obj r)[1]) (yU m.obj r)[1] xr.1 xr.2
 have cC:=hid (fun W (hg:w.grownBy W none)=>ydS (yU m.obj r)[1] W (HT.out.grown hg) xr.1 xr.2)
 have IX:=hid (fun W ao (hI:yz W ao (yU m.obj r))=>show ∃ sg off,ao=some ⟨sg,off,none⟩/\W.cell? ⟨sg,off+1,none⟩=some (.int .i64 (yU m.obj r)[1]) from by
  obtain ⟨sg,off,e,hc⟩:=hI (by omega)
  exact ⟨sg,off,e,hc 1 hx⟩)
 generalize Mc.opOf (yU m.obj r)[1]=op at *
 generalize Mc.numF (Mc.formOf (yU m.obj r)[1]) (yU m.obj r)[1]=nf at *
 generalize rs1F (Mc.formOf (yU m.obj r)[1]) (yU m.obj r)[1]=rs1 at *
 generalize rs2F (Mc.formOf (yU m.obj r)[1]) (yU m.obj r)[1]=rs2 at *
 generalize rdF (Mc.formOf (yU m.obj r)[1]) (yU m.obj r)[1]=rd at *
 obtain ⟨a,rfl⟩:∃ a:Nat,rd=(a:Int):=⟨rd.toNat,by omega⟩
 rw [Int.toNat_natCast] at E
 generalize (yU m.obj r)[1]=x at *
 have cE:=hid (fun W (hg:w.grownBy W none)=>yfY 3 a 0 0 (Ln.distance ms m r) W (HT.out.grown hg) (by omega))
 generalize Ln.distance ms m r=ds at *
 have hbl:b < w.heap.size:=q0.lt
 clear q0 q1 h ht hn hv hr RO ha hab hrs f1 f2 sp hx xr rr hri hi hk
 unfold ptrV relA insV insN at *
 obtain ⟨rs,ro,rk,ry,ra⟩:=r
 dsimp only at *
 have A0:=hid (ysp w (.cells #[.int .i64 rs,.int .i64 ro,.int .i64 rk,.int .i64 ry,.int .i64 ra] 102) none)
 have B0:=hid (yc.new w #[.int .i64 rs,.int .i64 ro,.int .i64 rk,.int .i64 ry,.int .i64 ra] 102)
 have hbn:b≠w.heap.size:=by omega
 go_enter Tryz.func173,Tryz.ntmps173
 go_wp2
 have kb:=yd k0 A0.out
 clear k0
 generalize w.alloc (.cells #[.int .i64 rs,.int .i64 ro,.int .i64 rk,.int .i64 ry,.int .i64 ra] 102)=W1 at *
 generalize w.heap.size=L at *
 have c0:W1.cell? ⟨L,0,none⟩=some (.int .i64 rs):=B0.out.cell 0
 have c1:W1.cell? ⟨L,1,none⟩=some (.int .i64 ro):=B0.out.cell 1
 have c2:W1.cell? ⟨L,2,none⟩=some (.int .i64 rk):=B0.out.cell 2
 have c3:W1.cell? ⟨L,3,none⟩=some (.int .i64 ry):=B0.out.cell 3
 have c4:W1.cell? ⟨L,4,none⟩=some (.int .i64 ra):=B0.out.cell 4
 have KB:=hid (show W1.drew.cell? ⟨b,0,none⟩=some (.pointer (some ⟨g,0,none⟩)) from kb)
 have BD:=hid (fun W (hq:W1.drew.grownBy W none)=>show yc W L #[.int .i64 rs,.int .i64 ro,.int .i64 rk,.int .i64 ry,.int .i64 ra] 102 from (yaO B0.out).grown hq (by simp))
 go_region_held3 (fun w'=>w'.cell? ⟨b,0,none⟩=some (.pointer (some ⟨g,0,none⟩))/\w'.cell? ⟨L,0,none⟩=some (.int .i64 rs)/\w'.cell? ⟨L,1,none⟩=some (.int .i64 ro)/\w'.cell? ⟨L,2,none⟩=some (.int .i64 rk)/\w'.cell? ⟨L,3,none⟩=some (.int .i64 ry)/\w'.cell? ⟨L,4,none⟩=some (.int .i64 ra))
  (go_keep)
  (first | (go_at_call 207; refine (cA.out _ (yi A0.out)).mono ?_; rintro e w' ⟨ao,cap,rfl,hI,hq⟩; have bq:=BD.out _ hq; have kq:=yd KB.out hq; have s0:=bq.cell 0; have s1:=bq.cell 1; have s2:=bq.cell 2; have s3:=bq.cell 3; have s4:=bq.cell 4; simp only [ysk,ysl,ysj] at s0 s1 s2 s3 s4))
 obtain ⟨sg,off,rfl,cx⟩:=IX.out _ _ hI
 have GQ:=hid (ya (yi A0.out) hq)
 have BQ:=hid bq
 clear hq hI bq kq s0 s1 s2 s3 s4 c0 c1 c2 c3 c4 kb KB BD
 go_wp2_with fail
 refine (cC.out _ GQ.out).mono ?_
 rintro e W4 ⟨rfl,h4⟩
 have A4:=ysp W4 (.cells #[.int .i64 op,.int .i64 a,.int .i64 rs1,.int .i64 rs2,.int .i64 nf] 143) none
 have G4:=hid (ya (ya GQ.out h4) A4)
 have B4:=hid (BQ.out.grown (ya h4 A4) (by simp))
 have J4:=hid (yc.new W4 #[.int .i64 op,.int .i64 a,.int .i64 rs1,.int .i64 rs2,.int .i64 nf] 143)
 clear h4 A4 cC cx BQ GQ
 go_wp2
 generalize W4.alloc (.cells #[.int .i64 op,.int .i64 a,.int .i64 rs1,.int .i64 rs2,.int .i64 nf] 143)=W5 at *
 generalize W4.heap.size=J at *
 have c0:W5.cell? ⟨L,0,none⟩=some (.int .i64 rs):=B4.out.cell 0
 have c1:W5.cell? ⟨L,1,none⟩=some (.int .i64 ro):=B4.out.cell 1
 have c2:W5.cell? ⟨L,2,none⟩=some (.int .i64 rk):=B4.out.cell 2
 have c3:W5.cell? ⟨L,3,none⟩=some (.int .i64 ry):=B4.out.cell 3
 have c4:W5.cell? ⟨L,4,none⟩=some (.int .i64 ra):=B4.out.cell 4
 have cj:W5.cell? ⟨J,1,none⟩=some (.int .i64 a):=J4.out.cell 1
 have KD:=hid (fun W (hq:W5.drew.grownBy W none)=>And.intro (yd (show W5.drew.cell? ⟨J,1,none⟩=some (.int .i64 a) from cj) hq) (And.intro (yd (show W5.drew.cell? ⟨L,0,none⟩=some (.int .i64 rs) from c0) hq) (And.intro (yd (show W5.drew.cell? ⟨L,1,none⟩=some (.int .i64 ro) from c1) hq) (And.intro (yd (show W5.drew.cell? ⟨L,2,none⟩=some (.int .i64 rk) from c2) hq) (And.intro (yd (show W5.drew.cell? ⟨L,3,none⟩=some (.int .i64 ry) from c3) hq) (yd (show W5.drew.cell? ⟨L,4,none⟩=some (.int .i64 ra) from c4) hq))))))
 go_region_held3 (fun w'=>w'.cell? ⟨J,1,none⟩=some (.int .i64 a)/\w'.cell? ⟨L,0,none⟩=some (.int .i64 rs)/\w'.cell? ⟨L,1,none⟩=some (.int .i64 ro)/\w'.cell? ⟨L,2,none⟩=some (.int .i64 rk)/\w'.cell? ⟨L,3,none⟩=some (.int .i64 ry)/\w'.cell? ⟨L,4,none⟩=some (.int .i64 ra))
  (go_keep)
  (first | (go_at_call 107; refine (cD.out _ (yi G4.out)).mono ?_; rintro e w' ⟨rfl,hq⟩; obtain ⟨s0,s1,s2,s3,s4,s5⟩:=KD.out _ hq) | (go_at_call 194; refine (cE.out _ (ya (yi G4.out) hq)).mono ?_; rintro e w2 ⟨rfl,hq2⟩; obtain ⟨r0,r1,r2,r3,r4,r5⟩:=KD.out _ (ya hq hq2)))
 go_wp2
 go_ret
 exact ⟨by rw [E.out]; rfl,ya (ya (yi G4.out) hq) hq2⟩
namespace Ln
def linkedR (ms:List Mod) (m:Mod) (i:Int) (r:Lk.Rel) (off w:Int):Int :=
 if r.kind=1 then bits .and .i64 (target ms m r+r.addend) 4294967295
 else if r.kind=2\/r.kind=3 then withNumber w (distance ms m r)
 else if r.kind=4 then (if isShort m.short i then shortCall ms m r else withPart w (decide (off=r.off)) (distance ms m r))
 else if r.kind=5 then withPart w (decide (off=r.off)) (target ms m r+r.addend)
 else w
def linked (ms:List Mod) (m:Mod) (sect off w:Int):Int:=linkedR ms m (relocAt sect off 0 m.obj.rels).1 (relocAt sect off 0 m.obj.rels).2 off w
end Ln
def ygr (ms:List Ln.Mod) (m:Ln.Mod):Prop:=∀ r∈m.obj.rels,(-2147483648<=Ln.distance ms m r/\Ln.distance ms m r<=2147483647)/\(0<=Ln.target ms m r/\Ln.target ms m r<=2147480000)
set_option maxRecDepth 100000 in
set_option maxHeartbeats 8000000 in
theorem ymB (bl:List Nat) (ms:List Ln.Mod) (b g:Nat) (m:Ln.Mod) (sect off x:Int) (w:World) (ht:Tabs w) (h:ycw w bl ms) (hm:yD w bl b g m) (hn:yI bl.length m) (hv:yv m.obj) (hd:ygr ms m) (h0:0<=x) (h1:x<=4294967295) :
  Calls Tryz.prog 110 #[ptrV b,.int .i64 sect,.int .i64 off,.int .i64 x] w fun e w'=>e = .returned (.int .i64 (Ln.linked ms m sect off x))/\w.grownBy w' none:=by
 have HT:=hid ht
 have HH:=hid h
 have HM:=hid hm
 have cR:=hid (ygi bl b g m sect off w hm (fun r hr=>⟨(hn.rels.2 r hr).1,by have:=(hn.rels.2 r hr).2; omega,(hn.rels.2 r hr).2.2⟩) hn.rels.1)
 have R:=hid (show Ln.linked ms m sect off x=Ln.linkedR ms m (Ln.relocAt sect off 0 m.obj.rels).1 (Ln.relocAt sect off 0 m.obj.rels).2 off x from rfl)
 have RM:=hid (show (Ln.relocAt sect off 0 m.obj.rels).2.kind≠0->(Ln.relocAt sect off 0 m.obj.rels).2∈m.obj.rels by
  rcases ydL sect off m.obj.rels 0 with e | ⟨i,hi,e⟩
  ·rw [e]; intro c; simp at c
  ·rw [e]; intro _; exact ysr hi)
 have IX:0<=(Ln.relocAt sect off 0 m.obj.rels).1/\(Ln.relocAt sect off 0 m.obj.rels).1<=65535:=by
  rcases ydL sect off m.obj.rels 0 with e | ⟨i,hi,e⟩
  ·rw [e]; simp
  ·rw [e]; have:=hn.rels.1; simp; omega
 have cS:=hid (fun W (hg:w.grownBy W none)=>yfZ bl b g m (Ln.relocAt sect off 0 m.obj.rels).1 W (HM.out.kept hg) IX.1 IX.2 hn.short)
 generalize Ln.relocAt sect off 0 m.obj.rels=p at *
 obtain ⟨i,r⟩:=p
 dsimp only at *
 have cD:=hid (fun W (hg:w.grownBy W none) (hr:r∈m.obj.rels)=>ycS bl ms b g m r W (HH.out.kept hg) (HM.out.kept hg) hn (hn.rels.2 r hr).2.1 (hn.rels.2 r hr).2.2)
 have cT:=hid (fun W (hg:w.grownBy W none)=>yga bl ms b g m r W (HH.out.kept hg) (HM.out.kept hg) hn)
 have cC:=hid (fun W (hg:w.grownBy W none) (hr:r∈m.obj.rels) (hk:r.kind=4)=>yiM bl ms b g m r W (HT.out.grown hg) (HH.out.kept hg) (HM.out.kept hg) hn hv hr hk)
 have cN:=hid (fun n W (hg:w.grownBy W none)=>yeE x n W (HT.out.grown hg) h0 h1)
 have cP:=hid (fun f v W (hg:w.grownBy W none) a1 a2=>ykx x f v W (HT.out.grown hg) h0 h1 a1 a2)
 have AD:=hid (show r∈m.obj.rels->(r.kind=1\/r.kind=5)->-2048<=r.addend/\r.addend<=2047 from fun hr hk=>by
  have:=(hn.rels.2 r hr).1
  unfold yae at this
  rw [if_pos hk] at this
  exact this)
 have HD:=hid hd
 clear ht h hm hn hv hd IX
 obtain ⟨rs,ro,rk,ry,ra⟩:=r
 unfold ptrV relA at *
 dsimp only at *
 go_enter Tryz.func110,Tryz.ntmps110
 go_wp2_with fail
 refine cR.out.mono ?_
 rintro e W2 ⟨rfl,h2⟩
 dsimp only
 have A2:=hid (ya h2 (ysp W2 (.cells #[.int .i64 rs,.int .i64 ro,.int .i64 rk,.int .i64 ry,.int .i64 ra] 102) none))
 have B2:=hid (yc.new W2 #[.int .i64 rs,.int .i64 ro,.int .i64 rk,.int .i64 ry,.int .i64 ra] 102)
 clear h2 cR
 by_cases e1:rk=1
 ·subst e1
  have hr:=RM.out (by decide)
  have E:=hid (show Ln.linked ms m sect off x=bits .and .i64 (Ln.target ms m ⟨rs,ro,1,ry,ra⟩+ra) 4294967295 by rw [R.out]; rfl)
  have tn:=(HD.out _ hr).2
  have an:=AD.out hr (.inl rfl)
  generalize Ln.target ms m ⟨rs,ro,1,ry,ra⟩=t at *
  have w1:IntKind.i64.wrap (t+ra)=t+ra:=IntWalk.i64_in _ ⟨by omega,by omega⟩
  clear hr
  go_wp2
  generalize W2.alloc (.cells #[.int .i64 rs,.int .i64 ro,.int .i64 1,.int .i64 ry,.int .i64 ra] 102)=W3 at *
  generalize W2.heap.size=L at *
  have c0:W3.cell? ⟨L,0,none⟩=some (.int .i64 rs):=B2.out.cell 0
  have c1:W3.cell? ⟨L,1,none⟩=some (.int .i64 ro):=B2.out.cell 1
  have c2:W3.cell? ⟨L,2,none⟩=some (.int .i64 1):=B2.out.cell 2
  have c3:W3.cell? ⟨L,3,none⟩=some (.int .i64 ry):=B2.out.cell 3
  have c4:W3.cell? ⟨L,4,none⟩=some (.int .i64 ra):=B2.out.cell 4
  have BD:=hid (fun W (hq:W3.drew.grownBy W none)=>show yc W L #[.int .i64 rs,.int .i64 ro,.int .i64 1,.int .i64 ry,.int .i64 ra] 102 from (yaO B2.out).grown hq (by simp))
  go_region_held3 (fun w'=>w'.cell? ⟨L,0,none⟩=some (.int .i64 rs)/\w'.cell? ⟨L,1,none⟩=some (.int .i64 ro)/\w'.cell? ⟨L,2,none⟩=some (.int .i64 1)/\w'.cell? ⟨L,3,none⟩=some (.int .i64 ry)/\w'.cell? ⟨L,4,none⟩=some (.int .i64 ra))
   (go_keep)
   (first | (go_at_call 168; refine (cT.out _ (yi A2.out)).mono ?_; rintro e w' ⟨rfl,hq⟩; have bq:=BD.out _ hq; have s0:=bq.cell 0; have s1:=bq.cell 1; have s2:=bq.cell 2; have s3:=bq.cell 3; have s4:=bq.cell 4; simp only [ysk,ysl,ysj] at s0 s1 s2 s3 s4))
  go_wp2
  go_ret
  exact ⟨by rw [E.out]; rfl,ya (yi A2.out) hq⟩
 by_cases e2:rk=2
 ·subst e2
  have hr:=RM.out (by decide)
  have E:=hid (show Ln.linked ms m sect off x=Ln.withNumber x (Ln.distance ms m ⟨rs,ro,2,ry,ra⟩) by rw [R.out]; rfl)
  have cE:=hid (cD.out _ A2.out hr)
  generalize Ln.distance ms m ⟨rs,ro,2,ry,ra⟩=t at *
  clear hr
  go_wp2_with fail
  refine cE.out.mono ?_
  rintro e W5 ⟨rfl,h5⟩
  have G5:=hid (ya A2.out h5)
  clear h5 cE
  go_wp2_with fail
  refine (cN.out t _ G5.out).mono ?_
  rintro e W6 ⟨rfl,h6⟩
  have G6:=hid (ya G5.out h6)
  clear h6
  go_wp2
  go_ret
  exact ⟨by rw [E.out]; rfl,G6.out⟩
 by_cases e3:rk=3
 ·subst e3
  have hr:=RM.out (by decide)
  have E:=hid (show Ln.linked ms m sect off x=Ln.withNumber x (Ln.distance ms m ⟨rs,ro,3,ry,ra⟩) by rw [R.out]; rfl)
  have cE:=hid (cD.out _ A2.out hr)
  generalize Ln.distance ms m ⟨rs,ro,3,ry,ra⟩=t at *
  clear hr
  go_wp2_with fail
  refine cE.out.mono ?_
  rintro e W5 ⟨rfl,h5⟩
  have G5:=hid (ya A2.out h5)
  clear h5 cE
  go_wp2_with fail
  refine (cN.out t _ G5.out).mono ?_
  rintro e W6 ⟨rfl,h6⟩
  have G6:=hid (ya G5.out h6)
  clear h6
  go_wp2
  go_ret
  exact ⟨by rw [E.out]; rfl,G6.out⟩
 by_cases e4:rk=4
 ·subst e4
  have hr:=RM.out (by decide)
  have RR:=hid (show Ln.linked ms m sect off x=if Ln.isShort m.short i then Ln.shortCall ms m ⟨rs,ro,4,ry,ra⟩ else Ln.withPart x (decide (off=ro)) (Ln.distance ms m ⟨rs,ro,4,ry,ra⟩) by rw [R.out]; rfl)
  have cC2:=hid (cC.out _ A2.out hr rfl)
  have cD2:=hid (fun W hg=>cD.out W hg hr)
  have dn:=(HD.out _ hr).1
  have cS2:=hid (cS.out _ A2.out)
  clear hr cC cD cS
  generalize Ln.distance ms m ⟨rs,ro,4,ry,ra⟩=t at *
  go_wp2_with fail
  refine cS2.out.mono ?_
  rintro e w' ⟨rfl,hw⟩
  rw [hw]
  clear hw w' cS2
  cases es:Ln.isShort m.short i
  ·have E:=hid (show Ln.linked ms m sect off x=Ln.withPart x (decide (off=ro)) t by rw [RR.out,es]; rfl)
   clear es RR
   have cP2:=hid (fun f W hg=>cP.out f t W hg dn.1 dn.2)
   go_wp2
   generalize W2.alloc (.cells #[.int .i64 rs,.int .i64 ro,.int .i64 4,.int .i64 ry,.int .i64 ra] 102)=W3 at *
   generalize W2.heap.size=L at *
   have c0:W3.cell? ⟨L,0,none⟩=some (.int .i64 rs):=B2.out.cell 0
   have c1:W3.cell? ⟨L,1,none⟩=some (.int .i64 ro):=B2.out.cell 1
   have c2:W3.cell? ⟨L,2,none⟩=some (.int .i64 4):=B2.out.cell 2
   have c3:W3.cell? ⟨L,3,none⟩=some (.int .i64 ry):=B2.out.cell 3
   have c4:W3.cell? ⟨L,4,none⟩=some (.int .i64 ra):=B2.out.cell 4
   have BD:=hid (fun W (hq:W3.drew.grownBy W none)=>show yc W L #[.int .i64 rs,.int .i64 ro,.int .i64 4,.int .i64 ry,.int .i64 ra] 102 from (yaO B2.out).grown hq (by simp))
   have EQ:decide (off=ro)=(off == ro):=rfl
   go_region_held3 (fun w'=>w'.cell? ⟨L,0,none⟩=some (.int .i64 rs)/\w'.cell? ⟨L,1,none⟩=some (.int .i64 ro)/\w'.cell? ⟨L,2,none⟩=some (.int .i64 4)/\w'.cell? ⟨L,3,none⟩=some (.int .i64 ry)/\w'.cell? ⟨L,4,none⟩=some (.int .i64 ra))
    (go_keep)
    (first | (go_at_call 107; refine (cD2.out _ (yi A2.out)).mono ?_; rintro e w' ⟨rfl,hq⟩; have bq:=BD.out _ hq; have s0:=bq.cell 0; have s1:=bq.cell 1; have s2:=bq.cell 2; have s3:=bq.cell 3; have s4:=bq.cell 4; simp only [ysk,ysl,ysj] at s0 s1 s2 s3 s4) | (go_at_call 174; refine (cP2.out _ _ (ya (yi A2.out) hq)).mono ?_; rintro e w2 ⟨rfl,hq2⟩; have bq2:=BD.out _ (ya hq hq2); have r0:=bq2.cell 0; have r1:=bq2.cell 1; have r2:=bq2.cell 2; have r3:=bq2.cell 3; have r4:=bq2.cell 4; simp only [ysk,ysl,ysj] at r0 r1 r2 r3 r4))
   go_wp2
   go_ret
   exact ⟨by rw [E.out]; rfl,ya (ya (yi A2.out) hq) hq2⟩
  ·have E:=hid (show Ln.linked ms m sect off x=Ln.shortCall ms m ⟨rs,ro,4,ry,ra⟩ by rw [RR.out,es]; rfl)
   clear es RR
   go_wp2_with fail
   refine cC2.out.mono ?_
   rintro e W5 ⟨rfl,h5⟩
   have G5:=hid (ya A2.out h5)
   clear h5 cC2
   go_wp2
   go_ret
   exact ⟨by rw [E.out]; rfl,G5.out⟩
 by_cases e5:rk=5
 ·subst e5
  have hr:=RM.out (by decide)
  have E:=hid (show Ln.linked ms m sect off x=Ln.withPart x (decide (off=ro)) (Ln.target ms m ⟨rs,ro,5,ry,ra⟩+ra) by rw [R.out]; rfl)
  have tn:=(HD.out _ hr).2
  have an:=AD.out hr (.inr rfl)
  generalize Ln.target ms m ⟨rs,ro,5,ry,ra⟩=t at *
  have w1:IntKind.i64.wrap (t+ra)=t+ra:=IntWalk.i64_in _ ⟨by omega,by omega⟩
  have cP2:=hid (fun f W hg=>cP.out f (t+ra) W hg (by omega) (by omega))
  clear hr
  go_wp2
  generalize W2.alloc (.cells #[.int .i64 rs,.int .i64 ro,.int .i64 5,.int .i64 ry,.int .i64 ra] 102)=W3 at *
  generalize W2.heap.size=L at *
  have c0:W3.cell? ⟨L,0,none⟩=some (.int .i64 rs):=B2.out.cell 0
  have c1:W3.cell? ⟨L,1,none⟩=some (.int .i64 ro):=B2.out.cell 1
  have c2:W3.cell? ⟨L,2,none⟩=some (.int .i64 5):=B2.out.cell 2
  have c3:W3.cell? ⟨L,3,none⟩=some (.int .i64 ry):=B2.out.cell 3
  have c4:W3.cell? ⟨L,4,none⟩=some (.int .i64 ra):=B2.out.cell 4
  have BD:=hid (fun W (hq:W3.drew.grownBy W none)=>show yc W L #[.int .i64 rs,.int .i64 ro,.int .i64 5,.int .i64 ry,.int .i64 ra] 102 from (yaO B2.out).grown hq (by simp))
  go_region_held3 (fun w'=>w'.cell? ⟨L,0,none⟩=some (.int .i64 rs)/\w'.cell? ⟨L,1,none⟩=some (.int .i64 ro)/\w'.cell? ⟨L,2,none⟩=some (.int .i64 5)/\w'.cell? ⟨L,3,none⟩=some (.int .i64 ry)/\w'.cell? ⟨L,4,none⟩=some (.int .i64 ra))
   (go_keep)
   (first | (go_at_call 168; refine (cT.out _ (yi A2.out)).mono ?_; rintro e w' ⟨rfl,hq⟩; have bq:=BD.out _ hq; have s0:=bq.cell 0; have s1:=bq.cell 1; have s2:=bq.cell 2; have s3:=bq.cell 3; have s4:=bq.cell 4; simp only [ysk,ysl,ysj] at s0 s1 s2 s3 s4) | (go_at_call 174; refine (cP2.out _ _ (ya (yi A2.out) hq)).mono ?_; rintro e w2 ⟨rfl,hq2⟩; have bq2:=BD.out _ (ya hq hq2); have r0:=bq2.cell 0; have r1:=bq2.cell 1; have r2:=bq2.cell 2; have r3:=bq2.cell 3; have r4:=bq2.cell 4; simp only [ysk,ysl,ysj] at r0 r1 r2 r3 r4))
  go_wp2
  go_ret
  exact ⟨by rw [E.out]; rfl,ya (ya (yi A2.out) hq) hq2⟩
 have E:=hid (show Ln.linked ms m sect off x=x by rw [R.out]; unfold Ln.linkedR; rw [if_neg e1,if_neg (by dsimp only; omega),if_neg e4,if_neg e5])
 have d1:(rk == 1)=false:=by simpa using e1
 have d2:(rk == 2)=false:=by simpa using e2
 have d3:(rk == 3)=false:=by simpa using e3
 have d4:(rk == 4)=false:=by simpa using e4
 have d5:(rk == 5)=false:=by simpa using e5
 clear e1 e2 e3 e4 e5
 go_wp2
 go_ret
 exact ⟨by rw [E.out]; rfl,A2.out⟩
structure MLow (m:Ln.Mod):Prop where
 text:∀ p∈m.text,0<=p/\p<=1200000000
 far:∀ p∈m.far,0<=p/\p<=1200000000
 data:0<=m.data/\m.data<=1200000000
 bss:0<=m.bss/\m.bss<=1200000000
theorem ykS:∀ (ms:List Ln.Mod) (t f d:Int),(∀ m∈ms,yv m.obj)->0<=t->t+5000 * ms.length<=1200000000->0<=f->f+5000 * ms.length<=1200000000->0<=d->d+5000 * ms.length<=1200000000 ->
  ∀ m∈Ln.layMods ms t f d,(∀ p∈m.text,0<=p/\p<=1200000000)/\(∀ p∈m.far,0<=p/\p<=1200000000)/\(0<=m.data/\m.data<=1200000000):=by
 intro ms
 induction ms with
 | nil=>intro t f d _ _ _ _ _ _ _ m hm; simp [Ln.layMods] at hm
 | cons x ms ih =>
  intro t f d hv a0 a1 b0 b1 c0 c1 m hm
  simp only [yss] at a1 b1 c1
  have vx:=hv x (by simp)
  have r1:=ybR vx 1 (.inl rfl) t a0 (by omega)
  have r2:=ybR vx 2 (.inr rfl) f b0 (by omega)
  have r3:=yaM d (Ln.border x.obj 3) c0 (by omega) (yY _)
  have hl:x.obj.data.length<=64:=vx.1.1.2.2
  unfold Ln.layMods at hm
  rcases List.mem_cons.1 hm with rfl | hm
  ·refine ⟨fun p hp=>?_,fun p hp=>?_,?_⟩
   ·have:=r1.2.2 p hp; omega
   ·have:=r2.2.2 p hp; omega
   ·show 0<=Ln.rup d (Ln.border x.obj 3)/\Ln.rup d (Ln.border x.obj 3)<=1200000000
    omega
  ·exact ih _ _ _ (fun y hy=>hv y (by simp [hy])) (by omega) (by omega) (by omega) (by omega) (by omega) (by omega) m hm
theorem ymv:∀ (ms:List Ln.Mod) (b:Int),(∀ m∈ms,yv m.obj)->0<=b->b+5000 * ms.length<=1200000000->(∀ m∈ms,(∀ p∈m.text,0<=p/\p<=1200000000)/\(∀ p∈m.far,0<=p/\p<=1200000000)/\(0<=m.data/\m.data<=1200000000))->∀ m∈Ln.layBss ms b,MLow m:=by
 intro ms
 induction ms with
 | nil=>intro b _ _ _ _ m hm; simp [Ln.layBss] at hm
 | cons x ms ih =>
  intro b hv a0 a1 hl m hm
  simp only [yss] at a1
  have vx:=hv x (by simp)
  have r3:=yaM b (Ln.border x.obj 4) a0 (by omega) (yY _)
  have hb:=vx.1.2.1
  unfold Ln.layBss at hm
  rcases List.mem_cons.1 hm with rfl | hm
  ·have q:=hl x (by simp)
   exact ⟨q.1,q.2.1,q.2.2,by dsimp only; omega⟩
  ·exact ih _ (fun y hy=>hv y (by simp [hy])) (by omega) (by omega) (fun y hy=>hl y (by simp [hy])) m hm
theorem yqx {ms:List Ln.Mod} {t f d:Int} (hv:∀ m∈ms,yv m.obj) (hl:ms.length<=4096) (ht:0<=t/\t<=1073741824) (hf:0<=f/\f<=1073741824) (hd:0<=d/\d<=1073741824):∀ m∈Ln.lay t f d ms,MLow m:=by
 have r:=yfg ms d hv hd.1 (by omega)
 exact ymv _ _ (yaJ (ycz ms t f d) hv) (by omega) (by rw [ydr]; omega) (ykS ms t f d hv ht.1 (by omega) hf.1 (by omega) hd.1 (by omega))
theorem ygh (ps:List Int) (off:Int) (h:∀ p∈ps,0<=p/\p<=1200000000):0<=Ln.placeOf ps off/\Ln.placeOf ps off<=1200000000:=by
 unfold Ln.placeOf
 split
 ·omega
 ·rw [ysB]
  cases e:ps[(off.tdiv 4).toNat]? with
  | none=>simp
  | some p=>exact h p (List.mem_of_getElem? e)
theorem ydl {m:Ln.Mod} (h:MLow m) (sect off:Int) (h0:0<=off) (h1:off<=100000):0<=Ln.address m sect off/\Ln.address m sect off<=1200100000:=by
 have a:=ygh m.text off h.text
 have b:=ygh m.far off h.far
 have c:=h.data
 have d:=h.bss
 unfold Ln.address
 repeat' split
 all_goals omega
def SLow (s:Ln.Spot):Prop:=0<=s.off/\s.off<=100000
theorem yfF {ms:List Ln.Mod} (hl:∀ m∈ms,MLow m) (s:Ln.Spot) (hs:SLow s):0<=Ln.spotAddr ms s/\Ln.spotAddr ms s<=1200100000:=by
 unfold Ln.spotAddr
 cases s.mod with
 | none=>simp
 | some i =>
  dsimp only
  cases e:ms[i]? with
  | none=>simp
  | some m=>exact ydl (hl m (List.mem_of_getElem? e)) _ _ hs.1 hs.2
theorem ymW {ms:List Ln.Mod} (hl:∀ m∈ms,MLow m) (m:Ln.Mod) (hm:∀ s∈m.means,SLow s) (r:Lk.Rel):0<=Ln.target ms m r/\Ln.target ms m r<=1200100000:=by
 unfold Ln.target
 split
 ·omega
 ·rename_i h
  have hlt:r.sym.toNat < m.means.length:=by omega
  rw [ysB,yst hlt]
  exact yfF hl _ (hm _ (ysr hlt))
theorem ydv {o:Lk.Obj} (hv:yv o) (sect:Int):(yw o sect).length<=1200:=by
 have:=hv.1.1
 unfold yw
 repeat' split
 ·exact this.1
 ·exact this.2.1
 ·have:=this.2.2; omega
 ·simp
theorem ylR {o:Lk.Obj} (hv:yv o) {r:Lk.Rel} (hr:r∈o.rels):yae r/\0<=r.off/\r.off<=4800:=by
 obtain ⟨i,hi,hri⟩:=List.getElem_of_mem hr
 have RO:ydE o r:=by rw [<- hri]; exact (hv.2.2.2.2 i hi).1
 have hab:=RO.2.2.2.2.1
 have sp:=yaT RO.2.1
 have hw:=ydv hv r.sect
 obtain ⟨b1,b2,b3⟩:=hab
 exact ⟨RO.2.1,b1,by omega⟩
theorem ykb {ms:List Ln.Mod} (hl:∀ m∈ms,MLow m) (m:Ln.Mod) (hm:∀ s∈m.means,SLow s) (hlow:MLow m) (hv:yv m.obj):ygr ms m:=by
 intro r hr
 have t:=ymW hl m hm r
 have o:=ylR hv hr
 have a:=ydl hlow r.sect r.off o.2.1 (by omega)
 unfold Ln.distance
 omega
theorem yiE:∀ (ms:List Ln.Mod) (t f d:Int),(Ln.layMods ms t f d).map Ln.Mod.means=ms.map Ln.Mod.means:=by
 intro ms
 induction ms with
 | nil=>intro t f d; rfl
 | cons m ms ih=>intro t f d; unfold Ln.layMods; rw [List.map_cons,ih,List.map_cons]; rfl
theorem yjD:∀ (ms:List Ln.Mod) (b:Int),(Ln.layBss ms b).map Ln.Mod.means=ms.map Ln.Mod.means:=by
 intro ms
 induction ms with
 | nil=>intro b; rfl
 | cons m ms ih=>intro b; unfold Ln.layBss; rw [List.map_cons,ih,List.map_cons]
theorem yii (ms:List Ln.Mod) (t f d:Int):(Ln.lay t f d ms).map Ln.Mod.means=ms.map Ln.Mod.means:=by unfold Ln.lay; rw [yjD,yiE]
theorem yiN (ms:List Ln.Mod):(Ln.shorten ms).map Ln.Mod.means=ms.map Ln.Mod.means:=by unfold Ln.shorten; rw [List.map_map]; rfl
theorem yjG (ms:List Ln.Mod) (t f d:Int):(Ln.layout t f d ms).map Ln.Mod.means=ms.map Ln.Mod.means:=by unfold Ln.layout; rw [yii,yiN,yii]
theorem ymz (ms:List Ln.Mod) (t f d:Int):(Ln.layout t f d ms).map Ln.Mod.obj=ms.map Ln.Mod.obj:=by unfold Ln.layout; rw [ydh,ycA,ydh]
theorem yfU (ms:List Ln.Mod) (t f d:Int):(Ln.lay t f d ms).length=ms.length:=by unfold Ln.lay; rw [ygU,ydr]
theorem ype {α β:Type} (g:α->β) {ms ms':List α} (h:ms'.map g=ms.map g) {P:β->Prop} (hp:∀ m∈ms,P (g m)):∀ m∈ms',P (g m):=by
 intro m hm
 have:g m∈ms.map g:=by rw [<- h]; exact List.mem_map_of_mem hm
 obtain ⟨x,hx,e⟩:=List.mem_map.1 this
 rw [<- e]
 exact hp x hx
theorem ykU {n:Nat} {ms:List Ln.Mod} {t f d:Int} (hn:∀ m∈ms,yI n m) (hv:∀ m∈ms,yv m.obj) (hl:ms.length<=4096) (ht:0<=t/\t<=1073741824) (hf:0<=f/\f<=1073741824) (hd:0<=d/\d<=1073741824):∀ m∈Ln.layout t f d ms,yI n m:=by
 have n1:=ygv hn hv hl (t:=t) (f:=f) (d:=d) (by omega) (by omega) (by omega)
 have v1:=yaJ (ydh ms t f d) hv
 exact ygv (yfE n1) (yaJ (ycA _) v1) (by unfold Ln.shorten; rw [ysv,yfU]; exact hl) (by omega) (by omega) (by omega)
theorem ymy {ms:List Ln.Mod} {t f d:Int} (hv:∀ m∈ms,yv m.obj) (hl:ms.length<=4096) (ht:0<=t/\t<=1073741824) (hf:0<=f/\f<=1073741824) (hd:0<=d/\d<=1073741824):∀ m∈Ln.layout t f d ms,MLow m:=by
 have v1:=yaJ (ydh ms t f d) hv
 exact yqx (yaJ (ycA _) v1) (by unfold Ln.shorten; rw [ysv,yfU]; exact hl) ht hf hd
theorem ymP {o:Lk.Obj} (hv:yv o) (sect:Int):ybr o sect<=1200:=by
 unfold ybr
 split
 ·have:=hv.1.2.1; omega
 ·have:=ydv hv sect; omega
theorem ylW {o:Lk.Obj} (hv:yv o) {y:Lk.Sym} (hy:y∈o.syms):0<=y.off/\y.off<=4800:=by
 obtain ⟨i,hi,e⟩:=List.getElem_of_mem hy
 have:=(hv.2.2.2.1 i hi).1
 rw [e] at this
 have s:=ymP hv y.sect
 obtain ⟨-,-,-,-,a,-,c⟩:=this
 omega
theorem ymn (n:List UInt8) (bind:Int):∀ (ys:List Lk.Sym) (s f:Int),Ln.findIn n bind ys=some (s,f)->∃ y∈ys,y.sect=s/\y.off=f:=by
 intro ys
 induction ys with
 | nil=>intro s f h; simp [Ln.findIn] at h
 | cons y ys ih =>
  intro s f h
  unfold Ln.findIn at h
  split at h
  ·simp at h; exact ⟨y,by simp,h.1,h.2⟩
  ·obtain ⟨z,hz,e⟩:=ih s f h
   exact ⟨z,by simp [hz],e⟩
theorem ygN (n:List UInt8) (bind:Int):∀ (os:List Lk.Obj) (i:Nat),(∀ o∈os,yv o)->SLow (Ln.findAt n bind i os):=by
 intro os
 induction os with
 | nil=>intro i _; unfold Ln.findAt SLow; simp [Ln.none_]
 | cons o os ih =>
  intro i hv
  unfold Ln.findAt
  cases e:Ln.findIn n bind o.syms with
  | none=>exact ih _ (fun x hx=>hv x (by simp [hx]))
  | some p =>
   obtain ⟨s,f⟩:=p
   obtain ⟨y,hy,-,rfl⟩:=ymn n bind o.syms s f e
   have:=ylW (hv o (by simp)) hy
   unfold SLow
   dsimp only
   omega
theorem yin (os:List Lk.Obj) (n:List UInt8) (hv:∀ o∈os,yv o):SLow (Ln.named os n):=by
 unfold Ln.named Ln.find
 split
 ·exact ygN n 1 os 0 hv
 ·exact ygN n 2 os 0 hv
theorem ykY (os:List Lk.Obj) (i:Nat) (o:Lk.Obj) (ho:yv o) (y:Lk.Sym) (hy:y∈o.syms) (hv:∀ o∈os,yv o):SLow (Ln.meaning os i y):=by
 unfold Ln.meaning
 split
 ·have:=ylW ho hy; unfold SLow; dsimp only; omega
 ·exact yin os _ hv
theorem ymG (os:List Lk.Obj) (i:Nat) (hi:i < os.length) (y:Lk.Sym) (j:Nat) (h:(Ln.meaning os i y).mod=some j):j < os.length:=by
 unfold Ln.meaning at h
 split at h
 ·simp at h; omega
 ·exact ygy os _ j h
structure yrF (os:List Lk.Obj) (m:Ln.Mod):Prop where
 obj:yv m.obj
 nice:yI os.length m
 low:∀ s∈m.means,SLow s
 short:m.short=[]
theorem yip (os:List Lk.Obj) (hv:∀ o∈os,yv o):∀ m∈Ln.resAll os (os.map Ln.bare),yrF os m:=by
 intro m hm
 unfold Ln.resAll at hm
 obtain ⟨i,hi,rfl⟩:=List.getElem_of_mem hm
 rw [List.length_mapIdx,ysv] at hi
 rw [List.getElem_mapIdx,List.getElem_map]
 have ho:=hv _ (ysr hi)
 generalize os[i]=o at *
 have hs:=(ydt ho)
 have L:∀ s∈(o.syms.map (Ln.meaning os i)),SLow s/\∀ j,s.mod=some j->j < os.length:=by
  intro s hs
  obtain ⟨y,hy,rfl⟩:=List.mem_map.1 hs
  exact ⟨ykY os i o ho y hy hv,fun j hj=>ymG os i hi y j hj⟩
 refine ⟨ho,⟨⟨by simp [Ln.resOne,Ln.bare],by simp [Ln.resOne,Ln.bare]⟩,⟨by simp [Ln.resOne,Ln.bare],by simp [Ln.resOne,Ln.bare]⟩,by simp [Ln.resOne,Ln.bare],by simp [Ln.resOne,Ln.bare],⟨?_,fun s hs=>?_⟩,by simp [Ln.resOne,Ln.bare],⟨hs.2.2.2.2.2,fun r hr=>?_⟩⟩,fun s hs=>(L s hs).1,rfl⟩
 ·show (o.syms.map (Ln.meaning os i)).length<=65535
  rw [ysv]; exact hs.2.2.2.2.1
 ·have q:=L s hs
  have:=q.1
  unfold SLow at this
  exact ⟨by omega,q.2⟩
 ·have:=ylR ho hr
  exact ⟨this.1,by omega,by omega⟩
namespace Ln
def gapTo (base fl begin_:Int) (ws:List Int):List Int:=ws ++ List.replicate (((begin_ - base+3) / 4).toNat - ws.length) fl
def addWords (ms:List Mod) (m:Mod) (sect:Int):Nat->List Int->List Int
 | _,[]=>[]
 | i,w :: ws=>if address m sect (4 * i) < address m sect (4 * i+4) then linked ms m sect (4 * i) w :: addWords ms m sect (i+1) ws else addWords ms m sect (i+1) ws
def addTo (ms:List Mod) (m:Mod) (sect base fl:Int) (ws:List Int):List Int:=gapTo base fl (address m sect 0) ws ++ addWords ms m sect 0 (yw m.obj sect)
def region (ms:List Mod) (sect base fl:Int):List Mod->List Int->List Int
 | [],ws=>ws
 | m :: r,ws=>region ms sect base fl r (addTo ms m sect base fl ws)
end Ln
theorem yoQ {base fl b:Int} {ws:List Int} (h:base+4 * (ws.length:Int) < b):Ln.gapTo base fl b ws=Ln.gapTo base fl b (ws ++ [fl]):=by
 unfold Ln.gapTo
 have e:((b - base+3) / 4).toNat - ws.length=((b - base+3) / 4).toNat - (ws ++ [fl]).length+1:=by rw [ysq,List.length_singleton]; omega
 rw [e,List.replicate_succ,List.append_assoc,List.singleton_append]
theorem yoP {base fl b:Int} {ws:List Int} (h:¬ base+4 * (ws.length:Int) < b):Ln.gapTo base fl b ws=ws:=by
 unfold Ln.gapTo
 have e:((b - base+3) / 4).toNat - ws.length=0:=by omega
 rw [e,List.replicate_zero,List.append_nil]
theorem yhI (base fl b:Int) (ws:List Int):(Ln.gapTo base fl b ws).length=max ws.length ((b - base+3) / 4).toNat:=by
 unfold Ln.gapTo
 rw [ysq,List.length_replicate]
 omega
theorem yiv (ms:List Ln.Mod) (m:Ln.Mod) (sect:Int) (ws:List Int) (k:Nat) (h:k < ws.length):Ln.addWords ms m sect k (ws.drop k)=if Ln.address m sect (4 * k) < Ln.address m sect (4 * k+4) then Ln.linked ms m sect (4 * k) ws[k] :: Ln.addWords ms m sect (k+1) (ws.drop (k+1)) else Ln.addWords ms m sect (k+1) (ws.drop (k+1)):=by
 rw [ysu h]
 rfl
theorem yiZ (ms:List Ln.Mod) (m:Ln.Mod) (sect:Int):∀ (ws:List Int) (k:Nat),(Ln.addWords ms m sect k ws).length<=ws.length:=by
 intro ws
 induction ws with
 | nil=>intro k; simp [Ln.addWords]
 | cons w ws ih =>
  intro k
  have:=ih (k+1)
  unfold Ln.addWords
  split
  ·simp only [yss]; omega
  ·simp only [yss]; omega
structure yax (W0:World) (R:Nat) (base fl:Int) (ws:List Int) (v:Value) (W:World):Prop where
 gr:W0.grownBy W none
 lo:W0.heap.size<=R
 blk:yc W R #[.int .i64 base,.int .i64 fl,v] 134
 row:W.ownsRow W0.heap.size 3 1 v ws.length (ws.map (Value.int .i64))
structure ybj (V W':World) (R:Nat) (v v':Value):Prop where
 keep:∀ k,k < V.heap.size->some k≠v.ownBlock->k≠R->W'.heap[k]?=V.heap[k]?
 blk:∀ k,v'.ownBlock=some k->v.ownBlock=some k\/V.heap.size<=k
 size:V.heap.size<=W'.heap.size
section
variable {W0 V W W' w3:World} {R R':Nat} {base fl base' fl' x:Int} {ws ws':List Int} {v v' v1 v2:Value}
theorem ybj.refl (V:World) (R:Nat) (v:Value):ybj V V R v v:=⟨fun _ _ _ _=>rfl,fun _ h=>.inl h,Nat.le_refl _⟩
theorem ybj.grown (h:ybj V W R v v1) (hg:W.grownBy W' none):ybj V W' R v v1 :=
 ⟨fun k h1 h2 h3=>(hg.block k (Nat.lt_of_lt_of_le h1 h.size) (by simp)).trans (h.keep k h1 h2 h3),h.blk,Nat.le_trans h.size hg.size⟩
theorem ybj.trans (h:ybj V W R v v1) (q:ybj W W' R v1 v2):ybj V W' R v v2 :=
 ⟨fun k h1 h2 h3=>(q.keep k (Nat.lt_of_lt_of_le h1 h.size) (fun c=>by
   rcases h.blk k c.symm with e | e
   ·exact h2 e.symm
   ·omega) h3).trans (h.keep k h1 h2 h3),
  fun k e=>by
   rcases q.blk k e with e1 | e1
   ·exact h.blk k e1
   ·exact .inr (Nat.le_trans h.size e1),
  Nat.le_trans h.size q.size⟩
theorem yax.kept (h:yax W0 R base fl ws v W) (hg:W.grownBy W' none):yax W0 R base fl ws v W' :=
 ⟨ya h.gr hg,h.lo,h.blk.grown hg (by simp),h.row.kept hg (Decidable.em _)⟩
theorem yax.step (h:yax W0 R base fl ws v V) (hown:w3.ownsRow W0.heap.size 3 1 v' (ws.length+1) (ws.map (Value.int .i64) ++ [.int .i64 x])) (hg:V.grownBy w3 v.ownBlock) (hat:v'.ownBlock=v.ownBlock\/v'.ownBlock=some V.heap.size) :
  yax W0 R base fl (ws ++ [x]) v' (w3.setCell ⟨R,2,none⟩ v')/\ybj V (w3.setCell ⟨R,2,none⟩ v') R v v':=by
 have b3:=yF h.blk hg (RowT.own h.row) (by decide)
 have gs:=yf w3 R 2 v'
 refine ⟨⟨?_,h.lo,?_,?_⟩,⟨fun k h1 h2 h3=>?_,fun k e=>?_,Nat.le_trans hg.size gs.size⟩⟩
 ·exact yN (yN h.gr hg (fun k e=>(h.row.lt k e).1)) gs (by intro k e; simp at e; have:=h.lo; omega)
 ·simpa using b3.set 2 v'
 ·have:=yy hown gs (RowT.blk b3) (by decide)
  rw [ysq,List.length_singleton,List.map_append]
  exact this
 ·rw [gs.block k (Nat.lt_of_lt_of_le h1 hg.size) (by simp; omega)]
  exact hg.block k h1 h2
 ·rcases hat with q | q
  ·exact .inl (q ▸ e)
  ·rw [q] at e
   simp at e
   exact .inr (by omega)
theorem yax.other (h:yax W0 R' base' fl' ws' v2 V) (g:yax W0 R base fl ws v V) (t:ybj V W' R v v') (hW:W0.grownBy W' none) (hne:R'≠R) (ha:∀ k,v2.ownBlock=some k->v.ownBlock≠some k) :
  yax W0 R' base' fl' ws' v2 W'/\∀ k,v2.ownBlock=some k->v'.ownBlock≠some k:=by
 have nR:some R'≠v.ownBlock:=fun c=>by
  obtain ⟨cur,hc⟩:=RowT.own g.row R' c.symm
  have:=hc.symm.trans h.blk
  simp at this
 refine ⟨⟨hW,h.lo,?_,?_⟩,fun k e c=>?_⟩
 ·have:=t.keep R' h.blk.lt nR hne
  exact this.trans h.blk
 ·refine ⟨h.row.1,?_⟩
  rcases h.row.2 with q | ⟨g0,cap,cur,hv,hb,hg,r⟩
  ·exact .inl q
  ·refine .inr ⟨g0,cap,cur,hv,hb,?_,r⟩
   have e2:v2.ownBlock=some g0:=by rw [hv]; rfl
   rw [t.keep g0 (h.row.lt g0 e2).2 (fun c=>ha g0 e2 c.symm) (fun c=>by
    have:=hg.symm.trans (c ▸ g.blk)
    simp at this)]
   exact hg
 ·rcases t.blk k c with q | q
  ·exact ha k e q
  ·have:=(h.row.lt k e).2
   omega
end
theorem ylB (n:Int):bits .and .i64 n 4294967295=n % 4294967296:=by
 have h1:(BitVec.ofInt 64 4294967295).toNat=2 ^ 32 - 1:=by decide
 have key:(BitVec.ofInt 64 n &&& BitVec.ofInt 64 4294967295).toNat=(n % ((2 ^ 64:Nat):Int)).toNat % 2 ^ 32:=by
  rw [BitVec.toNat_and,BitVec.toNat_ofInt,h1,Nat.and_two_pow_sub_one_eq_mod]
 show IntKind.i64.wrap ((BitVec.ofInt 64 n &&& BitVec.ofInt 64 4294967295).toNat:Nat)=_
 rw [key,IntKind.wrap_i64]
 omega
theorem StOk.sect' {s:ByteArray} {st:As.St} (h:StOk s st) (k:Nat) (hk:1<=k/\k<=4):StOk s { st with sect:=k } :=
 ⟨h.size,h.p,h.tok,h.fe,h.fa,h.op,hk,h.text,h.far,h.data,h.bss,h.align,h.syms,h.rels⟩
set_option maxRecDepth 100000 in
set_option maxHeartbeats 4000000 in
theorem yln (B:Nat) (s:ByteArray) (b g:Nat) (st0:As.St) (W:World) (h:yl B s b g st0 W) :
  Calls Tryz.prog 153 #[.pointer (some ⟨b,0,none⟩)] W fun en W'=>en = .returned (.tuple #[])/\yR B s b g W (As.section' st0) W':=by
 have D0:=hid h.doesB
 have c11:=ydm h
 have c13:=yai h
 have f13:=h.blk.free 13
 have OK:=hid h.ok
 clear h
 have RS:=hid (show As.section' st0=if st0.op.text=[46,116,101,120,116] then { st0 with sect:=1 } else if st0.op.text=[46,102,97,114] then { st0 with sect:=2 } else if st0.op.text=[46,100,97,116,97] then { st0 with sect:=3 } else if st0.op.text=[46,98,115,115] then { st0 with sect:=4 } else st0 from rfl)
 generalize As.section' st0=X at *
 have e:∀ l:List UInt8,((bs st0.op.text).toList == l)=decide (st0.op.text=l):=fun l=>by rw [yH,Bool.eq_iff_iff,beq_iff_eq,decide_eq_true_iff]
 have d1:=e [46,116,101,120,116]
 have d2:=e [46,102,97,114]
 have d3:=e [46,100,97,116,97]
 have d4:=e [46,98,115,115]
 clear e
 by_cases h1:st0.op.text=[46,116,101,120,116]
 ·rw [if_pos h1] at RS
  rw [decide_eq_true h1] at d1
  clear h1 d2 d3 d4
  go_enter Tryz.func153,Tryz.ntmps153
  go_wp2
  go_end0
  rw [RS.out]
  exact ⟨rfl,D0.out.sets [(13,.int .i64 1)] { st0 with sect:=1 } (by simp only [ybl,yE,ysz,ysA,yso,ysm,ysn]; rfl) rfl (OK.out.sect' 1 (by omega))⟩
 rw [if_neg h1] at RS
 rw [decide_eq_false h1] at d1
 clear h1
 by_cases h2:st0.op.text=[46,102,97,114]
 ·rw [if_pos h2] at RS
  rw [decide_eq_true h2] at d2
  clear h2 d3 d4
  go_enter Tryz.func153,Tryz.ntmps153
  go_wp2
  go_end0
  rw [RS.out]
  exact ⟨rfl,D0.out.sets [(13,.int .i64 2)] { st0 with sect:=2 } (by simp only [ybl,yE,ysz,ysA,yso,ysm,ysn]; rfl) rfl (OK.out.sect' 2 (by omega))⟩
 rw [if_neg h2] at RS
 rw [decide_eq_false h2] at d2
 clear h2
 by_cases h3:st0.op.text=[46,100,97,116,97]
 ·rw [if_pos h3] at RS
  rw [decide_eq_true h3] at d3
  clear h3 d4
  go_enter Tryz.func153,Tryz.ntmps153
  go_wp2
  go_end0
  rw [RS.out]
  exact ⟨rfl,D0.out.sets [(13,.int .i64 3)] { st0 with sect:=3 } (by simp only [ybl,yE,ysz,ysA,yso,ysm,ysn]; rfl) rfl (OK.out.sect' 3 (by omega))⟩
 rw [if_neg h3] at RS
 rw [decide_eq_false h3] at d3
 clear h3
 by_cases h4:st0.op.text=[46,98,115,115]
 ·rw [if_pos h4] at RS
  rw [decide_eq_true h4] at d4
  clear h4 
  go_enter Tryz.func153,Tryz.ntmps153
  go_wp2
  go_end0
  rw [RS.out]
  exact ⟨rfl,D0.out.sets [(13,.int .i64 4)] { st0 with sect:=4 } (by simp only [ybl,yE,ysz,ysA,yso,ysm,ysn]; rfl) rfl (OK.out.sect' 4 (by omega))⟩
 rw [if_neg h4] at RS
 rw [decide_eq_false h4] at d4
 clear h4
 go_enter Tryz.func153,Tryz.ntmps153
 go_wp2
 go_end0
 rw [RS.out]
 exact ⟨rfl,D0.out⟩
set_option maxRecDepth 100000 in
set_option maxHeartbeats 4000000 in
theorem ykF (B:Nat) (s:ByteArray) (b g:Nat) (st0:As.St) (W:World) (h:yl B s b g st0 W) :
  Calls Tryz.prog 157 #[.pointer (some ⟨b,0,none⟩)] W fun en W'=>en = .returned (.tuple #[])/\Does B s b g W (As.binding (sl s) st0) W':=by
 have c11:=ydm h
 have c1:=hid (yji B s b g st0 1 W h)
 have c2:=hid (yji B s b g st0 2 W h)
 clear h
 have RS:=hid (show As.binding (sl s) st0=As.bind (sl s) (if st0.op.text=[46,103,108,111,98,108] then 1 else 2) st0 from rfl)
 generalize As.binding (sl s) st0=X at *
 have d1:((bs st0.op.text).toList == [46,103,108,111,98,108])=decide (st0.op.text=[46,103,108,111,98,108]):=by rw [yH,Bool.eq_iff_iff,beq_iff_eq,decide_eq_true_iff]
 by_cases h1:st0.op.text=[46,103,108,111,98,108]
 ·rw [if_pos h1] at RS
  rw [decide_eq_true h1] at d1
  clear h1
  go_enter Tryz.func157,Tryz.ntmps157
  go_wp2_with fail
  refine c1.out.mono ?_
  rintro e VF ⟨rfl,hh⟩
  have DF:=hid hh
  clear hh
  go_wp2
  (try simp only [Exit.inBlock,Exit.then]); refine bodyPost_ret (results_none rfl _ _ _) rfl ?_
  rw [RS.out]
  exact ⟨rfl,DF.out⟩
 ·rw [if_neg h1] at RS
  rw [decide_eq_false h1] at d1
  clear h1
  go_enter Tryz.func157,Tryz.ntmps157
  go_wp2_with fail
  refine c2.out.mono ?_
  rintro e VF ⟨rfl,hh⟩
  have DF:=hid hh
  clear hh
  go_wp2
  go_end0
  rw [RS.out]
  exact ⟨rfl,DF.out⟩
set_option maxRecDepth 100000 in
set_option maxHeartbeats 4000000 in
theorem ypL (B:Nat) (s:ByteArray) (b g:Nat) (st0:As.St) (W:World) (h:yl B s b g st0 W) :
  Calls Tryz.prog 154 #[.pointer (some ⟨b,0,none⟩)] W fun en W'=>en = .returned (.tuple #[])/\Does B s b g W (As.word (sl s) st0) W':=by
 have D0:=hid h.does
 clear h
 obtain ⟨X,hX⟩:∃ X,X=As.word (sl s) st0:=⟨_,rfl⟩
 rw [<- hX]
 unfold As.word at hX
 dsimp only at hX
 have RS:=hid hX
 clear hX
 go_enter Tryz.func154,Tryz.ntmps154
 obtain ⟨c2,c3,c4,c5⟩:=ybh D0.out.1
 cases hk:(st0.tok.kind == 1)
 ·have d:((st0.tok.kind:Int) == 1)=false:=by simp at hk ⊢; omega
  have d':((st0.tok.kind:Int) != 1)=true:=by simp at hk ⊢; omega
  rw [hk] at RS
  rw [if_neg (by simp)] at RS
  clear hk
  go_wp2_with fail
  refine (yaX B s b g st0 (-2147483648) 4294967295 _ D0.out.1).mono ?_
  rintro e V1 ⟨rfl,hh⟩
  have D1:=hid (D0.out.afterB hh)
  clear hh D0 c2 c3 c4 c5
  generalize As.number (sl s) (-2147483648) 4294967295 st0=R1 at *
  obtain ⟨n,st1⟩:=R1
  dsimp only at RS D1 ⊢
  have AN:=ylB n
  generalize n % 4294967296=m at *
  go_wp2_with fail
  refine (ydg B s b g st1 _ 1 [m] _ (D1.out.alloc _).1 (yfL V1 m) (by simp)).mono ?_
  rintro e VF ⟨rfl,hh⟩
  have DF:=hid ((D1.out.alloc _).after hh)
  clear hh
  go_wp2
  first | go_end0 | ((try simp only [Exit.inBlock,Exit.then]); refine bodyPost_ret (results_none rfl _ _ _) rfl ?_)
  rw [RS.out]
  exact ⟨rfl,DF.out⟩
 ·have d:((st0.tok.kind:Int) == 1)=true:=by simp at hk ⊢; omega
  have d':((st0.tok.kind:Int) != 1)=false:=by simp at hk ⊢; omega
  rw [hk] at RS
  rw [if_pos rfl] at RS
  clear hk
  go_wp2_with fail
  refine (ydN B s b g st0 _ D0.out.1).mono ?_
  rintro e V1 ⟨rfl,hh⟩
  have D1:=hid (D0.out.after hh)
  clear hh D0 c2 c3 c4 c5
  generalize As.target (sl s) st0=R1 at *
  obtain ⟨⟨sym,add⟩,st1⟩:=R1
  dsimp only at RS D1 ⊢
  go_wp2_with fail
  refine (ybm B s b g st1 1 sym add _ 1 [0] _ (D1.out.alloc _).1 (yfL V1 0) (by simp)).mono ?_
  rintro e VF ⟨rfl,hh⟩
  have DF:=hid ((D1.out.alloc _).after hh)
  clear hh
  go_wp2
  first | go_end0 | ((try simp only [Exit.inBlock,Exit.then]); refine bodyPost_ret (results_none rfl _ _ _) rfl ?_)
  rw [RS.out]
  exact ⟨rfl,DF.out⟩
set_option maxRecDepth 100000 in
set_option maxHeartbeats 4000000 in
theorem yol (B:Nat) (s:ByteArray) (b g:Nat) (st0:As.St) (W:World) (h:yl B s b g st0 W) :
  Calls Tryz.prog 155 #[.pointer (some ⟨b,0,none⟩)] W fun en W'=>en = .returned (.tuple #[])/\Does B s b g W (As.space (sl s) st0) W':=by
 have D0:=hid h.does
 clear h
 obtain ⟨X,hX⟩:∃ X,X=As.space (sl s) st0:=⟨_,rfl⟩
 rw [<- hX]
 unfold As.space at hX
 dsimp only at hX
 have RS:=hid hX
 clear hX
 go_enter Tryz.func155,Tryz.ntmps155
 have NB:=yeV (sl s) 0 4800 st0 (by omega) (by omega)
 go_wp2_with fail
 refine (yaX B s b g st0 0 4800 _ D0.out.1).mono ?_
 rintro e V1 ⟨rfl,hh⟩
 have D1:=hid (D0.out.afterB hh)
 clear hh D0
 generalize As.number (sl s) 0 4800 st0=R1 at *
 obtain ⟨n,st1⟩:=R1
 dsimp only at RS D1 NB ⊢
 have c10:=yfR D1.out.1
 have hpos:=D1.out.1.ok.op.pos
 obtain ⟨m,hm⟩:=Int.eq_ofNat_of_zero_le NB.1
 subst hm
 have hm0:(m:Int)<=4800:=NB.2
 by_cases c:(m:Int) % 4=0
 ·rw [if_pos c] at RS
  have d:((m:Int) % 4 == 0)=true:=by simp [c]
  have d':((m:Int) % 4 != 0)=false:=by simp [c]
  have em:((m:Int) / 4).toNat=m / 4:=by omega
  rw [em] at RS
  have hm4:=hid (show ((m:Int) / 4)=((m / 4:Nat):Int) by omega)
  have hm5:=hid (show m / 4<=4096 by omega)
  clear c em
  go_wp2_with fail
  refine (ybM 0 (m / 4) _ hm4.out _ hm5.out).mono ?_
  rintro e V2 ⟨⟨ao,cap,rfl,hw⟩,hg⟩
  have D2:=hid (D1.out.grown hg)
  have HWD:=hid hw
  clear hg hw
  go_wp2_with fail
  refine (yfV B s b g st1 0 (m / 4) ao cap V2 D2.out.1 HWD.out hm5.out).mono ?_
  rintro e V3 ⟨rfl,h3⟩
  have D3:=hid (D2.out.after h3)
  clear h3
  go_wp2
  go_end0
  rw [RS.out]
  exact ⟨rfl,D3.out⟩
 ·rw [if_neg c] at RS
  have d:((m:Int) % 4 == 0)=false:=by simp [c]
  have d':((m:Int) % 4 != 0)=true:=by simp [c]
  clear c
  go_wp2_with fail
  refine (yK B s b g st1 8 st1.op.pos V1 D1.out.1 (by omega) hpos).mono ?_
  rintro e V3 ⟨rfl,h3⟩
  have D3:=hid (D1.out.afterB h3)
  clear h3
  go_wp2
  (try simp only [Exit.inBlock,Exit.then]); refine bodyPost_ret (results_none rfl _ _ _) rfl ?_
  rw [RS.out]
  exact ⟨rfl,D3.out⟩
theorem yoh (form:Nat) (n:Int):As.place' form n < 2 ^ 32:=by
 have a1:=yao n 0 20
 have a2:=yao n 20 1
 have a3:=yao n 1 10
 have a4:=yao n 11 1
 have a5:=yao n 12 8
 have a6:=yao n 0 12
 have a7:=yao n 12 1
 have a8:=yao n 5 6
 have a9:=yao n 1 4
 have aa:=yao n 5 7
 have ab:=yao n 0 5
 unfold As.place'
 repeat' split
 ·omega
 ·exact Nat.or_lt_two_pow (Nat.or_lt_two_pow (Nat.or_lt_two_pow (by omega) (by omega)) (by omega)) (by omega)
 ·omega
 ·exact Nat.or_lt_two_pow (Nat.or_lt_two_pow (Nat.or_lt_two_pow (by omega) (by omega)) (by omega)) (by omega)
 ·exact Nat.or_lt_two_pow (by omega) (by omega)
 ·omega
theorem ynx (op:Nat):As.fixeds.getD op 0 < 2 ^ 32:=by
 have h:∀ x∈As.fixeds,x < 2 ^ 32:=by decide
 rw [ysB]
 cases e:As.fixeds[op]? with
 | none=>simp
 | some x=>exact h x (List.mem_of_getElem? e)
theorem yrv (op rd rs1 rs2:Nat) (n:Int):As.enc op rd rs1 rs2 n < 2 ^ 32:=by
 unfold As.enc As.encF
 have p:=yoh (As.forms.getD op 0) n
 have f:=ynx op
 have b1:=yao rd 0 5
 have b2:=yao rs1 0 5
 have b3:=yao rs2 0 5
 generalize As.forms.getD op 0=form at *
 have w0:=Nat.or_lt_two_pow f p
 generalize As.fixeds.getD op 0 ||| As.place' form n=x0 at *
 have w1:(if As.hasRd form then x0 ||| As.fld rd 0 5 * 128 else x0) < 2 ^ 32:=by
  split
  ·exact Nat.or_lt_two_pow w0 (by omega)
  ·exact w0
 dsimp only
 generalize (if As.hasRd form then x0 ||| As.fld rd 0 5 * 128 else x0)=x1 at *
 have w2:(if As.hasRs1 form then x1 ||| As.fld rs1 0 5 * 32768 else x1) < 2 ^ 32:=by
  split
  ·exact Nat.or_lt_two_pow w1 (by omega)
  ·exact w1
 generalize (if As.hasRs1 form then x1 ||| As.fld rs1 0 5 * 32768 else x1)=x2 at *
 split
 ·exact Nat.or_lt_two_pow w2 (by omega)
 ·exact w2
theorem ydF (op rd rs1 rs2:Nat) (n:Int):0<=Ln.encZ op rd rs1 rs2 n/\Ln.encZ op rd rs1 rs2 n<=4294967295:=by
 unfold Ln.encZ
 split
 ·omega
 ·have:=yrv op rd rs1 rs2 n
  omega
theorem yjJ (ms:List Ln.Mod) (m:Ln.Mod) (sect off x:Int) (h0:0<=x) (h1:x<=4294967295):0<=Ln.linked ms m sect off x/\Ln.linked ms m sect off x<=4294967295:=by
 unfold Ln.linked Ln.linkedR
 generalize (Ln.relocAt sect off 0 m.obj.rels).2=r
 repeat' split
 ·rw [ylB]; omega
 ·exact ydF _ _ _ _ _
 ·exact ydF _ _ _ _ _
 ·exact ydF _ _ _ _ _
 ·exact ydF _ _ _ _ _
 ·exact ⟨h0,h1⟩
def W32 (xs:List Int):Prop:=∀ x∈xs,0<=x/\x<=4294967295
theorem W32.of_words {xs:List Int} (h:ybk xs):W32 xs:=by
 intro x hx
 obtain ⟨i,hi,rfl⟩:=List.getElem_of_mem hx
 exact h i hi
theorem W32.app {xs ys:List Int} (h:W32 xs) (k:W32 ys):W32 (xs ++ ys):=by
 intro x hx
 rcases List.mem_append.1 hx with q | q
 ·exact h x q
 ·exact k x q
theorem ykB (ms:List Ln.Mod) (m:Ln.Mod) (sect:Int):∀ (ws:List Int) (k:Nat),W32 ws->W32 (Ln.addWords ms m sect k ws):=by
 intro ws
 induction ws with
 | nil=>intro k _ x hx; simp [Ln.addWords] at hx
 | cons w ws ih =>
  intro k hw
  have i:=ih (k+1) (fun x hx=>hw x (by simp [hx]))
  unfold Ln.addWords
  split
  ·intro x hx
   rcases List.mem_cons.1 hx with rfl | hx
   ·have:=hw w (by simp)
    exact yjJ ms m sect _ w this.1 this.2
   ·exact i x hx
  ·exact i
theorem yhu {o:Lk.Obj} (hv:yv o) (sect:Int):W32 (yw o sect):=by
 unfold yw
 repeat' split
 ·exact W32.of_words hv.2.2.1.1
 ·exact W32.of_words hv.2.2.1.2.1
 ·exact W32.of_words hv.2.2.1.2.2
 ·intro x hx; simp at hx
theorem yrw {base fl b:Int} {ws:List Int} (hf:0<=fl/\fl<=4294967295) (h:W32 ws):W32 (Ln.gapTo base fl b ws):=by
 unfold Ln.gapTo
 refine h.app fun x hx=>?_
 have:=List.eq_of_mem_replicate hx
 omega
theorem yfD (ms:List Ln.Mod) (sect base fl:Int) (hf:0<=fl/\fl<=4294967295):∀ (l:List Ln.Mod) (ws:List Int),(∀ m∈l,yv m.obj)->W32 ws->W32 (Ln.region ms sect base fl l ws):=by
 intro l
 induction l with
 | nil=>intro ws _ h; exact h
 | cons m l ih =>
  intro ws hv h
  unfold Ln.region
  refine ih _ (fun x hx=>hv x (by simp [hx])) ?_
  unfold Ln.addTo
  exact (yrw hf h).app (ykB ms m sect _ 0 (yhu (hv m (by simp)) sect))
theorem yee (m:Ln.Mod) (sect:Int) (ws:List Int) (k:Nat) (a:Int):(Ln.placesFrom m sect k ws a)[0]?=some a:=by
 cases ws <;> rfl
theorem yhx (ms:List Ln.Mod) (m:Ln.Mod) (sect:Int):∀ (ws:List Int) (k:Nat) (a:Int),(∀ i,i<=ws.length->some (Ln.address m sect (4 * (k+i:Nat)))=(Ln.placesFrom m sect k ws a)[i]?)->4 * ((Ln.addWords ms m sect k ws).length:Int)=Ln.endFrom m sect k ws a - a:=by
 intro ws
 induction ws with
 | nil=>intro k a _; simp [Ln.addWords,Ln.endFrom]
 | cons w ws ih =>
  intro k a h
  have h0:=h 0 (by simp)
  have h1:=h 1 (by simp)
  have tl:∀ i,i<=ws.length->some (Ln.address m sect (4 * (k+1+i:Nat)))=(Ln.placesFrom m sect (k+1) ws (if Ln.stays m sect (4 * k) a then a+4 else a))[i]?:=by
   intro i hi
   have:=h (i+1) (by simp; omega)
   rw [show k+(i+1)=k+1+i by omega] at this
   exact this
  have e:=ih (k+1) _ tl
  have p1:(Ln.placesFrom m sect k (w :: ws) a)[1]?=some (if Ln.stays m sect (4 * k) a then a+4 else a):=yee m sect ws (k+1) _
  have p0:(Ln.placesFrom m sect k (w :: ws) a)[0]?=some a:=rfl
  rw [p0] at h0
  rw [p1] at h1
  simp only [Option.some.injEq,Nat.add_zero] at h0 h1
  have e4:(4 * ((k+1:Nat):Int))=4 * (k:Int)+4:=by omega
  rw [e4] at h1
  have EF:Ln.endFrom m sect k (w :: ws) a=Ln.endFrom m sect (k+1) ws (if Ln.stays m sect (4 * k) a then a+4 else a):=rfl
  rw [EF]
  unfold Ln.addWords
  rw [h0,h1]
  clear tl p0 p1 h0 h1 EF h ih
  generalize Ln.stays m sect (4 * k) a=b at *
  cases b
  ·simp only [Bool.false_eq_true,if_false] at e ⊢
   rw [if_neg (by omega)]
   exact e
  ·simp only [if_true] at e ⊢
   rw [if_pos (by omega),yss]
   omega
def yco (sect:Nat) (ps:Ln.Mod->List Int):List Ln.Mod->Int->Int->Prop
 | [],t,e=>e=t
 | m :: r,t,e=>ps m=Ln.layPlaces m sect t/\yco sect ps r (Ln.layEnd m sect t) e
theorem yja (m:Ln.Mod) (k:Nat):Ln.address m 1 (4 * (k:Int))=m.text.getD k 0:=by
 unfold Ln.address Ln.placeOf
 rw [if_pos rfl,Int.tdiv_eq_ediv_of_nonneg (by omega),if_neg (by omega)]
 congr 1
 omega
theorem ykC (m:Ln.Mod) (k:Nat):Ln.address m 2 (4 * (k:Int))=m.far.getD k 0:=by
 unfold Ln.address Ln.placeOf
 rw [if_neg (by decide),if_pos rfl,Int.tdiv_eq_ediv_of_nonneg (by omega),if_neg (by omega)]
 congr 1
 omega
theorem ynj (ms:List Ln.Mod) (m:Ln.Mod) (sect:Nat) (base fl t:Int) (ws:List Int) (ps:List Int) (hps:ps=Ln.layPlaces m sect t) (had:∀ k:Nat,Ln.address m sect (4 * (k:Int))=ps.getD k 0) (h0:0<=t) (h1:t<=562949953421312) (hb:base % 4=0) (hl:base+4 * (ws.length:Int)=t) :
  base+4 * ((Ln.addTo ms m sect base fl ws).length:Int)=Ln.layEnd m sect t:=by
 have R:=yaM t (Ln.border m.obj sect) h0 (by omega) (yY _)
 have hbg:Ln.begin_ m sect t=Ln.rup t (Ln.border m.obj sect):=rfl
 have pr:=ydV m sect (yw m.obj sect) 0 (Ln.begin_ m sect t)
 have lp:ps=Ln.placesFrom m sect 0 (yw m.obj sect) (Ln.begin_ m sect t):=hps
 have A0:Ln.address m sect 0=Ln.begin_ m sect t:=by
  have:=had 0
  rw [Int.ofNat_zero,Int.mul_zero] at this
  rw [this,ysB,lp,yee]
  rfl
 have C:=yhx ms m sect (yw m.obj sect) 0 (Ln.begin_ m sect t) (fun i hi=>by
  rw [Nat.zero_add,had i,lp,ysB,yst (by rw [pr.1]; omega)]
  rfl)
 unfold Ln.addTo
 rw [ysq,yhI,A0]
 unfold Ln.layEnd
 rw [hbg] at C ⊢
 omega
theorem yhj (ms:List Ln.Mod) (sect:Nat) (hs:sect=1\/sect=2) (ps:Ln.Mod->List Int) (base fl:Int) (hb:base % 4=0) (had:∀ (m:Ln.Mod) (k:Nat),Ln.address m sect (4 * (k:Int))=(ps m).getD k 0) :
  ∀ (l:List Ln.Mod) (ws:List Int) (t e:Int),(∀ m∈l,yv m.obj)->0<=t->t+5000 * l.length<=1200000000->base+4 * (ws.length:Int)=t->yco sect ps l t e->base+4 * ((Ln.region ms sect base fl l ws).length:Int)=e:=by
 intro l
 induction l with
 | nil=>intro ws t e _ _ _ hl hc; unfold Ln.region; unfold yco at hc; omega
 | cons m l ih =>
  intro ws t e hv h0 h1 hl hc
  unfold yco at hc
  simp only [yss] at h1
  have r:=ybR (hv m (by simp)) sect hs t h0 (by omega)
  unfold Ln.region
  exact ih _ (Ln.layEnd m sect t) e (fun x hx=>hv x (by simp [hx])) (by omega) (by omega) (ynj ms m sect base fl t ws (ps m) hc.1 (had m) h0 (by omega) hb hl) hc.2
def ycc (sect:Nat):List Ln.Mod->Int->Int
 | [],t=>t
 | m :: r,t=>ycc sect r (Ln.layEnd m sect t)
theorem yff (sect:Nat) (hs:sect=1\/sect=2):∀ (l:List Ln.Mod) (t:Int),(∀ m∈l,yv m.obj)->0<=t->t+5000 * l.length<=1200000000->t<=ycc sect l t/\ycc sect l t<=t+4815 * l.length:=by
 intro l
 induction l with
 | nil=>intro t _ _ _; simp [ycc]
 | cons m l ih =>
  intro t hv h0 h1
  simp only [yss] at h1 ⊢
  have r:=ybR (hv m (by simp)) sect hs t h0 (by omega)
  have q:=ih (Ln.layEnd m sect t) (fun x hx=>hv x (by simp [hx])) (by omega) (by omega)
  unfold ycc
  omega
theorem yiD:∀ (ms:List Ln.Mod) (t f d:Int),yco 1 Ln.Mod.text (Ln.layMods ms t f d) t (ycc 1 ms t)/\yco 2 Ln.Mod.far (Ln.layMods ms t f d) f (ycc 2 ms f):=by
 intro ms
 induction ms with
 | nil=>intro t f d; exact ⟨rfl,rfl⟩
 | cons m ms ih =>
  intro t f d
  have q:=ih (Ln.layEnd m 1 t) (Ln.layEnd m 2 f) (Ln.rup d (Ln.border m.obj 3)+4 * m.obj.data.length)
  unfold Ln.layMods yco ycc
  have e1:Ln.layEnd (Ln.layOne m t f d) 1 t=Ln.layEnd m 1 t:=ydq (m:=m) (m':=Ln.layOne m t f d) rfl rfl 1 t
  have e2:Ln.layEnd (Ln.layOne m t f d) 2 f=Ln.layEnd m 2 f:=ydq (m:=m) (m':=Ln.layOne m t f d) rfl rfl 2 f
  rw [e1,e2]
  exact ⟨⟨(ycr (m:=m) (m':=Ln.layOne m t f d) rfl rfl 1 t).symm,q.1⟩,(ycr (m:=m) (m':=Ln.layOne m t f d) rfl rfl 2 f).symm,q.2⟩
theorem yfw (sect:Nat) (ps:Ln.Mod->List Int) (hps:∀ (m:Ln.Mod) (b:Int),ps { m with bss:=b }=ps m):∀ (ms:List Ln.Mod) (b t e:Int),yco sect ps ms t e->yco sect ps (Ln.layBss ms b) t e:=by
 intro ms
 induction ms with
 | nil=>intro b t e h; exact h
 | cons m ms ih =>
  intro b t e h
  unfold yco at h
  unfold Ln.layBss yco
  have e1:Ln.layEnd { m with bss:=Ln.rup b (Ln.border m.obj 4) } sect t=Ln.layEnd m sect t:=ydq (m:=m) (m':={ m with bss:=Ln.rup b (Ln.border m.obj 4) }) rfl rfl sect t
  have e2:Ln.layPlaces { m with bss:=Ln.rup b (Ln.border m.obj 4) } sect t=Ln.layPlaces m sect t:=ycr (m:=m) (m':={ m with bss:=Ln.rup b (Ln.border m.obj 4) }) rfl rfl sect t
  rw [e1,e2,hps]
  exact ⟨h.1,ih _ _ _ h.2⟩
def yci:List Ln.Mod->Int->Int->Prop
 | [],d,e=>e=d
 | m :: r,d,e=>m.data=Ln.rup d (Ln.border m.obj 3)/\yci r (Ln.rup d (Ln.border m.obj 3)+4 * m.obj.data.length) e
theorem yhK:∀ (ms:List Ln.Mod) (t f d:Int),yci (Ln.layMods ms t f d) d (Ln.dataEnd ms d):=by
 intro ms
 induction ms with
 | nil=>intro t f d; rfl
 | cons m ms ih=>intro t f d; unfold Ln.layMods yci Ln.dataEnd; exact ⟨rfl,ih _ _ _⟩
theorem yiC:∀ (ms:List Ln.Mod) (b d e:Int),yci ms d e->yci (Ln.layBss ms b) d e:=by
 intro ms
 induction ms with
 | nil=>intro b d e h; exact h
 | cons m ms ih=>intro b d e h; unfold yci at h; unfold Ln.layBss yci; exact ⟨h.1,ih _ _ _ h.2⟩
theorem yiY (ms:List Ln.Mod) (m:Ln.Mod):∀ (ws:List Int) (k:Nat),(Ln.addWords ms m 3 k ws).length=ws.length:=by
 intro ws
 induction ws with
 | nil=>intro k; rfl
 | cons w ws ih =>
  intro k
  unfold Ln.addWords
  have:Ln.address m 3 (4 * (k:Int)) < Ln.address m 3 (4 * (k:Int)+4):=by
   unfold Ln.address
   simp only [if_neg (show ¬ (3:Int)=1 by decide),if_neg (show ¬ (3:Int)=2 by decide),if_pos]
   omega
  rw [if_pos this,yss,ih,yss]
theorem ylf (ms:List Ln.Mod) (base fl:Int) (hb:base % 4=0):∀ (l:List Ln.Mod) (ws:List Int) (d e:Int),(∀ m∈l,yv m.obj)->0<=d->d+5000 * l.length<=1200000000->base+4 * (ws.length:Int)=d->yci l d e->base+4 * ((Ln.region ms 3 base fl l ws).length:Int)=e:=by
 intro l
 induction l with
 | nil=>intro ws d e _ _ _ hl hc; unfold Ln.region; unfold yci at hc; omega
 | cons m l ih =>
  intro ws d e hv h0 h1 hl hc
  unfold yci at hc
  simp only [yss] at h1
  have R:=yaM d (Ln.border m.obj 3) h0 (by omega) (yY _)
  have hdl:m.obj.data.length<=64:=(hv m (by simp)).1.1.2.2
  unfold Ln.region
  refine ih _ _ e (fun x hx=>hv x (by simp [hx])) ?_ ?_ ?_ hc.2
  ·omega
  ·omega
  ·have A0:Ln.address m 3 0=m.data:=by unfold Ln.address; simp
   have W3:yw m.obj 3=m.obj.data:=rfl
   unfold Ln.addTo
   rw [ysq,yhI,A0,yiY,W3,hc.1]
   omega
theorem yjj:∀ (ms:List Ln.Mod) (b:Int),(∀ m∈ms,yv m.obj)->0<=b->b+5000 * ms.length<=1200000000->b<=Ln.bssEnd ms b/\Ln.bssEnd ms b<=b+271 * ms.length:=by
 intro ms
 induction ms with
 | nil=>intro b _ _ _; simp [Ln.bssEnd]
 | cons m ms ih =>
  intro b hv h0 h1
  simp only [yss] at h1 ⊢
  have R:=yaM b (Ln.border m.obj 4) h0 (by omega) (yY _)
  have hb:=(hv m (by simp)).1.2.1
  have q:=ih (Ln.rup b (Ln.border m.obj 4)+4 * m.obj.bss) (fun x hx=>hv x (by simp [hx])) (by omega) (by omega)
  unfold Ln.bssEnd
  omega
theorem yfs:∀ (ms:List Ln.Mod) (d:Int),(∀ m∈ms,yv m.obj)->0<=d->d+5000 * ms.length<=1200000000->d<=Ln.dataEnd ms d/\Ln.dataEnd ms d<=d+271 * ms.length:=by
 intro ms
 induction ms with
 | nil=>intro b _ _ _; simp [Ln.dataEnd]
 | cons m ms ih =>
  intro d hv h0 h1
  simp only [yss] at h1 ⊢
  have R:=yaM d (Ln.border m.obj 3) h0 (by omega) (yY _)
  have hdl:m.obj.data.length<=64:=(hv m (by simp)).1.1.2.2
  have q:=ih (Ln.rup d (Ln.border m.obj 3)+4 * m.obj.data.length) (fun x hx=>hv x (by simp [hx])) (by omega) (by omega)
  unfold Ln.dataEnd
  omega
end Go.Proofs.YtpgklkhgfcjceaaGreatDoor
