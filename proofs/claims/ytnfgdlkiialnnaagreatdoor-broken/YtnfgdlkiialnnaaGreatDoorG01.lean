/- The plain side: how numbers lie in bytes, what an object's bytes are, what reading them gives. Nothing of the program is named here. -/
/- What package asm does, as functions of lists. -/
/- The words of instructions, as functions. -/
/- The operations of package asm, as functions. -/
/- Walks over package wire's Reader. -/
/- Walks over package object's readers. -/
/- Walks over package object's readers: symbols, relocations. -/
import Derived.Test.YtnfgdlkiialnnaaGreatDoorRows
import Derived.WalkKit
import Derived.WalkSpells
import Derived.WalkLawsBesides
import Derived.Deep.QuietTactic
import Derived.BigQuiet
import Derived.Lib.Strings
namespace Go.Proofs.YtnfgdlkiialnnaaGreatDoor.Lk

structure Sym where
 name : List UInt8
 bind : Int
 sect : Int
 off : Int

structure Rel where
 sect : Int
 off : Int
 kind : Int
 sym : Int
 addend : Int

structure Obj where
 text : List Int
 far : List Int
 data : List Int
 bss : Int
 align : List Int
 syms : List Sym
 rels : List Rel

/-- a number in n bytes, the lowest first -/
def le (v : Int) : Nat → List UInt8
 | 0 => []
 | n + 1 => UInt8.ofNat (v % 256).toNat :: le (v / 256) n

/-- a reader: where it stands; whether bytes were short -/
abbrev St := Nat × Bool

end Go.Proofs.YtnfgdlkiialnnaaGreatDoor.Lk

namespace Go.Proofs.YtnfgdlkiialnnaaGreatDoor
namespace As

structure Tok where
 kind : Nat
 pos : Nat
 text : List UInt8
 n : Nat

def Tok.nil : Tok := ⟨0, 0, [], 0⟩

/-- the assembler: where the scanner stands, the token at hand, the fault, the operation, the section, the object -/
structure St where
 p : Nat
 tok : Tok
 fe : Nat
 fa : Nat
 op : Tok
 sect : Nat
 obj : Lk.Obj

def isDig (c : UInt8) : Bool := decide (48 ≤ c.toNat) && decide (c.toNat ≤ 57)
def inWord (c : UInt8) : Bool := (decide (97 ≤ c.toNat) && decide (c.toNat ≤ 122)) || c.toNat == 95 || isDig c || c.toNat == 46
def isSign (c : UInt8) : Bool := c.toNat == 44 || c.toNat == 58 || c.toNat == 40 || c.toNat == 41 || c.toNat == 43 || c.toNat == 45
def blank (c : UInt8) : Bool := c.toNat == 32 || c.toNat == 9
def notEnd (c : UInt8) : Bool := !(c.toNat == 10)
def ends (c : UInt8) : Bool := c.toNat == 10 || c.toNat == 35

/-- the first place from p on where f does not hold -/
def skip (f : UInt8 → Bool) (s : List UInt8) (p : Nat) : Nat := p + ((s.drop p).takeWhile f).length

/-- a number's digits -/
def dec (ds : List UInt8) : Nat := ds.foldl (fun n c => 10 * n + (c.toNat - 48)) 0

def scanNum (s : List UInt8) (p : Nat) : Tok × (Nat × Nat) × Nat :=
 if 10 < ((s.drop p).takeWhile isDig).length then (Tok.nil, (5, p), p + 10)
 else if ((s[skip isDig s p]?).map inWord).getD false then (Tok.nil, (2, skip isDig s p), skip isDig s p)
 else (⟨2, p, (s.drop p).takeWhile isDig, dec ((s.drop p).takeWhile isDig)⟩, (0, 0), skip isDig s p)

/-- the next token from q on, q being no blank -/
def nextAt (s : List UInt8) (q : Nat) : Tok × (Nat × Nat) × Nat :=
 match s[q]? with
 | none => (⟨4, q, [], 0⟩, (0, 0), q)
 | some c =>
  if ends c then (⟨4, q, [], 0⟩, (0, 0), q)
  else if isDig c then scanNum s q
  else if inWord c then (⟨1, q, (s.drop q).takeWhile inWord, 0⟩, (0, 0), skip inWord s q)
  else if isSign c then (⟨3, q, [c], 0⟩, (0, 0), q + 1)
  else (Tok.nil, (2, q), q)

def next (s : List UInt8) (p : Nat) : Tok × (Nat × Nat) × Nat := nextAt s (skip blank s p)

def failed (st : St) : Bool := !(st.fe == 0)

def refuse (e pos : Nat) (st : St) : St := if failed st then st else { st with fe := e, fa := pos, tok := Tok.nil }

def advance (s : List UInt8) (st : St) : St :=
 if failed st then st
 else if (next s st.p).2.1.1 == 0 then { st with p := (next s st.p).2.2, tok := (next s st.p).1 }
 else refuse (next s st.p).2.1.1 (next s st.p).2.1.2 { st with p := (next s st.p).2.2 }

def takeWord (s : List UInt8) (st : St) : Tok × St := if st.tok.kind == 1 then (st.tok, advance s st) else (Tok.nil, st)

def Tok.is (t : Tok) (c : List UInt8) : Bool := t.kind == 3 && t.text == c

/-- nextLine of the scanner -/
def lineEnd (s : List UInt8) (p : Nat) : Bool × Nat :=
 if skip notEnd s p < s.length then (true, skip notEnd s p + 1) else (false, skip notEnd s p)

def nextLine (s : List UInt8) (st : St) : Bool × St :=
 if failed st then (false, st) else ((lineEnd s st.p).1, { st with p := (lineEnd s st.p).2 })

def hasPoint (t : List UInt8) : Bool := t.any fun c => c.toNat == 46

/-- the number of the register that a word is -/
def regOf : List UInt8 → Option Nat
 | [x, a] => if x.toNat = 120 ∧ isDig a then some (a.toNat - 48) else none
 | [x, a, b] => if x.toNat = 120 ∧ isDig a ∧ a.toNat ≠ 48 ∧ isDig b ∧ 10 * (a.toNat - 48) + (b.toNat - 48) ≤ 31 then some (10 * (a.toNat - 48) + (b.toNat - 48)) else none
 | _ => none

def refuseIf (c : Bool) (e pos : Nat) (st : St) : St := if c then refuse e pos st else st

def checkName (t : Tok) (st : St) : St :=
 refuseIf (regOf t.text).isSome 7 t.pos (refuseIf (decide (6 < t.text.length)) 4 t.pos (refuseIf (hasPoint t.text) 3 t.pos st))

def secLen (o : Lk.Obj) (sect : Nat) : Int :=
 if sect = 4 then o.bss else if sect = 1 then o.text.length else if sect = 2 then o.far.length else if sect = 3 then o.data.length else 0

/-- the place of the symbol of this name -/
def findSym (ys : List Lk.Sym) (nm : List UInt8) : Option Nat := ys.findIdx? fun y => y.name == nm

def symbolNamed (t : Tok) (st : St) : (Nat × Bool) × St :=
 if failed st then ((0, false), st)
 else match findSym st.obj.syms t.text with
  | some i => ((i, true), st)
  | none =>
   if 16 ≤ st.obj.syms.length then ((0, false), refuse 11 t.pos st)
   else ((st.obj.syms.length, true), { st with obj := { st.obj with syms := st.obj.syms ++ [⟨t.text, 0, 0, 0⟩] } })

def setSym (st : St) (i : Nat) (f : Lk.Sym → Lk.Sym) : St := { st with obj := { st.obj with syms := st.obj.syms.modify i f } }

def label (t : Tok) (st0 : St) : St :=
 let r := symbolNamed t (checkName t st0)
 if !r.1.2 then r.2
 else if ((r.2.obj.syms[r.1.1]?).map (·.sect)).getD 0 ≠ 0 then refuse 10 t.pos r.2
 else setSym r.2 r.1.1 fun y => ⟨y.name, y.bind, r.2.sect, 4 * secLen r.2.obj r.2.sect⟩

def name (s : List UInt8) (st : St) : Tok × St :=
 if st.tok.kind == 1 then (st.tok, advance s (checkName st.tok st)) else (Tok.nil, refuse 3 st.tok.pos st)

def bind (s : List UInt8) (binding : Int) (st0 : St) : St :=
 let t := (name s st0).1
 let r := symbolNamed t (name s st0).2
 if !r.1.2 then r.2
 else if ((r.2.obj.syms[r.1.1]?).map (·.bind)).getD 0 ≠ 0 then refuse 14 t.pos r.2
 else setSym r.2 r.1.1 fun y => ⟨y.name, binding, y.sect, y.off⟩

def sign (s : List UInt8) (c : List UInt8) (st : St) : St := if st.tok.is c then advance s st else refuse 3 st.tok.pos st

def register (s : List UInt8) (st : St) : Nat × St :=
 if st.tok.kind == 1 then
  match regOf st.tok.text with
  | none => (0, refuse 7 st.tok.pos st)
  | some r => (r, advance s st)
 else (0, refuse 3 st.tok.pos st)

/-- number, behind its minus -/
def numberFrom (s : List UInt8) (neg : Bool) (pos : Nat) (lo hi : Int) (st : St) : Int × St :=
 if st.tok.kind == 2 then
  if (if neg then -(st.tok.n : Int) else (st.tok.n : Int)) < lo ∨ hi < (if neg then -(st.tok.n : Int) else (st.tok.n : Int)) then (0, refuse 8 pos st)
  else ((if neg then -(st.tok.n : Int) else (st.tok.n : Int)), advance s st)
 else (0, refuse 3 st.tok.pos st)

def number (s : List UInt8) (lo hi : Int) (st : St) : Int × St :=
 if st.tok.is [45] then numberFrom s true st.tok.pos lo hi (advance s st) else numberFrom s false st.tok.pos lo hi st

def symbol (s : List UInt8) (st : St) : Nat × St :=
 let r := symbolNamed (name s st).1 (name s st).2
 (r.1.1, r.2)

def target (s : List UInt8) (st : St) : (Nat × Int) × St :=
 let r := symbol s st
 if r.2.tok.is [43] then ((r.1, (number s 0 2047 (advance s r.2)).1), (number s 0 2047 (advance s r.2)).2)
 else if r.2.tok.is [45] then ((r.1, -(number s 0 2048 (advance s r.2)).1), (number s 0 2048 (advance s r.2)).2)
 else ((r.1, 0), r.2)

def place (s : List UInt8) (st : St) : (Int × Nat) × St :=
 let r := number s (-2048) 2047 st
 let q := register s (sign s [40] r.2)
 ((r.1, q.1), sign s [41] q.2)

def limit (sect : Nat) : Int := if sect = 3 then 64 else if sect = 4 then 64 else 1200

def addWords (o : Lk.Obj) (sect : Nat) (ws : List Int) : Lk.Obj :=
 if sect = 1 then { o with text := o.text ++ ws } else if sect = 2 then { o with far := o.far ++ ws } else if sect = 3 then { o with data := o.data ++ ws }
 else if sect = 4 then { o with bss := o.bss + ws.length } else o

def lay (ws : List Int) (st : St) : St :=
 if 4 * limit st.sect < 4 * secLen st.obj st.sect + 4 * (ws.length : Int) then refuse 13 st.op.pos st
 else if failed st then st
 else { st with obj := addWords st.obj st.sect ws }

def layWith (kind : Int) (sym : Nat) (addend : Int) (ws : List Int) (st0 : St) : St :=
 let st := refuseIf (decide (32 ≤ st0.obj.rels.length)) 12 st0.op.pos st0
 if failed st then st
 else lay ws { st with obj := { st.obj with rels := st.obj.rels ++ [⟨st.sect, 4 * secLen st.obj st.sect, kind, sym, addend⟩] } }

end As
end Go.Proofs.YtnfgdlkiialnnaaGreatDoor

namespace Go.Proofs.YtnfgdlkiialnnaaGreatDoor
namespace As

/-- count bits of n from bit low on -/
def fld (n : Int) (low count : Nat) : Nat := ((n / (2 : Int) ^ low) % (2 : Int) ^ count).toNat

def forms : List Nat := [0, 1, 1, 2, 3, 4, 4, 4, 4, 4, 4, 3, 5, 3, 3, 3, 3, 3, 6, 6, 6, 6, 6, 6, 6, 7]
def fixeds : List Nat := [0, 55, 23, 111, 103, 99, 4195, 16483, 20579, 24675, 28771, 8195, 8227, 19, 8211, 16403, 24595, 28691, 51, 1073741875, 8243, 12339, 16435, 24627, 28723, 115]

def place' (form : Nat) (n : Int) : Nat :=
 if form = 1 then fld n 0 20 * 4096
 else if form = 2 then fld n 20 1 * 2147483648 ||| fld n 1 10 * 2097152 ||| fld n 11 1 * 1048576 ||| fld n 12 8 * 4096
 else if form = 3 then fld n 0 12 * 1048576
 else if form = 4 then fld n 12 1 * 2147483648 ||| fld n 5 6 * 33554432 ||| fld n 1 4 * 256 ||| fld n 11 1 * 128
 else if form = 5 then fld n 5 7 * 33554432 ||| fld n 0 5 * 128
 else 0

def hasRd (form : Nat) : Bool := form == 1 || form == 2 || form == 3 || form == 6
def hasRs1 (form : Nat) : Bool := form == 3 || form == 4 || form == 5 || form == 6
def hasRs2 (form : Nat) : Bool := form == 4 || form == 5 || form == 6

/-- the word that an instruction is -/
def encF (form fixed : Nat) (rd rs1 rs2 : Nat) (n : Int) : Nat :=
 let w0 := fixed ||| place' form n
 let w1 := if hasRd form then w0 ||| fld rd 0 5 * 128 else w0
 let w2 := if hasRs1 form then w1 ||| fld rs1 0 5 * 32768 else w1
 if hasRs2 form then w2 ||| fld rs2 0 5 * 1048576 else w2
def enc (op rd rs1 rs2 : Nat) (n : Int) : Nat := encF (forms.getD op 0) (fixeds.getD op 0) rd rs1 rs2 n

end As
end Go.Proofs.YtnfgdlkiialnnaaGreatDoor

namespace Go.Proofs.YtnfgdlkiialnnaaGreatDoor
namespace As

/-- the lowest 12 bits with a sign, and what is left in 20 bits -/
def partLow (v : Int) : Int := if v % 4096 < 2048 then v % 4096 else v % 4096 - 4096
def partHigh (v : Int) : Int := (v - partLow v) / 4096 % 1048576

def layOne (op rd rs1 rs2 : Nat) (n : Int) (st : St) : St := lay [(enc op rd rs1 rs2 n : Int)] st

def layAddress (reg op rd rs1 rs2 : Nat) (n : Int) (sym : Nat) (addend : Int) (st : St) : St :=
 layWith 5 sym addend [(enc 1 reg 0 0 0 : Int), (enc op rd rs1 rs2 n : Int)] (refuseIf (reg == 0) 7 st.op.pos st)

def threeRegs (s : List UInt8) (op : Nat) (st : St) : St :=
 let a := register s st
 let b := register s (sign s [44] a.2)
 let c := register s (sign s [44] b.2)
 layOne op a.1 b.1 c.1 0 c.2

def twoRegsNum (s : List UInt8) (op : Nat) (st : St) : St :=
 let a := register s st
 let b := register s (sign s [44] a.2)
 let c := number s (-2048) 2047 (sign s [44] b.2)
 layOne op a.1 b.1 0 c.1 c.2

def upper (s : List UInt8) (st : St) : St :=
 let a := register s st
 let c := number s 0 1048575 (sign s [44] a.2)
 layOne 1 a.1 0 0 c.1 c.2

def load (s : List UInt8) (st : St) : St :=
 let a := register s st
 let st1 := sign s [44] a.2
 if st1.tok.kind == 1 then
  let t := target s st1
  layAddress a.1 11 a.1 a.1 0 0 t.1.1 t.1.2 t.2
 else
  let p := place s st1
  layOne 11 a.1 p.1.2 0 p.1.1 p.2

def store (s : List UInt8) (st : St) : St :=
 let a := register s st
 let st1 := sign s [44] a.2
 if st1.tok.kind == 1 then
  let t := target s st1
  let r := register s (sign s [44] t.2)
  layAddress r.1 12 0 r.1 a.1 0 t.1.1 t.1.2 r.2
 else
  let p := place s st1
  layOne 12 0 p.1.2 a.1 p.1.1 p.2

def loadAddress (s : List UInt8) (st : St) : St :=
 let a := register s st
 let t := target s (sign s [44] a.2)
 layAddress a.1 13 a.1 a.1 0 0 t.1.1 t.1.2 t.2

def jumpRegister (s : List UInt8) (st : St) : St :=
 let a := register s st
 let p := place s (sign s [44] a.2)
 layOne 4 a.1 p.1.2 0 p.1.1 p.2

def bare (st : St) : St :=
 if st.op.text = [101, 99, 97, 108, 108] then layOne 25 0 0 0 0 st
 else if st.op.text = [114, 101, 116] then layOne 4 0 1 0 0 st
 else if st.op.text = [110, 111, 112] then layOne 13 0 0 0 0 st
 else st

def branch (s : List UInt8) (op : Nat) (st : St) : St :=
 let a := register s st
 let b := register s (sign s [44] a.2)
 let y := symbol s (sign s [44] b.2)
 layWith 2 y.1 0 [(enc op 0 a.1 b.1 0 : Int)] y.2

def layJump (s : List UInt8) (rd : Nat) (st : St) : St :=
 let y := symbol s st
 layWith 3 y.1 0 [(enc 3 rd 0 0 0 : Int)] y.2

def jumpLink (s : List UInt8) (st : St) : St :=
 let a := register s st
 layJump s a.1 (sign s [44] a.2)

def move (s : List UInt8) (st : St) : St :=
 let a := register s st
 let b := register s (sign s [44] a.2)
 layOne 13 a.1 b.1 0 0 b.2

def loadNumber (s : List UInt8) (st : St) : St :=
 let a := register s st
 let c := number s (-2147483648) 2147483647 (sign s [44] a.2)
 if -2048 ≤ c.1 ∧ c.1 ≤ 2047 then layOne 13 a.1 0 0 c.1 c.2
 else lay [(enc 1 a.1 0 0 (partHigh c.1) : Int), (enc 13 a.1 a.1 0 (partLow c.1) : Int)] c.2

def call (s : List UInt8) (st : St) : St :=
 let tail := st.op.text == [116, 97, 105, 108]
 let y := symbol s st
 layWith 4 y.1 0 [(enc 2 (if tail then 6 else 1) 0 0 0 : Int), (enc 4 (if tail then 0 else 1) (if tail then 6 else 1) 0 0 : Int)] y.2

end As
end Go.Proofs.YtnfgdlkiialnnaaGreatDoor

namespace Go.Proofs.YtnfgdlkiialnnaaGreatDoor
open Go.RowKit

def sl (s : ByteArray) : List UInt8 := s.data.toList
def bs (l : List UInt8) : ByteArray := ⟨l.toArray⟩

theorem sl_length (s : ByteArray) : (sl s).length = s.size := by unfold sl; rw [Array.length_toList]; rfl
theorem bs_size (l : List UInt8) : (bs l).size = l.length := by simp [bs, ByteArray.size]
theorem sl_bs (l : List UInt8) : sl (bs l) = l := by simp [sl, bs]
theorem bs_sl (s : ByteArray) : bs (sl s) = s := by simp [sl, bs]
theorem extract_bs (s : ByteArray) (a b : Nat) : s.extract a b = bs (((sl s).drop a).take (b - a)) := Lib.extract_eq s a b
theorem ret_int {k : IntKind} {a b : Int} (h : a = b) : Ending.returned (.int k a) = .returned (.int k b) := by rw [h]
theorem ret_str {a b : ByteArray} (h : a = b) : Ending.returned (.string a) = .returned (.string b) := by rw [h]

theorem hid {p : Prop} (h : p) : Hid p := h

/-- grown twice -/
theorem grown_trans {a b c : World} {row : Option Nat} (h : a.grownBy b row) (k : b.grownBy c row) : a.grownBy c row :=
 ⟨k.os.trans h.os, k.tape.trans h.tape, k.output.trans h.output, Nat.le_trans h.size k.size, fun i hi hr => (k.block i (Nat.lt_of_lt_of_le hi h.size) hr).trans (h.block i hi hr)⟩
theorem grown_any {a b : World} {row : Option Nat} (h : a.grownBy b none) : a.grownBy b row := ⟨h.os, h.tape, h.output, h.size, fun i hi _ => h.block i hi (by simp)⟩
theorem grown_drewN {a b : World} {row : Option Nat} (h : a.grownBy b row) (n : Nat) : a.grownBy (b.drewN n) row := by
 induction n with
 | zero => exact h
 | succ n ih => exact ⟨ih.os, ih.tape, ih.output, ih.size, ih.block⟩
theorem grown_below {a b : World} {row : Option Nat} (h : a.grownBy b row) {B : Nat} (hB : B ≤ a.heap.size) (hr : ∀ k, row = some k → B ≤ k) : Below B a b :=
 (Below.refl B a).grown h hB hr
theorem grown_set (w : World) (b o : Nat) (v : Value) : w.grownBy (w.setCell ⟨b, o, none⟩ v) (some b) :=
 ⟨rfl, rfl, rfl, by simp [World.setCell], fun k _ hr => Below.heap_setCell _ _ _ _ (by simpa using hr)⟩
theorem heap_drewN (w : World) (n : Nat) : (w.drewN n).heap = w.heap := by
 induction n with
 | zero => rfl
 | succ n ih => exact ih

/-- a Reader lies in block b: its bytes, where it stands, whether it was short -/
def RdAt (w : World) (b : Nat) (s : ByteArray) (p : Nat) (sh : Bool) : Prop :=
 w.heap[b]? = some (.cells #[.string s, .int .i64 p, .bool sh] 63 (0, 0))

theorem RdAt.lt {w : World} {b : Nat} {s : ByteArray} {p : Nat} {sh : Bool} (h : RdAt w b s p sh) : b < w.heap.size := (Array.getElem?_eq_some_iff.1 h).1
theorem RdAt.c0 {w : World} {b : Nat} {s : ByteArray} {p : Nat} {sh : Bool} (h : RdAt w b s p sh) : w.cell? ⟨b, 0, none⟩ = some (.string s) := by simp [World.cell?, show w.heap[b]? = _ from h]
theorem RdAt.c1 {w : World} {b : Nat} {s : ByteArray} {p : Nat} {sh : Bool} (h : RdAt w b s p sh) : w.cell? ⟨b, 1, none⟩ = some (.int .i64 p) := by simp [World.cell?, show w.heap[b]? = _ from h]
theorem RdAt.c2 {w : World} {b : Nat} {s : ByteArray} {p : Nat} {sh : Bool} (h : RdAt w b s p sh) : w.cell? ⟨b, 2, none⟩ = some (.bool sh) := by simp [World.cell?, show w.heap[b]? = _ from h]
theorem RdAt.free {w : World} {b : Nat} {s : ByteArray} {p : Nat} {sh : Bool} (h : RdAt w b s p sh) (o : Nat) : w.frozen? ⟨b, o, none⟩ = false := by simp [World.frozen?, show w.heap[b]? = _ from h]
theorem RdAt.grown {w w' : World} {b : Nat} {s : ByteArray} {p : Nat} {sh : Bool} (h : RdAt w b s p sh) {row : Option Nat} (hg : w.grownBy w' row) (hne : some b ≠ row) : RdAt w' b s p sh :=
 (hg.block b h.lt hne).trans h
theorem RdAt.drewN {w : World} {b : Nat} {s : ByteArray} {p : Nat} {sh : Bool} (h : RdAt w b s p sh) (n : Nat) : RdAt (w.drewN n) b s p sh := by
 unfold RdAt; rw [heap_drewN]; exact h
theorem heap_set_same {w : World} {b o : Nat} {cs : Array Value} {t : TypeId} (h : w.heap[b]? = some (.cells cs t (0, 0))) (v : Value) :
  (w.setCell ⟨b, o, none⟩ v).heap[b]? = some (.cells (cs.setIfInBounds o v) t (0, 0)) := by
 simp [World.setCell, Array.getElem?_modify, h]
theorem RdAt.set1 {w : World} {b : Nat} {s : ByteArray} {p : Nat} {sh : Bool} (h : RdAt w b s p sh) (q : Nat) : RdAt (w.setCell ⟨b, 1, none⟩ (.int .i64 q)) b s q sh := by
 have := heap_set_same (o := 1) h (.int .i64 q)
 simpa [RdAt] using this
theorem RdAt.set2 {w : World} {b : Nat} {s : ByteArray} {p : Nat} {sh : Bool} (h : RdAt w b s p sh) (q : Bool) : RdAt (w.setCell ⟨b, 2, none⟩ (.bool q)) b s p q := by
 have := heap_set_same (o := 2) h (.bool q)
 simpa [RdAt] using this

set_option maxHeartbeats 400000 in
theorem short_any (b : Nat) (s : ByteArray) (p : Nat) (sh : Bool) (w : World) (h : RdAt w b s p sh) :
  Calls Tryz.prog 177 #[.pointer (some ⟨b, 0, none⟩)] w fun e w' => e = .returned (.bool sh) ∧ w' = w := by
 have h2 := h.c2
 clear h
 go_enter Tryz.func177, Tryz.ntmps177
 go_wp2
 go_ret
 exact ⟨rfl, rfl⟩

set_option maxHeartbeats 400000 in
theorem done_any (b : Nat) (s : ByteArray) (p : Nat) (sh : Bool) (w : World) (h : RdAt w b s p sh) :
  Calls Tryz.prog 38 #[.pointer (some ⟨b, 0, none⟩)] w fun e w' => e = .returned (.bool (!sh && decide (p = s.size))) ∧ ∃ k, w' = w.drewN k := by
 have h0 := h.c0
 have h1 := h.c1
 have h2 := h.c2
 clear h
 cases sh
 ·go_enter Tryz.func38, Tryz.ntmps38
  go_wp2
  go_quiet (fail)
  go_wp2
  go_ret
  refine ⟨?_, _, rfl⟩
  have : ((p : Int) == (s.size : Int)) = decide (p = s.size) := by rw [Bool.eq_iff_iff]; simp; omega
  simp [this]
 ·go_enter Tryz.func38, Tryz.ntmps38
  go_wp2
  go_quiet (fail)
  go_wp2
  go_ret
  exact ⟨rfl, _, rfl⟩

set_option maxHeartbeats 400000 in
theorem text_yes (b : Nat) (s : ByteArray) (p n : Nat) (sh : Bool) (w : World) (h : RdAt w b s p sh)
  (hs : s.size ≤ 1048576) (hp : p ≤ s.size) (hn : n ≤ s.size - p) :
  Calls Tryz.prog 36 #[.pointer (some ⟨b, 0, none⟩), .int .i64 n] w fun e w' => e = .returned (.string (bs (Lk.rdText (sl s) n (p, sh)).1)) ∧ RdAt w' b s (Lk.rdText (sl s) n (p, sh)).2.1 (Lk.rdText (sl s) n (p, sh)).2.2 ∧ w.grownBy w' (some b) := by
 have e1 : Lk.rdText (sl s) n (p, sh) = (((sl s).drop p).take n, (p + n, sh)) := by
  unfold Lk.rdText; rw [if_pos (by rw [sl_length]; exact hn)]
 rw [e1]
 clear e1
 have h0 := h.c0
 have h1 := h.c1
 have f1 := h.free 1
 have R : Hid (RdAt w b s p sh) := h
 clear h
 have g1 : (0 : Int) ≤ n := by omega
 have g2 : (n : Int) ≤ (s.size : Int) - p := by omega
 have g3 : (p : Int) + n ≤ s.size := by omega
 have hd : decide ((n : Int) < 0) = false := by simp
 go_enter Tryz.func36, Tryz.ntmps36
 go_wp2
 go_quiet (fail)
 go_wp2
 go_quiet (fail)
 go_wp2
 go_ret
 refine ⟨ret_str ?_, ?_, ?_⟩
 ·rw [extract_bs, Nat.add_sub_cancel_left]
 ·exact ((R.out.drewN _).set1 (p + n)).drewN _
 ·exact grown_drewN (grown_trans (grown_drewN (World.grownBy.refl _ _) _) (grown_set _ _ _ _)) _

set_option maxHeartbeats 400000 in
theorem text_no (b : Nat) (s : ByteArray) (p n : Nat) (sh : Bool) (w : World) (h : RdAt w b s p sh)
  (_hs : s.size ≤ 1048576) (_hp : p ≤ s.size) (_hm : n ≤ 1048576) (hn : s.size - p < n) :
  Calls Tryz.prog 36 #[.pointer (some ⟨b, 0, none⟩), .int .i64 n] w fun e w' => e = .returned (.string (bs (Lk.rdText (sl s) n (p, sh)).1)) ∧ RdAt w' b s (Lk.rdText (sl s) n (p, sh)).2.1 (Lk.rdText (sl s) n (p, sh)).2.2 ∧ w.grownBy w' (some b) := by
 have e1 : Lk.rdText (sl s) n (p, sh) = ([], (p, true)) := by
  unfold Lk.rdText; rw [if_neg (by rw [sl_length]; omega)]
 rw [e1]
 clear e1
 have h0 := h.c0
 have h1 := h.c1
 have h2 := h.c2
 have f2 := h.free 2
 have R : Hid (RdAt w b s p sh) := h
 clear h
 have g1 : (0 : Int) ≤ n := by omega
 have g2 : (s.size : Int) - p < n := by omega
 have hd : decide ((n : Int) < 0) = false := by simp
 go_enter Tryz.func36, Tryz.ntmps36
 go_wp2
 go_quiet (fail)
 go_wp2
 go_ret
 refine ⟨rfl, ?_, ?_⟩
 ·exact (R.out.drewN _).set2 true
 ·exact grown_trans (grown_drewN (World.grownBy.refl _ _) _) (grown_set _ _ _ _)

theorem text_any (b : Nat) (s : ByteArray) (p n : Nat) (sh : Bool) (w : World) (h : RdAt w b s p sh)
  (hs : s.size ≤ 1048576) (hp : p ≤ s.size) (hm : n ≤ 1048576) :
  Calls Tryz.prog 36 #[.pointer (some ⟨b, 0, none⟩), .int .i64 n] w fun e w' => e = .returned (.string (bs (Lk.rdText (sl s) n (p, sh)).1)) ∧ RdAt w' b s (Lk.rdText (sl s) n (p, sh)).2.1 (Lk.rdText (sl s) n (p, sh)).2.2 ∧ w.grownBy w' (some b) := by
 by_cases hn : n ≤ s.size - p
 ·exact text_yes b s p n sh w h hs hp hn
 ·exact text_no b s p n sh w h hs hp hm (by omega)

theorem num_take_succ (l : List UInt8) (k : Nat) (hk : k < l.length) : Lk.num (l.take (k + 1)) = Lk.num (l.take k) + (l[k].toNat : Int) * (256 : Int) ^ k := by
 rw [List.take_succ_eq_append_getElem hk, Lk.num_append, List.length_take_of_le (by omega)]
 simp [Lk.num, Int.mul_comm]

theorem pow_le4 (k : Nat) (h : k ≤ 4) : 1 ≤ (256 : Int) ^ k ∧ (256 : Int) ^ k ≤ 4294967296 := by
 rcases (show k = 0 ∨ k = 1 ∨ k = 2 ∨ k = 3 ∨ k = 4 from by omega) with rfl | rfl | rfl | rfl | rfl <;> decide

theorem num_step (part : List UInt8) (k : Nat) (hk : k < part.length) (h4 : part.length ≤ 4) (h' : k < (bs part).size) :
  wrap64 (Lk.num (part.take k) + wrap64 (wrap64 (((bs part)[k]'h').toNat : Int) * (256 : Int) ^ k)) = Lk.num (part.take (k + 1)) := by
 have b1 := Lk.num_nonneg (part.take k)
 have b2 := Lk.num_lt (part.take k)
 rw [List.length_take_of_le (by omega)] at b2
 have b3 := pow_le4 k (by omega)
 have hts := num_take_succ part k hk
 have e0 : (((bs part)[k]'h').toNat : Int) = ((part[k]'hk).toNat : Int) := rfl
 have hb : ((part[k]'hk).toNat : Int) < 256 := by have := (part[k]'hk).toNat_lt; omega
 rw [e0]
 generalize hc : ((part[k]'hk).toNat : Int) = c at hb hts
 have hb0 : (0 : Int) ≤ c := by omega
 have m1 : c * (256 : Int) ^ k ≤ 255 * 4294967296 := Int.mul_le_mul (by omega) b3.2 (by omega) (by omega)
 have m0 : (0 : Int) ≤ c * (256 : Int) ^ k := Int.mul_nonneg hb0 (by omega)
 rw [IntWalk.wrap64_in c ⟨by omega, by omega⟩, IntWalk.wrap64_in (c * (256 : Int) ^ k) ⟨by omega, by omega⟩, IntWalk.wrap64_in _ ⟨by omega, by omega⟩, hts]

set_option maxHeartbeats 1000000 in
theorem number_any (b : Nat) (s : ByteArray) (p n : Nat) (sh : Bool) (w : World) (h : RdAt w b s p sh)
  (hs : s.size ≤ 1048576) (hp : p ≤ s.size) (hm : n ≤ 4) :
  Calls Tryz.prog 37 #[.pointer (some ⟨b, 0, none⟩), .int .i64 n] w fun e w' => e = .returned (.int .i64 (Lk.rdNum (sl s) n (p, sh)).1) ∧ RdAt w' b s (Lk.rdNum (sl s) n (p, sh)).2.1 (Lk.rdNum (sl s) n (p, sh)).2.2 ∧ w.grownBy w' (some b) := by
 have c := text_any b s p n sh w h hs hp (by omega)
 unfold Lk.rdNum
 have hl : (Lk.rdText (sl s) n (p, sh)).1.length ≤ 4 := by
  unfold Lk.rdText
  split
  ·simp; omega
  ·simp
 generalize Lk.rdText (sl s) n (p, sh) = r at c hl
 obtain ⟨part, st⟩ := r
 simp only at c hl ⊢
 clear h
 have C := hid c
 clear c
 go_enter Tryz.func37, Tryz.ntmps37
 go_wp2_with fail
 refine C.out.mono ?_
 rintro e w' ⟨rfl, hr, hg⟩
 have R : Hid (RdAt w' b s st.1 st.2 ∧ w.grownBy w' (some b)) := ⟨hr, hg⟩
 clear hr hg C
 go_wp2_with fail
 have hz := bs_size part
 go_loop [6, 7, 8] (fun t u i => ∃ k : Nat, k ≤ part.length ∧ i = .int .i64 k ∧ u = .int .i64 ((256 : Int) ^ k) ∧ t = .int .i64 (Lk.num (part.take k))) (fun _ _ i => part.length - (intOf i).toNat)
 case atStart => exact ⟨0, Nat.zero_le _, rfl, rfl, rfl⟩
 case round =>
  obtain ⟨k, hk, rfl, rfl, rfl⟩ := hrel
  have b1 := Lk.num_nonneg (part.take k)
  have b2 := Lk.num_lt (part.take k)
  rw [List.length_take_of_le hk] at b2
  have b3 := pow_le4 k (by omega)
  by_cases hlt : k < part.length
  ·have hlt' : k < (bs part).size := by omega
   go_wp2
   go_round
   case rel => exact ⟨k + 1, by omega, by go_num, by rw [Int.pow_succ], by rw [num_step part k hlt hl]⟩
   case measure => simp [intOf]; omega
  ·go_wp2
   go_ret
   exact ⟨ret_int (by rw [List.take_of_length_le (by omega)]), R.out.1, R.out.2⟩

end Go.Proofs.YtnfgdlkiialnnaaGreatDoor

namespace Go.Proofs.YtnfgdlkiialnnaaGreatDoor
open Go.RowKit

theorem Tryz.infoInt : (Tryz.prog.info? 3).map (fun i => (i.zero, i.size, i.bytes)) = some (some (.int .i64 0), 1, 8) := by kernel_rfl
theorem Tryz.infoSym : (Tryz.prog.info? 124).map (fun i => (i.zero, i.size, i.bytes)) = some (some (.agg #[.string ⟨#[]⟩, .int .i64 0, .int .i64 0, .int .i64 0]), 4, 40) := by kernel_rfl
theorem Tryz.infoRel : (Tryz.prog.info? 139).map (fun i => (i.zero, i.size, i.bytes)) = some (some (.agg #[.int .i64 0, .int .i64 0, .int .i64 0, .int .i64 0, .int .i64 0]), 5, 40) := by kernel_rfl

theorem rdText_le (l : List UInt8) (n : Nat) (st : Lk.St) (h : st.1 ≤ l.length) : (Lk.rdText l n st).2.1 ≤ l.length := by
 unfold Lk.rdText; split <;> simp <;> omega
theorem rdNum_le (l : List UInt8) (n : Nat) (st : Lk.St) (h : st.1 ≤ l.length) : (Lk.rdNum l n st).2.1 ≤ l.length := rdText_le l n st h

/-- grown, with what the call itself owns written besides -/
theorem grown_own {w wr w1 : World} {b : Nat} {row : Option Nat} (h : w.grownBy wr (some b)) (k : wr.grownBy w1 row) (hr : ∀ g, row = some g → w.heap.size ≤ g) : w.grownBy w1 (some b) :=
 ⟨k.os.trans h.os, k.tape.trans h.tape, k.output.trans h.output, Nat.le_trans h.size k.size, fun i hi hn =>
  (k.block i (Nat.lt_of_lt_of_le hi h.size) (fun e => by have := hr i e.symm; omega)).trans (h.block i hi hn)⟩

theorem rd_keep {w wr w1 : World} {o : Obj} {b : Nat} {s : ByteArray} {p : Nat} {sh : Bool} {row : Option Nat} (hb : b < w.heap.size) (hg : w.grownBy wr (some b)) (hr : RdAt wr b s p sh) (hk : (wr.alloc o).grownBy w1 row) (hrow : ∀ g, row = some g → w.heap.size ≤ g) :
  RdAt w1 b s p sh ∧ w.grownBy w1 (some b) := by
 have h1 : wr.grownBy (wr.alloc o) none := World.grownBy_alloc wr o none
 refine ⟨(hr.grown h1 (by simp)).grown hk (fun e => by have := hrow b e.symm; omega), ?_⟩
 exact grown_own (grown_own hg h1 (by simp)) hk hrow

theorem own_kept {w w' : World} {base : Nat} {e : TypeId} {size : Nat} {v : Value} {n : Nat} {xs : List Value} {b : Nat} (h : w.ownsRow base e size v n xs) (hb : b < base) (hg : w.grownBy w' (some b)) : w'.ownsRow base e size v n xs :=
 h.kept hg (by
  cases hv : v.ownBlock with
  | none => exact .inl rfl
  | some g => right; have := (h.lt g hv).1; simp; omega)

theorem rdNum_small (l : List UInt8) (n : Nat) (st : Lk.St) (h : n ≤ 4) : 0 ≤ (Lk.rdNum l n st).1 ∧ (Lk.rdNum l n st).1 < 4294967296 := by
 unfold Lk.rdNum
 have h1 := Lk.num_nonneg (Lk.rdText l n st).1
 have h2 := Lk.num_lt (Lk.rdText l n st).1
 have hl : (Lk.rdText l n st).1.length ≤ 4 := by
  unfold Lk.rdText
  split
  ·simp; omega
  ·simp
 have := pow_le4 _ hl
 exact ⟨h1, by omega⟩

set_option maxHeartbeats 1000000 in
theorem readNumbers_any (b : Nat) (s : ByteArray) (p count size : Nat) (sh : Bool) (w : World) (h : RdAt w b s p sh)
  (hs : s.size ≤ 1048576) (hp : p ≤ s.size) (hc : count ≤ 65535) (hm : size ≤ 4) :
  Calls Tryz.prog 84 #[.pointer (some ⟨b, 0, none⟩), .int .i64 count, .int .i64 size] w fun e w' => ∃ v, e = .returned v ∧
   w'.ownsRow w.heap.size 3 1 v (Lk.rdNums (sl s) size count (p, sh)).1.length ((Lk.rdNums (sl s) size count (p, sh)).1.map (Value.int .i64)) ∧
   RdAt w' b s (Lk.rdNums (sl s) size count (p, sh)).2.1 (Lk.rdNums (sl s) size count (p, sh)).2.2 ∧ w.grownBy w' (some b) := by
 obtain ⟨i0, hi, hz0, hz1, hz2⟩ := info_parts Tryz.infoInt
 have hb := h.lt
 have H := hid h
 clear h
 go_enter Tryz.func84, Tryz.ntmps84
 go_wp2_with fail
 go_loopw [7, 8] (fun v i wr => ∃ (k : Nat) (acc : List Int) (st : Lk.St), k ≤ count ∧ i = .int .i64 k ∧ acc.length = k ∧ st.1 ≤ s.size ∧
   wr.ownsRow w.heap.size 3 1 v acc.length (acc.map (Value.int .i64)) ∧ RdAt wr b s st.1 st.2 ∧ w.grownBy wr (some b) ∧
   Lk.rdNums (sl s) size count (p, sh) = (acc ++ (Lk.rdNums (sl s) size (count - k) st).1, (Lk.rdNums (sl s) size (count - k) st).2)) (fun _ i _ => count - (intOf i).toNat)
 case atStart => exact ⟨0, [], (p, sh), Nat.zero_le _, rfl, rfl, hp, World.ownsRow_nil _ _ _ _, H.out, World.grownBy.refl _ _, by simp⟩
 case round =>
  obtain ⟨k, acc, st, hk, rfl, hacc, hst, hown, hrd, hgr, heq⟩ := hrel
  have HE := hid heq
  have HA := hid hacc
  clear heq
  by_cases hlt : k < count
  ·cases hsh : st.2
   ·rw [hsh] at hrd
    have hsu : count - k = (count - (k + 1)) + 1 := by omega
    have hnb := rdNum_small (sl s) size (st.1, false) hm
    have hle := rdNum_le (sl s) size (st.1, false) (by rw [sl_length]; exact hst)
    have cN := hid (number_any b s st.1 size false wr hrd hs hst hm)
    have HN := hid (show Lk.rdNums (sl s) size (count - k) st = ((Lk.rdNum (sl s) size (st.1, false)).1 :: (Lk.rdNums (sl s) size (count - (k + 1)) (Lk.rdNum (sl s) size (st.1, false)).2).1, (Lk.rdNums (sl s) size (count - (k + 1)) (Lk.rdNum (sl s) size (st.1, false)).2).2) from by
     rw [hsu]
     have e : st = (st.1, false) := Prod.ext rfl hsh
     rw [e]; rfl)
    rw [sl_length] at hle
    clear hsu hsh
    generalize Lk.rdNum (sl s) size (st.1, false) = r at *
    obtain ⟨x, st'⟩ := r
    simp only at cN HN hnb hle
    have k2 := hrd.c2
    have HR := hid hrd
    clear hrd
    have hacc2 : acc.length ≤ 65535 := by omega
    go_wp2_with fail
    refine cN.out.mono ?_
    rintro e w2 ⟨rfl, hrd2, hgr2⟩
    have hown2 := own_kept hown hb hgr2
    have hgr3 := grown_trans hgr hgr2
    have HR2 := hid hrd2
    have HG2 := hid hgr3
    have hsz := hgr3.size
    clear hrd2 hgr2 hgr3 hown hgr HR k2 cN
    go_wp2_with (at_builtin; refine wpList_append_own _ rfl _ _ 37 rfl w.heap.size 3 i0 (.int .i64 0) 1 8 Tryz.underlying37 hi hz0 hz1 hz2 rfl (by decide) _ _ _ rfl (hown2.alloc _) ⟨w2.heap.size, 0, none⟩ 1 1 [.int .i64 x] rfl rfl (cell_one_new _ _ _) (by intro u hu; simp at hu; subst hu; rfl) (by unfold maxLen; omega) (by omega) (by simp; omega) ?_; intro v' w3 hown' hgrow _)
    have K := rd_keep hb HG2.out HR2.out hgrow (fun g hg => (hown2.lt g hg).1)
    clear hgrow hown2
    go_wp2
    go_roundw
    case rel =>
     refine ⟨k + 1, acc ++ [x], st', by omega, by go_num, by simp [HA.out], hle, ?_, K.1, K.2, ?_⟩
     ·simpa using hown'
     ·rw [HE.out, HN.out]; simp
    case measure => simp [intOf]; omega
   ·rw [hsh] at hrd
    have hfin : Lk.rdNums (sl s) size count (p, sh) = (acc, (st.1, true)) := by
     have hsu : count - k = (count - (k + 1)) + 1 := by omega
     rw [HE.out, hsu]
     have e : st = (st.1, true) := Prod.ext rfl hsh
     rw [e]
     simp [Lk.rdNums]
    have HF := hid hfin
    clear hfin hsh HE
    have k2 := hrd.c2
    have HR := hid hrd
    clear hrd
    go_wp2
    go_ret
    rw [HF.out]
    exact ⟨_, rfl, hown, HR.out, hgr⟩
  ·have hfin : Lk.rdNums (sl s) size count (p, sh) = (acc, st) := by
    have hsu : count - k = 0 := by omega
    rw [HE.out, hsu]
    simp [Lk.rdNums]
   have HF := hid hfin
   clear hfin HE
   have HR := hid hrd
   clear hrd
   have hd : decide ((k : Int) < (count : Int)) = false := by simp; omega
   go_wp2
   go_ret
   rw [HF.out]
   exact ⟨_, rfl, hown, HR.out, hgr⟩

end Go.Proofs.YtnfgdlkiialnnaaGreatDoor

namespace Go.Proofs.YtnfgdlkiialnnaaGreatDoor
open Go.RowKit

/-- a block of cells, whole -/
def BlkAt (w : World) (g : Nat) (cs : Array Value) (t : TypeId) : Prop := w.heap[g]? = some (.cells cs t (0, 0))
section
variable {w w' : World} {g : Nat} {cs : Array Value} {t : TypeId}
theorem BlkAt.lt (h : BlkAt w g cs t) : g < w.heap.size := (Array.getElem?_eq_some_iff.1 h).1
theorem BlkAt.cell (h : BlkAt w g cs t) (o : Nat) : w.cell? ⟨g, o, none⟩ = cs[o]? := by simp [World.cell?, show w.heap[g]? = _ from h]
theorem BlkAt.free (h : BlkAt w g cs t) (o : Nat) : w.frozen? ⟨g, o, none⟩ = false := by simp [World.frozen?, show w.heap[g]? = _ from h]
theorem BlkAt.set (h : BlkAt w g cs t) (o : Nat) (v : Value) : BlkAt (w.setCell ⟨g, o, none⟩ v) g (cs.setIfInBounds o v) t := heap_set_same h v
theorem BlkAt.grown (h : BlkAt w g cs t) {row : Option Nat} (hg : w.grownBy w' row) (hne : some g ≠ row) : BlkAt w' g cs t := (hg.block g h.lt hne).trans h
theorem BlkAt.new (w : World) (cs : Array Value) (t : TypeId) : BlkAt (w.alloc (.cells cs t)) w.heap.size cs t := heap_alloc_new w _
theorem BlkAt.drewN (h : BlkAt w g cs t) (n : Nat) : BlkAt (w.drewN n) g cs t := by unfold BlkAt; rw [heap_drewN]; exact h
end

/-- the world at a call made a letter -/
theorem Calls.at_world {P : Program} {f : Nat} {args : Array Value} {w : World} {K : Ending → World → Prop} (R : World → Prop) (hR : R w) (h : ∀ w, R w → Calls P f args w K) : Calls P f args w K := h w hR

/-- a call that reads into a variable of its own: the Reader in b, the variable in block 'size + 1', the result's place in block 'size' -/
structure St2 (w : World) (b : Nat) (s : ByteArray) (t : TypeId) (zs : Array Value) (p : Nat) (sh : Bool) (cs : Array Value) (W : World) : Prop where
 rd : RdAt W b s p sh
 own : BlkAt W (w.heap.size + 1) cs t
 res : BlkAt W w.heap.size zs t
 gr : w.grownBy W (some b)

section
variable {w W W' : World} {b : Nat} {s : ByteArray} {t : TypeId} {zs cs : Array Value} {p p' : Nat} {sh sh' : Bool}
theorem St2.begin (h : RdAt w b s p sh) : St2 w b s t zs p sh cs ((w.alloc (.cells zs t)).alloc (.cells cs t)) := by
 refine ⟨(h.grown (World.grownBy_alloc w _ none) (by simp)).grown (World.grownBy_alloc _ _ none) (by simp), ?_, ?_, ?_⟩
 ·have := BlkAt.new (w.alloc (.cells zs t)) cs t
  simpa using this
 ·exact (BlkAt.new w zs t).grown (World.grownBy_alloc _ _ none) (by simp)
 ·exact grown_trans (World.grownBy_alloc _ _ _) (World.grownBy_alloc _ _ _)
theorem St2.call (h : St2 w b s t zs p sh cs W) (hb : b < w.heap.size) (hr : RdAt W' b s p' sh') (hg : W.grownBy W' (some b)) : St2 w b s t zs p' sh' cs W' :=
 ⟨hr, h.own.grown hg (by simp; omega), h.res.grown hg (by simp; omega), grown_trans h.gr hg⟩
theorem St2.store (h : St2 w b s t zs p sh cs W) (hb : b < w.heap.size) (o : Nat) (v : Value) : St2 w b s t zs p sh (cs.setIfInBounds o v) (W.setCell ⟨w.heap.size + 1, o, none⟩ v) :=
 ⟨h.rd.grown (grown_set W (w.heap.size + 1) o v) (by simp; omega), h.own.set o v, h.res.grown (grown_set W (w.heap.size + 1) o v) (by simp), grown_own h.gr (grown_set W (w.heap.size + 1) o v) (by simp)⟩
theorem St2.put (h : St2 w b s t zs p sh cs W) (hb : b < w.heap.size) (o : Nat) (v : Value) : St2 w b s t (zs.setIfInBounds o v) p sh cs (W.setCell ⟨w.heap.size, o, none⟩ v) :=
 ⟨h.rd.grown (grown_set W w.heap.size o v) (by simp; omega), h.own.grown (grown_set W w.heap.size o v) (by simp), h.res.set o v, grown_own h.gr (grown_set W w.heap.size o v) (by simp)⟩
end

theorem number_lit (b : Nat) (s : ByteArray) (p n : Nat) (m : Int) (hmn : m = (n : Int)) (sh : Bool) (w : World) (h : RdAt w b s p sh)
  (hs : s.size ≤ 1048576) (hp : p ≤ s.size) (hm : n ≤ 4) :
  Calls Tryz.prog 37 #[.pointer (some ⟨b, 0, none⟩), .int .i64 m] w fun e w' => e = .returned (.int .i64 (Lk.rdNum (sl s) n (p, sh)).1) ∧ RdAt w' b s (Lk.rdNum (sl s) n (p, sh)).2.1 (Lk.rdNum (sl s) n (p, sh)).2.2 ∧ w.grownBy w' (some b) := by
 subst hmn; exact number_any b s p n sh w h hs hp hm

theorem text_lit (b : Nat) (s : ByteArray) (p n : Nat) (m : Int) (hmn : m = (n : Int)) (sh : Bool) (w : World) (h : RdAt w b s p sh)
  (hs : s.size ≤ 1048576) (hp : p ≤ s.size) (hm : n ≤ 1048576) :
  Calls Tryz.prog 36 #[.pointer (some ⟨b, 0, none⟩), .int .i64 m] w fun e w' => e = .returned (.string (bs (Lk.rdText (sl s) n (p, sh)).1)) ∧ RdAt w' b s (Lk.rdText (sl s) n (p, sh)).2.1 (Lk.rdText (sl s) n (p, sh)).2.2 ∧ w.grownBy w' (some b) := by
 subst hmn; exact text_any b s p n sh w h hs hp hm

theorem pow_mono (a d : Nat) : (256 : Int) ^ a ≤ (256 : Int) ^ (a + d) := by
 induction d with
 | zero => simp
 | succ d ih =>
  have h1 := Int.pow_succ (256 : Int) (a + d)
  have hp : (0 : Int) < 256 ^ (a + d) := Int.pow_pos (by decide)
  rw [← Nat.add_assoc, h1]
  omega

theorem rdNum_byte (l : List UInt8) (n : Nat) (st : Lk.St) : 0 ≤ (Lk.rdNum l n st).1 ∧ (Lk.rdNum l n st).1 < (256 : Int) ^ n := by
 unfold Lk.rdNum
 refine ⟨Lk.num_nonneg _, ?_⟩
 have h2 := Lk.num_lt (Lk.rdText l n st).1
 have hl : (Lk.rdText l n st).1.length ≤ n := by
  unfold Lk.rdText
  split
  ·simp; omega
  ·simp
 have hm := pow_mono (Lk.rdText l n st).1.length (n - (Lk.rdText l n st).1.length)
 rw [Nat.add_sub_cancel' hl] at hm
 omega

set_option maxHeartbeats 1000000 in
theorem readSymbol_any (b : Nat) (s : ByteArray) (p : Nat) (sh : Bool) (w : World) (h : RdAt w b s p sh)
  (hs : s.size ≤ 1048576) (hp : p ≤ s.size) :
  Calls Tryz.prog 178 #[.pointer (some ⟨b, 0, none⟩)] w fun e w' =>
   e = .returned (.agg #[.string (bs (Lk.rdSym (sl s) (p, sh)).1.name), .int .i64 (Lk.rdSym (sl s) (p, sh)).1.bind, .int .i64 (Lk.rdSym (sl s) (p, sh)).1.sect, .int .i64 (Lk.rdSym (sl s) (p, sh)).1.off]) ∧
   RdAt w' b s (Lk.rdSym (sl s) (p, sh)).2.1 (Lk.rdSym (sl s) (p, sh)).2.2 ∧ w.grownBy w' (some b) := by
 have hb := h.lt
 have hlen := sl_length s
 unfold Lk.rdSym
 simp only
 have ba := rdNum_byte (sl s) 1 (p, sh)
 have la := rdNum_le (sl s) 1 (p, sh) (by rw [hlen]; exact hp)
 have c1 := fun W h => number_lit b s p 1 1 rfl sh W h hs hp (by omega)
 generalize Lk.rdNum (sl s) 1 (p, sh) = a at *
 obtain ⟨len, p1, s1⟩ := a
 rw [hlen] at la
 simp only [Int.reducePow] at *
 have lt := rdText_le (sl s) len.toNat (p1, s1) (by rw [hlen]; exact la)
 have c2 := fun W h => text_lit b s p1 len.toNat len (by omega) s1 W h hs la (by omega)
 generalize Lk.rdText (sl s) len.toNat (p1, s1) = t at *
 obtain ⟨name, p2, s2⟩ := t
 rw [hlen] at lt
 simp only at *
 have lb := rdNum_le (sl s) 1 (p2, s2) (by rw [hlen]; exact lt)
 have c3 := fun W h => number_lit b s p2 1 1 rfl s2 W h hs lt (by omega)
 generalize Lk.rdNum (sl s) 1 (p2, s2) = x3 at *
 obtain ⟨bind, p3, s3⟩ := x3
 rw [hlen] at lb
 simp only at *
 have lc := rdNum_le (sl s) 1 (p3, s3) (by rw [hlen]; exact lb)
 have c4 := fun W h => number_lit b s p3 1 1 rfl s3 W h hs lb (by omega)
 generalize Lk.rdNum (sl s) 1 (p3, s3) = x4 at *
 obtain ⟨sect, p4, s4⟩ := x4
 rw [hlen] at lc
 simp only at *
 have c5 := fun W h => number_lit b s p4 2 2 rfl s4 W h hs lc (by omega)
 generalize Lk.rdNum (sl s) 2 (p4, s4) = x5 at *
 obtain ⟨off, p5, s5⟩ := x5
 simp only at *
 replace c1 := hid c1
 replace c2 := hid c2
 replace c3 := hid c3
 replace c4 := hid c4
 replace c5 := hid c5
 have H := hid h
 clear h hlen
 go_enter Tryz.func178, Tryz.ntmps178
 go_wp2_with fail
 refine Calls.at_world (St2 w b s 124 #[.string ⟨#[]⟩, .int .i64 0, .int .i64 0, .int .i64 0] p sh #[.string ⟨#[]⟩, .int .i64 0, .int .i64 0, .int .i64 0]) (St2.begin H.out) ?_
 intro W1 h1
 refine (c1.out W1 h1.rd).mono ?_
 rintro e W2 ⟨rfl, r2, q2⟩
 have S2 := hid (h1.call hb r2 q2)
 clear r2 q2 h1
 go_wp2_with fail
 refine (c2.out W2 S2.out.rd).mono ?_
 rintro e W3 ⟨rfl, r3, q3⟩
 have S3 := hid (S2.out.call hb r3 q3)
 have k3 := S3.out.own.cell 0
 have f3 := S3.out.own.free 0
 clear r3 q3 S2
 go_wp2_with fail
 refine Calls.at_world (St2 w b s 124 #[.string ⟨#[]⟩, .int .i64 0, .int .i64 0, .int .i64 0] p2 s2 #[.string (bs name), .int .i64 0, .int .i64 0, .int .i64 0]) (S3.out.store hb 0 _) ?_
 clear k3 f3 S3 W3
 intro W3 h3
 refine (c3.out W3 h3.rd).mono ?_
 rintro e W4 ⟨rfl, r4, q4⟩
 have S4 := hid (h3.call hb r4 q4)
 have k4 := S4.out.own.cell 1
 have f4 := S4.out.own.free 1
 clear r4 q4 h3
 go_wp2_with fail
 refine Calls.at_world (St2 w b s 124 #[.string ⟨#[]⟩, .int .i64 0, .int .i64 0, .int .i64 0] p3 s3 #[.string (bs name), .int .i64 bind, .int .i64 0, .int .i64 0]) (S4.out.store hb 1 _) ?_
 clear k4 f4 S4 W4
 intro W4 h4
 refine (c4.out W4 h4.rd).mono ?_
 rintro e W5 ⟨rfl, r5, q5⟩
 have S5 := hid (h4.call hb r5 q5)
 have k5 := S5.out.own.cell 2
 have f5 := S5.out.own.free 2
 clear r5 q5 h4
 go_wp2_with fail
 refine Calls.at_world (St2 w b s 124 #[.string ⟨#[]⟩, .int .i64 0, .int .i64 0, .int .i64 0] p4 s4 #[.string (bs name), .int .i64 bind, .int .i64 sect, .int .i64 0]) (S5.out.store hb 2 _) ?_
 clear k5 f5 S5 W5
 intro W5 h5
 refine (c5.out W5 h5.rd).mono ?_
 rintro e W6 ⟨rfl, r6, q6⟩
 have S6 := hid (h5.call hb r6 q6)
 have k60 := S6.out.own.cell 0
 have k61 := S6.out.own.cell 1
 have k62 := S6.out.own.cell 2
 have k63 := S6.out.own.cell 3
 have f63 := S6.out.own.free 3
 have m60 := S6.out.res.cell 0
 have m61 := S6.out.res.cell 1
 have m62 := S6.out.res.cell 2
 have m63 := S6.out.res.cell 3
 have n60 := S6.out.res.free 0
 have n61 := S6.out.res.free 1
 have n62 := S6.out.res.free 2
 have n63 := S6.out.res.free 3
 clear r6 q6 h5
 go_wp2
 have F := ((((S6.out.store hb 3 (.int .i64 off)).put hb 0 (.string (bs name))).put hb 1 (.int .i64 bind)).put hb 2 (.int .i64 sect)).put hb 3 (.int .i64 off)
 refine bodyPost_ret (v := .agg #[.string (bs name), .int .i64 bind, .int .i64 sect, .int .i64 off]) ?_ rfl ⟨rfl, F.rd, F.gr⟩
 have e0 := F.res.cell 0
 have e1 := F.res.cell 1
 have e2 := F.res.cell 2
 have e3 := F.res.cell 3
 clear S6 k60 k61 k62 k63 f63 m60 m61 m62 m63 n60 n61 n62 n63
 generalize World.setCell _ _ _ = WF at *
 simp [results, Tryz.results178, go_sem, e0, e1, e2, e3]

set_option maxHeartbeats 1000000 in
theorem readReloc_any (b : Nat) (s : ByteArray) (p : Nat) (sh : Bool) (w : World) (h : RdAt w b s p sh)
  (hs : s.size ≤ 1048576) (hp : p ≤ s.size) :
  Calls Tryz.prog 179 #[.pointer (some ⟨b, 0, none⟩)] w fun e w' =>
   e = .returned (.agg #[.int .i64 (Lk.rdRel (sl s) (p, sh)).1.sect, .int .i64 (Lk.rdRel (sl s) (p, sh)).1.off, .int .i64 (Lk.rdRel (sl s) (p, sh)).1.kind, .int .i64 (Lk.rdRel (sl s) (p, sh)).1.sym, .int .i64 (Lk.rdRel (sl s) (p, sh)).1.addend]) ∧
   RdAt w' b s (Lk.rdRel (sl s) (p, sh)).2.1 (Lk.rdRel (sl s) (p, sh)).2.2 ∧ w.grownBy w' (some b) := by
 have hb := h.lt
 have hlen := sl_length s
 unfold Lk.rdRel
 simp only
 have l1 := rdNum_le (sl s) 1 (p, sh) (by rw [hlen]; exact hp)
 have b1 := rdNum_byte (sl s) 1 (p, sh)
 have c1 := fun W h => number_lit b s p 1 1 rfl sh W h hs hp (by omega)
 generalize Lk.rdNum (sl s) 1 (p, sh) = x1 at *
 obtain ⟨sect, p1, s1⟩ := x1
 rw [hlen] at l1
 simp only [Int.reducePow] at *
 have l2 := rdNum_le (sl s) 1 (p1, s1) (by rw [hlen]; exact l1)
 have b2 := rdNum_byte (sl s) 1 (p1, s1)
 have c2 := fun W h => number_lit b s p1 1 1 rfl s1 W h hs l1 (by omega)
 generalize Lk.rdNum (sl s) 1 (p1, s1) = x2 at *
 obtain ⟨kind, p2, s2⟩ := x2
 rw [hlen] at l2
 simp only [Int.reducePow] at *
 have l3 := rdNum_le (sl s) 2 (p2, s2) (by rw [hlen]; exact l2)
 have b3 := rdNum_byte (sl s) 2 (p2, s2)
 have c3 := fun W h => number_lit b s p2 2 2 rfl s2 W h hs l2 (by omega)
 generalize Lk.rdNum (sl s) 2 (p2, s2) = x3 at *
 obtain ⟨off, p3, s3⟩ := x3
 rw [hlen] at l3
 simp only [Int.reducePow] at *
 have l4 := rdNum_le (sl s) 1 (p3, s3) (by rw [hlen]; exact l3)
 have b4 := rdNum_byte (sl s) 1 (p3, s3)
 have c4 := fun W h => number_lit b s p3 1 1 rfl s3 W h hs l3 (by omega)
 generalize Lk.rdNum (sl s) 1 (p3, s3) = x4 at *
 obtain ⟨sym, p4, s4⟩ := x4
 rw [hlen] at l4
 simp only [Int.reducePow] at *
 have b5 := rdNum_byte (sl s) 2 (p4, s4)
 have c5 := fun W h => number_lit b s p4 2 2 rfl s4 W h hs l4 (by omega)
 generalize Lk.rdNum (sl s) 2 (p4, s4) = x5 at *
 obtain ⟨add, p5, s5⟩ := x5
 simp only [Int.reducePow] at *
 replace c1 := hid c1
 replace c2 := hid c2
 replace c3 := hid c3
 replace c4 := hid c4
 replace c5 := hid c5
 have H := hid h
 clear h hlen
 go_enter Tryz.func179, Tryz.ntmps179
 go_wp2_with fail
 refine Calls.at_world (St2 w b s 139 #[.int .i64 0, .int .i64 0, .int .i64 0, .int .i64 0, .int .i64 0] p sh #[.int .i64 0, .int .i64 0, .int .i64 0, .int .i64 0, .int .i64 0]) (St2.begin H.out) ?_
 intro W1 h1
 refine (c1.out W1 h1.rd).mono ?_
 rintro e V1 ⟨rfl, r1, q1⟩
 have S1 := hid (h1.call hb r1 q1)
 have k1 := S1.out.own.cell 0
 have f1 := S1.out.own.free 0
 clear r1 q1 h1
 go_wp2_with fail
 refine Calls.at_world (St2 w b s 139 #[.int .i64 0, .int .i64 0, .int .i64 0, .int .i64 0, .int .i64 0] p1 s1 #[.int .i64 sect, .int .i64 0, .int .i64 0, .int .i64 0, .int .i64 0]) (S1.out.store hb 0 _) ?_
 clear k1 f1 S1 V1
 intro W2 h2
 refine (c2.out W2 h2.rd).mono ?_
 rintro e V2 ⟨rfl, r2, q2⟩
 have S2 := hid (h2.call hb r2 q2)
 have k2 := S2.out.own.cell 2
 have f2 := S2.out.own.free 2
 clear r2 q2 h2
 go_wp2_with fail
 refine Calls.at_world (St2 w b s 139 #[.int .i64 0, .int .i64 0, .int .i64 0, .int .i64 0, .int .i64 0] p2 s2 #[.int .i64 sect, .int .i64 0, .int .i64 kind, .int .i64 0, .int .i64 0]) (S2.out.store hb 2 _) ?_
 clear k2 f2 S2 V2
 intro W3 h3
 refine (c3.out W3 h3.rd).mono ?_
 rintro e V3 ⟨rfl, r3, q3⟩
 have S3 := hid (h3.call hb r3 q3)
 have k3 := S3.out.own.cell 1
 have f3 := S3.out.own.free 1
 clear r3 q3 h3
 go_wp2_with fail
 refine Calls.at_world (St2 w b s 139 #[.int .i64 0, .int .i64 0, .int .i64 0, .int .i64 0, .int .i64 0] p3 s3 #[.int .i64 sect, .int .i64 off, .int .i64 kind, .int .i64 0, .int .i64 0]) (S3.out.store hb 1 _) ?_
 clear k3 f3 S3 V3
 intro W4 h4
 refine (c4.out W4 h4.rd).mono ?_
 rintro e V4 ⟨rfl, r4, q4⟩
 have S4 := hid (h4.call hb r4 q4)
 have k4 := S4.out.own.cell 3
 have f4 := S4.out.own.free 3
 clear r4 q4 h4
 go_wp2_with fail
 refine Calls.at_world (St2 w b s 139 #[.int .i64 0, .int .i64 0, .int .i64 0, .int .i64 0, .int .i64 0] p4 s4 #[.int .i64 sect, .int .i64 off, .int .i64 kind, .int .i64 sym, .int .i64 0]) (S4.out.store hb 3 _) ?_
 clear k4 f4 S4 V4
 intro W5 h5
 refine (c5.out W5 h5.rd).mono ?_
 rintro e V5 ⟨rfl, r5, q5⟩
 have S5 := hid (h5.call hb r5 q5)
 clear r5 q5 h5
 have k0 := S5.out.own.cell 0
 have k1 := S5.out.own.cell 1
 have k2 := S5.out.own.cell 2
 have k3 := S5.out.own.cell 3
 have k4 := S5.out.own.cell 4
 have f4 := S5.out.own.free 4
 have m0 := S5.out.res.cell 0
 have n0 := S5.out.res.free 0
 have m1 := S5.out.res.cell 1
 have n1 := S5.out.res.free 1
 have m2 := S5.out.res.cell 2
 have n2 := S5.out.res.free 2
 have m3 := S5.out.res.cell 3
 have n3 := S5.out.res.free 3
 have m4 := S5.out.res.cell 4
 have n4 := S5.out.res.free 4
 by_cases hge : 32768 ≤ add
 ·have HG := hid (show Lk.sgn add = (add - 65536) from by unfold Lk.sgn; rw [if_pos hge])
  go_wp2
  have F := ((((((S5.out.store hb 4 (.int .i64 add)).store hb 4 (.int .i64 (add - 65536))).put hb 0 (.int .i64 sect)).put hb 1 (.int .i64 off)).put hb 2 (.int .i64 kind)).put hb 3 (.int .i64 sym)).put hb 4 (.int .i64 (add - 65536))
  refine bodyPost_ret (v := .agg #[.int .i64 sect, .int .i64 off, .int .i64 kind, .int .i64 sym, .int .i64 (add - 65536)]) ?_ rfl ⟨by rw [HG.out], F.rd, F.gr⟩
  have e0 := F.res.cell 0
  have e1 := F.res.cell 1
  have e2 := F.res.cell 2
  have e3 := F.res.cell 3
  have e4 := F.res.cell 4
  clear S5 k0 k1 k2 k3 k4 f4 m0 m1 m2 m3 m4 n0 n1 n2 n3 n4
  generalize World.setCell _ _ _ = WF at *
  simp [results, Tryz.results179, go_sem, e0, e1, e2, e3, e4]
 ·have HG := hid (show Lk.sgn add = add from by unfold Lk.sgn; rw [if_neg hge])
  go_wp2
  have F := (((((S5.out.store hb 4 (.int .i64 add)).put hb 0 (.int .i64 sect)).put hb 1 (.int .i64 off)).put hb 2 (.int .i64 kind)).put hb 3 (.int .i64 sym)).put hb 4 (.int .i64 add)
  refine bodyPost_ret (v := .agg #[.int .i64 sect, .int .i64 off, .int .i64 kind, .int .i64 sym, .int .i64 add]) ?_ rfl ⟨by rw [HG.out], F.rd, F.gr⟩
  have e0 := F.res.cell 0
  have e1 := F.res.cell 1
  have e2 := F.res.cell 2
  have e3 := F.res.cell 3
  have e4 := F.res.cell 4
  clear S5 k0 k1 k2 k3 k4 f4 m0 m1 m2 m3 m4 n0 n1 n2 n3 n4
  generalize World.setCell _ _ _ = WF at *
  simp [results, Tryz.results179, go_sem, e0, e1, e2, e3, e4]

end Go.Proofs.YtnfgdlkiialnnaaGreatDoor
