// Package instr: instructions, and the words that they are (P3).
package instr

// The instructions. None stands for a word that is no instruction.
const (
	None  = 0
	Lui   = 1
	Auipc = 2
	Jal   = 3
	Jalr  = 4
	Beq   = 5
	Bne   = 6
	Blt   = 7
	Bge   = 8
	Bltu  = 9
	Bgeu  = 10
	Lw    = 11
	Sw    = 12
	Addi  = 13
	Slti  = 14
	Xori  = 15
	Ori   = 16
	Andi  = 17
	Add   = 18
	Sub   = 19
	Slt   = 20
	Sltu  = 21
	Xor   = 22
	Or    = 23
	And   = 24
	Ecall = 25
)

// MaxWord is the greatest word.
const MaxWord = 1<<32 - 1

// Nop is the word that does nothing.
const Nop = 0x13

// The forms of instructions: which registers they have and where their number lies.
const (
	noForm     = 0
	upperForm  = 1 // rd; the number in bits 12 to 31
	jumpForm   = 2 // rd; the number of jal
	shortForm  = 3 // rd, rs1; the number in bits 20 to 31
	branchForm = 4 // rs1, rs2; the number of branches
	storeForm  = 5 // rs1, rs2; the number of sw
	plainForm  = 6 // rd, rs1, rs2; no number
	bareForm   = 7 // nothing but itself
)

// forms has each instruction's form.
var forms = [Ecall + 1]int{
	None: noForm,
	Lui:  upperForm, Auipc: upperForm,
	Jal: jumpForm, Jalr: shortForm,
	Beq: branchForm, Bne: branchForm, Blt: branchForm, Bge: branchForm, Bltu: branchForm, Bgeu: branchForm,
	Lw: shortForm, Sw: storeForm,
	Addi: shortForm, Slti: shortForm, Xori: shortForm, Ori: shortForm, Andi: shortForm,
	Add: plainForm, Sub: plainForm, Slt: plainForm, Sltu: plainForm, Xor: plainForm, Or: plainForm, And: plainForm,
	Ecall: bareForm,
}

// fixed has the bits by which an instruction is known: all that are not a register's or its number's.
var fixed = [Ecall + 1]int{
	None: 0,
	Lui:  0x37, Auipc: 0x17,
	Jal: 0x6f, Jalr: 0x67,
	Beq: 0x63, Bne: 0x1063, Blt: 0x4063, Bge: 0x5063, Bltu: 0x6063, Bgeu: 0x7063,
	Lw: 0x2003, Sw: 0x2023,
	Addi: 0x13, Slti: 0x2013, Xori: 0x4013, Ori: 0x6013, Andi: 0x7013,
	Add: 0x33, Sub: 0x40000033, Slt: 0x2033, Sltu: 0x3033, Xor: 0x4033, Or: 0x6033, And: 0x7033,
	Ecall: 0x73,
}

// names has what each instruction is called.
var names = [Ecall + 1]string{
	None: "",
	Lui:  "lui", Auipc: "auipc",
	Jal: "jal", Jalr: "jalr",
	Beq: "beq", Bne: "bne", Blt: "blt", Bge: "bge", Bltu: "bltu", Bgeu: "bgeu",
	Lw: "lw", Sw: "sw",
	Addi: "addi", Slti: "slti", Xori: "xori", Ori: "ori", Andi: "andi",
	Add: "add", Sub: "sub", Slt: "slt", Sltu: "sltu", Xor: "xor", Or: "or", And: "and",
	Ecall: "ecall",
}

// Instr is an instruction, its registers and its number. What it does not have is 0.
type Instr struct {
	Op  int
	Rd  int
	Rs1 int
	Rs2 int
	N   int
}

// Decode gives the instruction that w is; Op is None if it is none.
func Decode(w int) Instr {
	if w < 0 || w > MaxWord {
		return Instr{}
	}
	for op := Lui; op <= Ecall; op++ {
		form := forms[op]
		if w&fixedMask(form) == fixed[op] {
			return fields(op, form, w)
		}
	}
	return Instr{}
}

// Encode gives the word that i is: of its registers and its number just the bits that have a place there. Without an instruction it is 0, which is none.
func Encode(i Instr) int {
	if i.Op < Lui || i.Op > Ecall {
		return 0
	}
	form := forms[i.Op]
	w := fixed[i.Op] | placeNumber(form, i.N)
	if hasRd(form) {
		w |= bits(i.Rd, 0, 5) << 7
	}
	if hasRs1(form) {
		w |= bits(i.Rs1, 0, 5) << 15
	}
	if hasRs2(form) {
		w |= bits(i.Rs2, 0, 5) << 20
	}
	return w
}

// Named gives the instruction that is called so, None if there is none.
func Named(s string) int {
	for op := Lui; op <= Ecall; op++ {
		if names[op] == s {
			return op
		}
	}
	return None
}

// IsBranch tells whether op is one of the six branches.
func IsBranch(op int) bool {
	return op >= Beq && op <= Bgeu
}

// Parts parts v for two instructions: its lowest 12 bits with a sign, low, and what lui or auipc has to add to them, high, in 20 bits.
func Parts(v int) (int, int) {
	low := signed(bits(v, 0, 12), 12)
	high := bits(v-low, 12, 20)
	return high, low
}

// fixedMask tells which bits are the fixed ones.
func fixedMask(form int) int {
	switch form {
	case upperForm, jumpForm:
		return 0x7f
	case shortForm, branchForm, storeForm:
		return 0x707f
	case plainForm:
		return 0xfe00707f
	}
	return MaxWord
}

// fields takes the registers and the number of op out of w.
func fields(op int, form int, w int) Instr {
	i := Instr{Op: op, N: takeNumber(form, w)}
	if hasRd(form) {
		i.Rd = bits(w, 7, 5)
	}
	if hasRs1(form) {
		i.Rs1 = bits(w, 15, 5)
	}
	if hasRs2(form) {
		i.Rs2 = bits(w, 20, 5)
	}
	return i
}

func hasRd(form int) bool {
	return form == upperForm || form == jumpForm || form == shortForm || form == plainForm
}

func hasRs1(form int) bool {
	return form == shortForm || form == branchForm || form == storeForm || form == plainForm
}

func hasRs2(form int) bool {
	return form == branchForm || form == storeForm || form == plainForm
}

// takeNumber gives the number in w.
func takeNumber(form int, w int) int {
	switch form {
	case upperForm:
		return bits(w, 12, 20)
	case jumpForm:
		return signed(bits(w, 31, 1)<<20|bits(w, 12, 8)<<12|bits(w, 20, 1)<<11|bits(w, 21, 10)<<1, 21)
	case shortForm:
		return signed(bits(w, 20, 12), 12)
	case branchForm:
		return signed(bits(w, 31, 1)<<12|bits(w, 7, 1)<<11|bits(w, 25, 6)<<5|bits(w, 8, 4)<<1, 13)
	case storeForm:
		return signed(bits(w, 25, 7)<<5|bits(w, 7, 5), 12)
	}
	return 0
}

// placeNumber gives the bits of a word in which n lies.
func placeNumber(form int, n int) int {
	switch form {
	case upperForm:
		return bits(n, 0, 20) << 12
	case jumpForm:
		return bits(n, 20, 1)<<31 | bits(n, 1, 10)<<21 | bits(n, 11, 1)<<20 | bits(n, 12, 8)<<12
	case shortForm:
		return bits(n, 0, 12) << 20
	case branchForm:
		return bits(n, 12, 1)<<31 | bits(n, 5, 6)<<25 | bits(n, 1, 4)<<8 | bits(n, 11, 1)<<7
	case storeForm:
		return bits(n, 5, 7)<<25 | bits(n, 0, 5)<<7
	}
	return 0
}

// bits gives count bits of n, from bit low on. The counts are uint, for a shift by one of those cannot panic.
func bits(n int, low uint, count uint) int {
	return n >> low & (1<<count - 1)
}

// signed takes the highest of the count bits of n for its sign.
func signed(n int, count uint) int {
	if n < 1<<count>>1 {
		return n
	}
	return n - 1<<count
}
