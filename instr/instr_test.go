package instr

import (
	"math"
	"math/rand"
	"testing"
)

// pattern is one row of the document's table, read from bit 31 to bit 0: 0 and 1 are themselves, d is rd, s is rs1, t is rs2, n is the number. places has the number's bits in the order in which the n stand.
type pattern struct {
	op     int
	bits   string
	places []int
	sign   bool
}

func down(from, to int) []int {
	var l []int
	for i := from; i >= to; i-- {
		l = append(l, i)
	}
	return l
}

func join(ls ...[]int) []int {
	var all []int
	for _, l := range ls {
		all = append(all, l...)
	}
	return all
}

func patterns() []pattern {
	upper, short := down(19, 0), down(11, 0)
	jump := join(down(20, 20), down(10, 1), down(11, 11), down(19, 12))
	branch := join(down(12, 12), down(10, 5), down(4, 1), down(11, 11))
	return []pattern{
		{Lui, "nnnnnnnnnnnnnnnnnnnnddddd0110111", upper, false},
		{Auipc, "nnnnnnnnnnnnnnnnnnnnddddd0010111", upper, false},
		{Jal, "nnnnnnnnnnnnnnnnnnnnddddd1101111", jump, true},
		{Jalr, "nnnnnnnnnnnnsssss000ddddd1100111", short, true},
		{Beq, "nnnnnnntttttsssss000nnnnn1100011", branch, true},
		{Bne, "nnnnnnntttttsssss001nnnnn1100011", branch, true},
		{Blt, "nnnnnnntttttsssss100nnnnn1100011", branch, true},
		{Bge, "nnnnnnntttttsssss101nnnnn1100011", branch, true},
		{Bltu, "nnnnnnntttttsssss110nnnnn1100011", branch, true},
		{Bgeu, "nnnnnnntttttsssss111nnnnn1100011", branch, true},
		{Lw, "nnnnnnnnnnnnsssss010ddddd0000011", short, true},
		{Sw, "nnnnnnntttttsssss010nnnnn0100011", short, true},
		{Addi, "nnnnnnnnnnnnsssss000ddddd0010011", short, true},
		{Slti, "nnnnnnnnnnnnsssss010ddddd0010011", short, true},
		{Xori, "nnnnnnnnnnnnsssss100ddddd0010011", short, true},
		{Ori, "nnnnnnnnnnnnsssss110ddddd0010011", short, true},
		{Andi, "nnnnnnnnnnnnsssss111ddddd0010011", short, true},
		{Add, "0000000tttttsssss000ddddd0110011", nil, false},
		{Sub, "0100000tttttsssss000ddddd0110011", nil, false},
		{Slt, "0000000tttttsssss010ddddd0110011", nil, false},
		{Sltu, "0000000tttttsssss011ddddd0110011", nil, false},
		{Xor, "0000000tttttsssss100ddddd0110011", nil, false},
		{Or, "0000000tttttsssss110ddddd0110011", nil, false},
		{And, "0000000tttttsssss111ddddd0110011", nil, false},
		{Ecall, "00000000000000000000000001110011", nil, false},
	}
}

// match reads w by the pattern, bit by bit.
func (p pattern) match(w int) (Instr, bool) {
	i := Instr{Op: p.op}
	n, k := 0, 0
	for at, c := range p.bits {
		bit := w >> uint(31-at) & 1
		switch c {
		case '0', '1':
			if bit != int(c-'0') {
				return Instr{}, false
			}
		case 'd':
			i.Rd = 2*i.Rd + bit
		case 's':
			i.Rs1 = 2*i.Rs1 + bit
		case 't':
			i.Rs2 = 2*i.Rs2 + bit
		case 'n':
			n += bit << uint(p.places[k])
			k++
		}
	}
	if p.sign && w>>31&1 == 1 {
		n -= 2 << uint(p.places[0])
	}
	i.N = n
	return i, true
}

func want(ps []pattern, w int) Instr {
	for _, p := range ps {
		if i, ok := p.match(w); ok {
			return i
		}
	}
	return Instr{}
}

func check(t *testing.T, ps []pattern, w int) {
	t.Helper()
	got, want := Decode(w), want(ps, w)
	if got != want {
		t.Fatalf("P3: Decode(%08x) = %+v, want %+v", w, got, want)
	}
	if got.Op != None && Encode(got) != w {
		t.Fatalf("P3: Encode(%+v) = %08x, want %08x", got, Encode(got), w)
	}
}

func TestPatternsAreWhole(t *testing.T) {
	for _, p := range patterns() {
		n := 0
		for _, c := range p.bits {
			if c == 'n' {
				n++
			}
		}
		if len(p.bits) != 32 || n != len(p.places) {
			t.Errorf("pattern of %d: %d bits, %d of its number for %d places", p.op, len(p.bits), n, len(p.places))
		}
	}
}

func TestEveryKindOfWord(t *testing.T) {
	ps := patterns()
	middles := []int{0, 1 << 7, 0x1f << 7, 1 << 15, 0x1f << 15, 1 << 20, 0x1f << 20, 0x15<<7 | 0x0a<<15 | 0x13<<20}
	for major := range 128 {
		for minor := range 8 {
			for top := range 128 {
				for _, middle := range middles {
					check(t, ps, major|minor<<12|top<<25|middle)
				}
			}
		}
	}
}

func TestEveryBitOfEachInstruction(t *testing.T) {
	ps := patterns()
	for _, p := range ps {
		for a := range 32 {
			for b := range 32 {
				w := Encode(Instr{Op: p.op})
				check(t, ps, w^1<<uint(a))
				check(t, ps, w^1<<uint(a)^1<<uint(b))
				if p.op != Ecall {
					w |= 0xffffff80 &^ (7 << 12)
					check(t, ps, w^1<<uint(a)^1<<uint(b))
				}
			}
		}
	}
}

func TestManyWords(t *testing.T) {
	ps := patterns()
	random := rand.New(rand.NewSource(3))
	for range 300000 {
		check(t, ps, int(random.Uint32()))
	}
}

func TestKnownWords(t *testing.T) {
	for _, c := range []struct {
		w int
		i Instr
	}{
		{0xfffef0b7, Instr{Op: Lui, Rd: 1, N: 0xfffef}},
		{0xe9008093, Instr{Op: Addi, Rd: 1, Rs1: 1, N: -368}},
		{0x000010b7, Instr{Op: Lui, Rd: 1, N: 1}},
		{0x80008093, Instr{Op: Addi, Rd: 1, Rs1: 1, N: -2048}},
		{0x7ff00513, Instr{Op: Addi, Rd: 10, N: 2047}},
		{0x00000013, Instr{Op: Addi}},
		{0x00000097, Instr{Op: Auipc, Rd: 1}},
		{0x000080e7, Instr{Op: Jalr, Rd: 1, Rs1: 1}},
		{0x00008067, Instr{Op: Jalr, Rs1: 1}},
		{0xfe208ee3, Instr{Op: Beq, Rs1: 1, Rs2: 2, N: -4}},
		{0x80209063, Instr{Op: Bne, Rs1: 1, Rs2: 2, N: -4096}},
		{0x7e20ffe3, Instr{Op: Bgeu, Rs1: 1, Rs2: 2, N: 4094}},
		{0x001000ef, Instr{Op: Jal, Rd: 1, N: 2048}},
		{0xffdff06f, Instr{Op: Jal, N: -4}},
		{0x800000ef, Instr{Op: Jal, Rd: 1, N: -1 << 20}},
		{0x7ffff0ef, Instr{Op: Jal, Rd: 1, N: 1<<20 - 2}},
		{0xfe512e23, Instr{Op: Sw, Rs1: 2, Rs2: 5, N: -4}},
		{0x00812283, Instr{Op: Lw, Rd: 5, Rs1: 2, N: 8}},
		{0x405201b3, Instr{Op: Sub, Rd: 3, Rs1: 4, Rs2: 5}},
		{0x005231b3, Instr{Op: Sltu, Rd: 3, Rs1: 4, Rs2: 5}},
		{0x00000073, Instr{Op: Ecall}},
	} {
		if got := Decode(c.w); got != c.i {
			t.Errorf("P3: Decode(%08x) = %+v, want %+v", c.w, got, c.i)
		}
		if got := Encode(c.i); got != c.w {
			t.Errorf("P3: Encode(%+v) = %08x, want %08x", c.i, got, c.w)
		}
	}
}

func TestNoInstructions(t *testing.T) {
	for _, w := range []int{
		0, 1, 0xffffffff,
		0x00003013, 0x00001013, 0x00005013, // sltiu and shifts are none of the part
		0x00001033, 0x00005033, 0x40005033, 0x02000033, 0x40007033,
		0x00000003, 0x00001003, 0x00000023, 0x00001067, 0x00002063, 0x00003063,
		0x00100073, 0x00008073, 0x000000f3, 0x0000000f,
	} {
		if got := Decode(w); got != (Instr{}) {
			t.Errorf("P3: Decode(%08x) = %+v, want no instruction", w, got)
		}
	}
}

func TestNumbersThatAreNoWords(t *testing.T) {
	for _, w := range []int{-1, 1 << 32, 1<<32 + Nop, -1<<32 + Nop, -1<<32 + 0x73, math.MinInt, math.MaxInt} {
		if got := Decode(w); got != (Instr{}) {
			t.Errorf("P3: Decode(%d) = %+v, want no instruction", w, got)
		}
	}
}

func TestEncodeAtAllNumbers(t *testing.T) {
	for _, op := range []int{math.MinInt, -1, None, Ecall + 1, math.MaxInt} {
		if w := Encode(Instr{Op: op, Rd: 1, N: 5}); w != 0 {
			t.Errorf("Encode of %d = %08x, want 0", op, w)
		}
	}
	for op := Lui; op <= Ecall; op++ {
		got, want := Encode(Instr{Op: op, Rd: 33, Rs1: 34, Rs2: 36}), Encode(Instr{Op: op, Rd: 1, Rs1: 2, Rs2: 4})
		if got != want {
			t.Errorf("Encode of %d with registers beyond 31 = %08x, want %08x", op, got, want)
		}
		for _, n := range []int{math.MinInt, -1 << 40, -1, 1 << 33, math.MaxInt} {
			w := Encode(Instr{Op: op, Rd: n, Rs1: n, Rs2: n, N: n})
			if w < 0 || w > MaxWord || Decode(w).Op != op {
				t.Errorf("Encode of %d with %d = %x: another instruction or no word", op, n, w)
			}
		}
	}
}

func TestIsBranch(t *testing.T) {
	for op := None; op <= Ecall; op++ {
		want := op == Beq || op == Bne || op == Blt || op == Bge || op == Bltu || op == Bgeu
		if IsBranch(op) != want {
			t.Errorf("IsBranch(%d) = %v", op, !want)
		}
	}
}

func TestNamed(t *testing.T) {
	words := []string{"lui", "auipc", "jal", "jalr", "beq", "bne", "blt", "bge", "bltu", "bgeu", "lw", "sw", "addi", "slti", "xori", "ori", "andi", "add", "sub", "slt", "sltu", "xor", "or", "and", "ecall"}
	for i, s := range words {
		if op := Named(s); op != i+Lui {
			t.Errorf("Named(%q) = %d, want %d", s, op, i+Lui)
		}
	}
	for _, s := range []string{"", "nop", "Lui", "lui ", "ad", "addd", "sltiu"} {
		if op := Named(s); op != None {
			t.Errorf("Named(%q) = %d, want none", s, op)
		}
	}
}

func TestParts(t *testing.T) {
	for _, v := range []int{0, 1, 2047, 2048, 4095, 4096, 6143, 6144, -1, -2048, -2049, -4096, 1<<31 - 1, 1<<31 - 2048, 1<<31 - 2049, 1 << 31, 1<<32 - 1, 1<<32 - 2048, 1<<32 - 2049, -1 << 31, math.MaxInt, math.MinInt} {
		high, low := Parts(v)
		if low < -2048 || low > 2047 || high < 0 || high >= 1<<20 || uint32(high<<12+low) != uint32(v) {
			t.Errorf("Parts(%d) = %d, %d", v, high, low)
		}
	}
}
