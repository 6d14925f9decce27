package linker_test

import (
	"fmt"
	"strings"
	"testing"

	"linker/api"
	"linker/linker"
)

func TestP8Examples(t *testing.T) {
	for _, c := range []struct{ text, hex string }{
		{"", "4c4b 0000 0000 0000 0000 02020202 00 00"},
		{"nop", "4c4b 0100 0000 0000 0000 02020202 00 00 13000000"},
		{".globl f\nf: call g", "4c4b 0200 0000 0000 0000 02020202 02 01 01 66 01 01 0000 01 67 01 00 0000 01 04 0000 01 0000 97000000 e7800000"},
		{".data\n.align 4\n.word -2\n.bss\n.space 12\n.weak w", "4c4b 0000 0000 0100 0300 02020402 01 00 01 77 02 00 0000 feffffff"},
		{".far\nlw x5,d-3\n.word d", "4c4b 0000 0300 0000 0000 02020202 01 02 01 64 01 00 0000 02 05 0000 00 fdff 02 01 0800 00 0000 b7020000 83a20200 00000000"},
	} {
		want := unhex(t, strings.ReplaceAll(c.hex, " ", ""))
		if s, f := linker.Assemble(c.text); s != want || f != (api.Fault{}) {
			t.Errorf("P8: Assemble(%q) = %x, %v, want %x", c.text, s, f, want)
		}
	}
}

// lays tells what a line lays, in text and in far alike.
type lays struct {
	line   string
	words  []int
	kind   int
	addend int
}

func tellWords(t *testing.T, l []lays) {
	t.Helper()
	for _, c := range l {
		want := bare()
		want.Text = c.words
		if c.kind != 0 {
			want.Syms = []api.Symbol{{Name: "a", Bind: api.Global}}
			want.Rels = []api.Reloc{{Sect: api.Text, Kind: c.kind, Addend: c.addend}}
		}
		if o := assembled(t, c.line); !same(o, want) {
			t.Errorf("P8: %s: %+v, want %+v", c.line, o, want)
		}
		want.Text, want.Far = nil, c.words
		for i := range want.Rels {
			want.Rels[i].Sect = api.Far
		}
		if o := assembled(t, ".far\n"+c.line); !same(o, want) {
			t.Errorf("P8: %s in far: %+v, want %+v", c.line, o, want)
		}
	}
}

func TestP8Operations(t *testing.T) {
	tellWords(t, []lays{
		{"add x3,x4,x5", []int{0x005201b3}, 0, 0}, {"sub x3,x4,x5", []int{0x405201b3}, 0, 0}, {"slt x3,x4,x5", []int{0x005221b3}, 0, 0}, {"sltu x3,x4,x5", []int{0x005231b3}, 0, 0},
		{"xor x3,x4,x5", []int{0x005241b3}, 0, 0}, {"or x3,x4,x5", []int{0x005261b3}, 0, 0}, {"and x3,x4,x5", []int{0x005271b3}, 0, 0},
		{"addi x3,x4,1", []int{0x00120193}, 0, 0}, {"slti x3,x4,-2", []int{0xffe22193}, 0, 0}, {"xori x3,x4,2047", []int{0x7ff24193}, 0, 0}, {"ori x3,x4,-2048", []int{0x80026193}, 0, 0}, {"andi x3,x4,-0", []int{0x00027193}, 0, 0},
		{"lui x3,0", []int{0x1b7}, 0, 0}, {"lui x3,1048575", []int{0xfffff1b7}, 0, 0}, {"lui x0,74565", []int{0x12345037}, 0, 0},
		{"lw x3,2047(x4)", []int{0x7ff22183}, 0, 0}, {"lw x3,-2048(x4)", []int{0x80022183}, 0, 0}, {"lw x0,0(x0)", []int{0x2003}, 0, 0},
		{"sw x3,2047(x4)", []int{0x7e322fa3}, 0, 0}, {"sw x3,-2048(x4)", []int{0x80322023}, 0, 0}, {"sw x31,33(x30)", []int{0x03ff20a3}, 0, 0},
		{"jalr x3,2047(x4)", []int{0x7ff201e7}, 0, 0}, {"jalr x0,-1(x31)", []int{0xffff8067}, 0, 0}, {"ecall", []int{0x73}, 0, 0}, {"ret", []int{0x8067}, 0, 0}, {"nop", []int{0x13}, 0, 0},
		{"beq x3,x4,a", []int{0x00418063}, api.RelBranch, 0}, {"bne x3,x4,a", []int{0x00419063}, api.RelBranch, 0}, {"blt x3,x4,a", []int{0x0041c063}, api.RelBranch, 0},
		{"bge x3,x4,a", []int{0x0041d063}, api.RelBranch, 0}, {"bltu x3,x4,a", []int{0x0041e063}, api.RelBranch, 0}, {"bgeu x31,x0,a", []int{0x000ff063}, api.RelBranch, 0},
		{"jal x0,a", []int{0x6f}, api.RelJal, 0}, {"jal x31,a", []int{0xfef}, api.RelJal, 0}, {"j a", []int{0x6f}, api.RelJal, 0}, {"mv x3,x4", []int{0x00020193}, 0, 0}, {"mv x0,x31", []int{0x000f8013}, 0, 0},
		{"call a", []int{0x97, 0x80e7}, api.RelCall, 0}, {"tail a", []int{0x317, 0x30067}, api.RelCall, 0},
	})
}

func TestP8Numbers(t *testing.T) {
	tellWords(t, []lays{
		{"li x1,0", []int{0x93}, 0, 0}, {"li x0,5", []int{0x00500013}, 0, 0}, {"li x3,2047", []int{0x7ff00193}, 0, 0}, {"li x3,-2048", []int{0x80000193}, 0, 0}, {"li x3,2048", []int{0x11b7, 0x80018193}, 0, 0}, {"li x3,-2049", []int{0xfffff1b7, 0x7ff18193}, 0, 0},
		{"li x1,-70000", []int{0xfffef0b7, 0xe9008093}, 0, 0}, {"li x1,2048", []int{0x000010b7, 0x80008093}, 0, 0}, {"li x3,4096", []int{0x11b7, 0x18193}, 0, 0}, {"li x3,4095", []int{0x11b7, 0xfff18193}, 0, 0}, {"li x3,-4096", []int{0xfffff1b7, 0x18193}, 0, 0},
		{"li x3,6143", []int{0x11b7, 0x7ff18193}, 0, 0}, {"li x3,6144", []int{0x21b7, 0x80018193}, 0, 0}, {"li x3,2147483647", []int{0x800001b7, 0xfff18193}, 0, 0}, {"li x3,2147481600", []int{0x800001b7, 0x80018193}, 0, 0}, {"li x3,2147481599", []int{0x7ffff1b7, 0x7ff18193}, 0, 0},
		{"li x3,-2147483648", []int{0x800001b7, 0x18193}, 0, 0}, {"li x3,-2147483647", []int{0x800001b7, 0x118193}, 0, 0}, {"li x0,4096", []int{0x1037, 0x13}, 0, 0},
		{".word 0", []int{0}, 0, 0}, {".word -0", []int{0}, 0, 0}, {".word 4294967295", []int{0xffffffff}, 0, 0}, {".word -2147483648", []int{0x80000000}, 0, 0}, {".word 2147483648", []int{0x80000000}, 0, 0}, {".word -1", []int{0xffffffff}, 0, 0},
		{".space 0", nil, 0, 0}, {".space -0", nil, 0, 0}, {".space 4", []int{0}, 0, 0}, {".space 20", []int{0, 0, 0, 0, 0}, 0, 0}, {".space 4800", repeat(1200, 0), 0, 0},
	})
	for _, c := range []struct {
		head, tail string
		low, high  int
	}{
		{"addi x1,x2,", "", -2048, 2047}, {"slti x1,x2,", "", -2048, 2047}, {"xori x1,x2,", "", -2048, 2047}, {"ori x1,x2,", "", -2048, 2047}, {"andi x1,x2,", "", -2048, 2047},
		{"lw x1,", "(x2)", -2048, 2047}, {"sw x1,", "(x2)", -2048, 2047}, {"jalr x1,", "(x2)", -2048, 2047}, {"lui x1,", "", 0, 1<<20 - 1}, {"li x1,", "", -1 << 31, 1<<31 - 1}, {".word ", "", -1 << 31, 1<<32 - 1},
		{".align ", "", 2, 4}, {"la x1,a+", "", 0, 2047}, {"la x1,a-", "", 0, 2048}, {"lw x1,a+", "", 0, 2047}, {"lw x1,a-", "", 0, 2048}, {"sw x1,a+", ",x2", 0, 2047}, {"sw x1,a-", ",x2", 0, 2048}, {".word a+", "", 0, 2047}, {".word a-", "", 0, 2048},
	} {
		l := []told{
			{c.head + fmt.Sprint(c.low) + c.tail, api.OK, 0}, {c.head + fmt.Sprint(c.high) + c.tail, api.OK, 0},
			{c.head + fmt.Sprint(c.low-1) + c.tail, api.ErrRange, len(c.head)}, {c.head + fmt.Sprint(c.high+1) + c.tail, api.ErrRange, len(c.head)},
			{c.head + " - 9999999999" + c.tail, api.ErrRange, len(c.head) + 1}, {c.head + "9999999999" + c.tail, api.ErrRange, len(c.head)}, {c.head + "--1" + c.tail, api.ErrSyntax, len(c.head) + 1}, {c.head + "+1" + c.tail, api.ErrSyntax, len(c.head)},
		}
		if c.low <= 0 {
			l = append(l, told{c.head + "-0" + c.tail, api.OK, 0})
		}
		tellFaults(t, "P8", l)
	}
	tellFaults(t, "P8", []told{{".space 4800", api.OK, 0}, {".space 4801", api.ErrRange, 7}, {".space 4804", api.ErrRange, 7}, {".space -1", api.ErrRange, 7}, {".space -4", api.ErrRange, 7}, {".space 4799", api.ErrRange, 0}, {".align -2", api.ErrRange, 7}, {".align -0", api.ErrRange, 7}, {".align 0", api.ErrRange, 7}})
}

func TestP8Addends(t *testing.T) {
	for _, c := range []struct {
		text   string
		addend int
	}{{"", 0}, {"+0", 0}, {"-0", 0}, {"+-0", 0}, {"--0", 0}, {"+1", 1}, {"-1", -1}, {" + 2047", 2047}, {" - 2048", -2048}, {"-2047", -2047}} {
		tellWords(t, []lays{
			{"la x3,a" + c.text, []int{0x1b7, 0x18193}, api.RelAddr, c.addend}, {"lw x3,a" + c.text, []int{0x1b7, 0x1a183}, api.RelAddr, c.addend},
			{"sw x3,a" + c.text + ",x4", []int{0x237, 0x00322023}, api.RelAddr, c.addend}, {"sw x0,a" + c.text + ",x31", []int{0xfb7, 0x000fa023}, api.RelAddr, c.addend}, {".word a" + c.text, []int{0}, api.RelWord, c.addend},
		})
		o := assembled(t, ".data\n.word a"+c.text)
		if !equal(o.Data, []int{0}) || !equal(o.Rels, []api.Reloc{{Sect: api.Data, Kind: api.RelWord, Addend: c.addend}}) {
			t.Errorf("P8: .word a%s in data: %+v", c.text, o)
		}
	}
	tellFaults(t, "P8", []told{{"j a+4", api.ErrSyntax, 3}, {"call a-4", api.ErrSyntax, 6}, {"beq x1,x2,a+4", api.ErrSyntax, 11}, {"jal x1,a+4", api.ErrSyntax, 8}, {".globl a+4", api.ErrSyntax, 8}, {"a+4:", api.ErrOp, 0}, {".word a+b", api.ErrSyntax, 8}, {".word a+4+4", api.ErrSyntax, 9}, {".word a 4", api.ErrSyntax, 8}})
}

// TestP8Registers: each register in each of its places.
func TestP8Registers(t *testing.T) {
	for r := range 32 {
		x := fmt.Sprint("x", r)
		tellWords(t, []lays{
			{"add " + x + ",x0,x0", []int{0x33 | r<<7}, 0, 0}, {"add x0," + x + ",x0", []int{0x33 | r<<15}, 0, 0}, {"add x0,x0," + x, []int{0x33 | r<<20}, 0, 0},
			{"addi " + x + ",x0,0", []int{0x13 | r<<7}, 0, 0}, {"addi x0," + x + ",0", []int{0x13 | r<<15}, 0, 0}, {"lui " + x + ",0", []int{0x37 | r<<7}, 0, 0},
			{"lw " + x + ",0(x0)", []int{0x2003 | r<<7}, 0, 0}, {"lw x0,0(" + x + ")", []int{0x2003 | r<<15}, 0, 0}, {"sw " + x + ",0(x0)", []int{0x2023 | r<<20}, 0, 0}, {"sw x0,0(" + x + ")", []int{0x2023 | r<<15}, 0, 0},
			{"jalr " + x + ",0(x0)", []int{0x67 | r<<7}, 0, 0}, {"jalr x0,0(" + x + ")", []int{0x67 | r<<15}, 0, 0}, {"beq " + x + ",x0,a", []int{0x63 | r<<15}, api.RelBranch, 0}, {"beq x0," + x + ",a", []int{0x63 | r<<20}, api.RelBranch, 0},
			{"jal " + x + ",a", []int{0x6f | r<<7}, api.RelJal, 0}, {"mv " + x + ",x0", []int{0x13 | r<<7}, 0, 0}, {"mv x0," + x, []int{0x13 | r<<15}, 0, 0}, {"li " + x + ",1", []int{0x00100013 | r<<7}, 0, 0}, {"li " + x + ",4097", []int{0x1037 | r<<7, 0x00100013 | r<<7 | r<<15}, 0, 0},
			{"sw " + x + ",a,x1", []int{0xb7, 0xa023 | r<<20}, api.RelAddr, 0},
		})
		if r > 0 {
			tellWords(t, []lays{
				{"la " + x + ",a", []int{0x37 | r<<7, 0x13 | r<<7 | r<<15}, api.RelAddr, 0}, {"lw " + x + ",a", []int{0x37 | r<<7, 0x2003 | r<<7 | r<<15}, api.RelAddr, 0}, {"sw x0,a," + x, []int{0x37 | r<<7, 0x2023 | r<<15}, api.RelAddr, 0},
			})
		}
		tellFaults(t, "P8", []told{{x + ":", api.ErrReg, 0}, {"j " + x, api.ErrReg, 2}, {"la x1," + x, api.ErrReg, 6}, {"lw x1," + x + "(x2)", api.ErrReg, 6}, {".word " + x, api.ErrReg, 6}, {".weak " + x, api.ErrReg, 6}, {x, api.ErrOp, 0}})
	}
	for _, word := range []string{"x32", "x39", "x40", "x99", "x00", "x01", "x031", "x100", "x", "y1", "x1a", "xa1", "x_", "x1.", "a", "ra", "x311"} {
		e := api.OK
		if strings.Contains(word, ".") {
			e = api.ErrSyntax
		}
		tellFaults(t, "P8", []told{{"mv " + word + ",x1", api.ErrReg, 3}, {"mv x1," + word, api.ErrReg, 6}, {"lw x1,0(" + word + ")", api.ErrReg, 8}, {word + ":", e, 0}})
	}
}

func TestP8Names(t *testing.T) {
	for _, c := range []struct {
		head, tail string
	}{{"", ":"}, {"j ", ""}, {"call ", ""}, {"tail ", ""}, {"beq x1,x2,", ""}, {"jal x1,", ""}, {"la x1,", "+4"}, {"lw x1,", ""}, {"sw x1,", ",x2"}, {".word ", "-4"}, {".globl ", ""}, {".weak ", ""}} {
		at := len(c.head)
		for _, name := range []string{"a", "_", "abcdef", "_12345", "add", "nop", "x32", "x_1"} {
			o := assembled(t, c.head+name+c.tail)
			if len(o.Syms) != 1 || o.Syms[0].Name != name {
				t.Errorf("P8: %s%s%s: symbols %v", c.head, name, c.tail, o.Syms)
			}
		}
		for _, name := range []string{"abcdefg", "_123456", "x123456", strings.Repeat("a", 300)} {
			tellFaults(t, "P8", []told{{c.head + name + c.tail, api.ErrName, at}})
		}
		for _, name := range []string{".", "a.", ".a", "a.b", ".text", "abcdefg.", "x5."} {
			tellFaults(t, "P8", []told{{c.head + name + c.tail, api.ErrSyntax, at}})
		}
		tellFaults(t, "P8", []told{{c.head + "x31" + c.tail, api.ErrReg, at}, {c.head + "x0" + c.tail, api.ErrReg, at}})
	}
}

func TestP8Lines(t *testing.T) {
	tellFaults(t, "P8", []told{
		{"a:", api.OK, 0}, {"a:nop", api.OK, 0}, {" a : nop", api.OK, 0}, {"add:", api.OK, 0}, {"nop:nop", api.OK, 0}, {"a:a", api.ErrOp, 2}, {"a:b:", api.ErrOp, 2}, {"a:nop:", api.ErrSyntax, 5}, {"a::", api.ErrSyntax, 2}, {"a:,", api.ErrSyntax, 2}, {"a:5", api.ErrSyntax, 2}, {":", api.ErrSyntax, 0},
		{",", api.ErrSyntax, 0}, {"(", api.ErrSyntax, 0}, {")", api.ErrSyntax, 0}, {"+", api.ErrSyntax, 0}, {"-", api.ErrSyntax, 0}, {"5", api.ErrSyntax, 0}, {"nop x1", api.ErrSyntax, 4}, {"nop\nnop", api.OK, 0}, {"ecall 0", api.ErrSyntax, 6}, {"ret x1", api.ErrSyntax, 4},
		{"add", api.ErrSyntax, 3}, {"add ", api.ErrSyntax, 4}, {"add #", api.ErrSyntax, 4}, {"add\n", api.ErrSyntax, 3}, {"add x1", api.ErrSyntax, 6}, {"add x1 x2", api.ErrSyntax, 7}, {"add x1,x2", api.ErrSyntax, 9}, {"add x1,x2,", api.ErrSyntax, 10}, {"add x1,x2,x3,", api.ErrSyntax, 12}, {"add x1,x2,x3 x4", api.ErrSyntax, 13}, {"add x1,x2,3", api.ErrSyntax, 10}, {"add ,x1,x2", api.ErrSyntax, 4},
		{"addi x1,x2", api.ErrSyntax, 10}, {"addi x1,x2,", api.ErrSyntax, 11}, {"addi x1,x2,-", api.ErrSyntax, 12}, {"addi x1,x2,a", api.ErrSyntax, 11}, {"addi x1,x2,(5)", api.ErrSyntax, 11}, {"addi x1,5,5", api.ErrSyntax, 8}, {"addi x1,x2,5 6", api.ErrSyntax, 13}, {"lui x1,a", api.ErrSyntax, 7}, {"lui x1", api.ErrSyntax, 6}, {"li x1,a", api.ErrSyntax, 6}, {"li 5,x1", api.ErrSyntax, 3},
		{"lw x1", api.ErrSyntax, 5}, {"lw x1,", api.ErrSyntax, 6}, {"lw x1,(x2)", api.ErrSyntax, 6}, {"lw x1,+4(x2)", api.ErrSyntax, 6}, {"lw x1,4", api.ErrSyntax, 7}, {"lw x1,4(", api.ErrSyntax, 8}, {"lw x1,4(x2", api.ErrSyntax, 10}, {"lw x1,4(x2))", api.ErrSyntax, 11}, {"lw x1,4()", api.ErrSyntax, 8}, {"lw x1,4(5)", api.ErrSyntax, 8}, {"lw x1,4,x2", api.ErrSyntax, 7}, {"lw x1,a,x2", api.ErrSyntax, 7}, {"lw x1,a(x2)", api.ErrSyntax, 7}, {"lw x1,-a", api.ErrSyntax, 7}, {"lw x1,4+a", api.ErrSyntax, 7},
		{"sw x1,4", api.ErrSyntax, 7}, {"sw x1,a", api.ErrSyntax, 7}, {"sw x1,a,", api.ErrSyntax, 8}, {"sw x1,a,5", api.ErrSyntax, 8}, {"sw x1,a,x2,", api.ErrSyntax, 10}, {"sw x1,4(x2),x3", api.ErrSyntax, 11}, {"sw x1,a+4", api.ErrSyntax, 9}, {"jalr x1", api.ErrSyntax, 7}, {"jalr x1,x2", api.ErrSyntax, 8}, {"jalr x1,a", api.ErrSyntax, 8}, {"jalr x1,4", api.ErrSyntax, 9},
		{"beq x1,x2", api.ErrSyntax, 9}, {"beq x1,x2,", api.ErrSyntax, 10}, {"beq x1,x2,5", api.ErrSyntax, 10}, {"beq x1,a", api.ErrReg, 7}, {"jal a", api.ErrReg, 4}, {"jal x1", api.ErrSyntax, 6}, {"jal x1,5", api.ErrSyntax, 7}, {"j", api.ErrSyntax, 1}, {"j 5", api.ErrSyntax, 2}, {"j x1,a", api.ErrReg, 2}, {"j a,b", api.ErrSyntax, 3}, {"call", api.ErrSyntax, 4}, {"tail (", api.ErrSyntax, 5}, {"mv x1", api.ErrSyntax, 5}, {"mv x1,5", api.ErrSyntax, 6}, {"la x1", api.ErrSyntax, 5}, {"la x1,5", api.ErrSyntax, 6}, {"la x1,-a", api.ErrSyntax, 6}, {"la a,a", api.ErrReg, 3},
		{".text x", api.ErrSyntax, 6}, {".far 1", api.ErrSyntax, 5}, {".data ,", api.ErrSyntax, 6}, {".bss -", api.ErrSyntax, 5}, {".word", api.ErrSyntax, 5}, {".word +1", api.ErrSyntax, 6}, {".word (", api.ErrSyntax, 6}, {".word 1,2", api.ErrSyntax, 7}, {".space", api.ErrSyntax, 6}, {".space a", api.ErrSyntax, 7}, {".align", api.ErrSyntax, 6}, {".align a", api.ErrSyntax, 7}, {".align 2,", api.ErrSyntax, 8}, {".globl", api.ErrSyntax, 6}, {".weak -", api.ErrSyntax, 6}, {".globl a,b", api.ErrSyntax, 8},
	})
}

// TestP8Sections: where what follows is laid, and where labels stand.
func TestP8Sections(t *testing.T) {
	o := assembled(t, "a: nop\n.data\nb: .word 1\n.far\nc: ret\nd:\n.bss\ne: .space 8\nf:\n.text\ng: .word 2\n.data\n.word 3\nh: .space 4\n.bss\n.space 4\ni:\n.far\nj: .space 8\nk:\n.text\nl:")
	want := &api.Object{Text: []int{0x13, 2}, Far: []int{0x8067, 0, 0}, Data: []int{1, 3, 0}, Bss: 3, Align: []int{2, 2, 2, 2}}
	for _, s := range []struct {
		name      string
		sect, off int
	}{{"a", 1, 0}, {"b", 3, 0}, {"c", 2, 0}, {"d", 2, 4}, {"e", 4, 0}, {"f", 4, 8}, {"g", 1, 4}, {"h", 3, 8}, {"i", 4, 12}, {"j", 2, 4}, {"k", 2, 12}, {"l", 1, 8}} {
		want.Syms = append(want.Syms, api.Symbol{Name: s.name, Sect: s.sect, Off: s.off})
	}
	if !same(o, want) {
		t.Errorf("P8: sections: %+v, want %+v", o, want)
	}
}

// TestP8Symbols: symbols are numbered as their names first come, and bound by what was said of them.
func TestP8Symbols(t *testing.T) {
	o := assembled(t, "j z\n.weak y\nx: la x1,w\nj x\n.globl v\nsw x1,u,x2\nv:\nw:.word y\n.globl x\nlw x1,t\n.weak t\n.weak s\ns:\n.globl r\nbeq x1,x2,q\np:\n.globl z")
	want := []api.Symbol{
		{Name: "z", Bind: api.Global}, {Name: "y", Bind: api.Weak}, {Name: "x", Bind: api.Global, Sect: api.Text, Off: 4}, {Name: "w", Bind: api.Local, Sect: api.Text, Off: 24}, {Name: "v", Bind: api.Global, Sect: api.Text, Off: 24}, {Name: "u", Bind: api.Global},
		{Name: "t", Bind: api.Weak}, {Name: "s", Bind: api.Weak, Sect: api.Text, Off: 36}, {Name: "r", Bind: api.Global}, {Name: "q", Bind: api.Global}, {Name: "p", Bind: api.Local, Sect: api.Text, Off: 40},
	}
	if !equal(o.Syms, want) {
		t.Errorf("P8: symbols %v, want %v", o.Syms, want)
	}
	rels := []api.Reloc{
		{Sect: api.Text, Off: 0, Kind: api.RelJal, Sym: 0}, {Sect: api.Text, Off: 4, Kind: api.RelAddr, Sym: 3}, {Sect: api.Text, Off: 12, Kind: api.RelJal, Sym: 2}, {Sect: api.Text, Off: 16, Kind: api.RelAddr, Sym: 5},
		{Sect: api.Text, Off: 24, Kind: api.RelWord, Sym: 1}, {Sect: api.Text, Off: 28, Kind: api.RelAddr, Sym: 6}, {Sect: api.Text, Off: 36, Kind: api.RelBranch, Sym: 9},
	}
	if !equal(o.Rels, rels) {
		t.Errorf("P8: relocations %v, want %v", o.Rels, rels)
	}
}

// TestP8Order: relocations stand section by section, within one as they came.
func TestP8Order(t *testing.T) {
	o := assembled(t, ".data\n.word a\n.far\nj a\n.text\nj a\n.data\n.word b\n.text\ncall b\n.far\n.align 3\n.word a+1\n.text\n.align 4\nj a")
	want := []api.Reloc{
		{Sect: api.Text, Off: 0, Kind: api.RelJal}, {Sect: api.Text, Off: 4, Kind: api.RelCall, Sym: 1}, {Sect: api.Text, Off: 12, Kind: api.RelAlign, Addend: 12}, {Sect: api.Text, Off: 24, Kind: api.RelJal},
		{Sect: api.Far, Off: 0, Kind: api.RelJal}, {Sect: api.Far, Off: 4, Kind: api.RelAlign, Addend: 4}, {Sect: api.Far, Off: 8, Kind: api.RelWord, Addend: 1},
		{Sect: api.Data, Off: 0, Kind: api.RelWord}, {Sect: api.Data, Off: 4, Kind: api.RelWord, Sym: 1},
	}
	if !equal(o.Rels, want) {
		t.Errorf("P8: relocations %v, want %v", o.Rels, want)
	}
}

// TestP8AlignCode: in code words are laid that a link may leave out, wherever the section is at.
func TestP8AlignCode(t *testing.T) {
	for ahead := range 5 {
		head := strings.Repeat("ret\n", ahead)
		for k, count := range map[int]int{2: 0, 3: 1, 4: 3} {
			o := assembled(t, head+fmt.Sprint(".align ", k))
			want := bare()
			want.Align[0] = k
			want.Text = append(repeat(ahead, 0x8067), repeat(count, 0x13)...)
			if count > 0 {
				want.Rels = []api.Reloc{{Sect: api.Text, Off: 4 * ahead, Kind: api.RelAlign, Addend: 4 * count}}
			}
			if !same(o, want) {
				t.Errorf("P8: .align %d at word %d of text: %+v, want %+v", k, ahead, o, want)
			}
			o = assembled(t, ".far\n"+head+fmt.Sprint(".align ", k))
			want.Text, want.Far = nil, want.Text
			want.Align = []int{2, k, 2, 2}
			for i := range want.Rels {
				want.Rels[i].Sect = api.Far
			}
			if !same(o, want) {
				t.Errorf("P8: .align %d at word %d of far: %+v, want %+v", k, ahead, o, want)
			}
		}
	}
}

// TestP8AlignData: in data and noughts as many words are laid as bring the section to the border.
func TestP8AlignData(t *testing.T) {
	for ahead := range 64 {
		for k, unit := range map[int]int{2: 1, 3: 2, 4: 4} {
			size := (ahead + unit - 1) / unit * unit
			o := assembled(t, fmt.Sprint(".data\n.space ", 4*ahead, "\n.align ", k, "\na:"))
			want := bare()
			want.Data = repeat(size, 0)
			want.Align[2] = k
			want.Syms = []api.Symbol{{Name: "a", Sect: api.Data, Off: 4 * size}}
			if !same(o, want) {
				t.Errorf("P8: .align %d at word %d of data: %+v, want %+v", k, ahead, o, want)
			}
			o = assembled(t, fmt.Sprint(".bss\n.space ", 4*ahead, "\n.align ", k, "\na:"))
			want = bare()
			want.Bss = size
			want.Align[3] = k
			want.Syms = []api.Symbol{{Name: "a", Sect: api.Bss, Off: 4 * size}}
			if !same(o, want) {
				t.Errorf("P8: .align %d at nought %d: %+v, want %+v", k, ahead, o, want)
			}
		}
	}
}

// TestP8Borders: a border becomes greater, never less, and of its own section alone.
func TestP8Borders(t *testing.T) {
	for text, want := range map[string][]int{
		"": {2, 2, 2, 2}, ".align 2": {2, 2, 2, 2}, ".align 3\n.align 4": {4, 2, 2, 2}, ".align 4\n.align 3\n.align 2": {4, 2, 2, 2}, ".far\n.align 3": {2, 3, 2, 2},
		".data\n.align 4\n.bss\n.align 3": {2, 2, 4, 3}, ".align 3\n.far\n.align 4\n.data\n.align 2\n.bss\n.align 4\n.align 3\n.text\n.align 2": {3, 4, 2, 4}, ".text\n.space 4800\n.align 2": {2, 2, 2, 2},
	} {
		if o := assembled(t, text); !equal(o.Align, want) {
			t.Errorf("P8: %q: borders %v, want %v", text, o.Align, want)
		}
	}
}

// TestP8Modules: whole modules.
func TestP8Modules(t *testing.T) {
	o := assembled(t, "# adds numbers till a nought\n.globl _start\n.weak print\n_start:\n\tla x5,list # from here\n\tli x10,0\nnext:\tlw x6,0(x5)\n\tbeq x6,x0,done\n\tadd x10,x10,x6\n\taddi x5,x5,4\n\tj next\ndone:\tsw x10,sum,x7\n\tcall print\n\t.align 3\n\ttail exit\n.data\nlist:\t.word 5\n\t.word -5\n\t.word list+4\n\t.word 0\n.bss\n\t.align 4\nsum:\t.space 4")
	want := &api.Object{
		Text:  []int{0x2b7, 0x28293, 0x513, 0x2a303, 0x30063, 0x650533, 0x428293, 0x6f, 0x3b7, 0xa3a023, 0x97, 0x80e7, 0x13, 0x317, 0x30067},
		Data:  []int{5, 0xfffffffb, 0, 0},
		Bss:   1,
		Align: []int{3, 2, 2, 4},
		Syms: []api.Symbol{
			{Name: "_start", Bind: api.Global, Sect: api.Text}, {Name: "print", Bind: api.Weak}, {Name: "list", Sect: api.Data}, {Name: "next", Sect: api.Text, Off: 12}, {Name: "done", Sect: api.Text, Off: 32}, {Name: "sum", Sect: api.Bss}, {Name: "exit", Bind: api.Global},
		},
		Rels: []api.Reloc{
			{Sect: api.Text, Off: 0, Kind: api.RelAddr, Sym: 2}, {Sect: api.Text, Off: 16, Kind: api.RelBranch, Sym: 4}, {Sect: api.Text, Off: 28, Kind: api.RelJal, Sym: 3}, {Sect: api.Text, Off: 32, Kind: api.RelAddr, Sym: 5},
			{Sect: api.Text, Off: 40, Kind: api.RelCall, Sym: 1}, {Sect: api.Text, Off: 48, Kind: api.RelAlign, Addend: 4}, {Sect: api.Text, Off: 52, Kind: api.RelCall, Sym: 6}, {Sect: api.Data, Off: 8, Kind: api.RelWord, Sym: 2, Addend: 4},
		},
	}
	if !same(o, want) {
		t.Errorf("P8: a module: %+v, want %+v", o, want)
	}
}
