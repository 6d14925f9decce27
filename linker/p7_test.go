package linker_test

import (
	"fmt"
	"strings"
	"testing"

	"linker/api"
	"linker/linker"
)

func TestP7Long(t *testing.T) {
	full := strings.Repeat("nop\n", 250)
	tellFaults(t, "P7", []told{
		{full, api.OK, 0}, {full + "\n", api.ErrLong, 0}, {full + "?", api.ErrLong, 0}, {"?" + full, api.ErrLong, 0},
		{strings.Repeat("#", 1000), api.OK, 0}, {strings.Repeat("#", 1001), api.ErrLong, 0}, {strings.Repeat(" ", 1001), api.ErrLong, 0},
		{strings.Repeat(" ", 997) + "nop", api.OK, 0}, {strings.Repeat(" ", 999) + "?", api.ErrChar, 999}, {strings.Repeat("a", 1000), api.ErrOp, 0},
		{strings.Repeat("?", 100000), api.ErrLong, 0}, {strings.Repeat("\n", 999) + "5", api.ErrSyntax, 999},
	})
	if o := assembled(t, full); len(o.Text) != 250 {
		t.Errorf("P7: 250 lines lay %d words", len(o.Text))
	}
}

// TestP7Bytes: each byte at the beginning of a token.
func TestP7Bytes(t *testing.T) {
	for c := range 256 {
		text := "nop " + string([]byte{byte(c)})
		want := api.Fault{E: api.ErrChar, At: 4}
		switch {
		case c == ':': // a label
			want = api.Fault{}
		case c == ' ' || c == '\t' || c == '\n' || c == '#':
			want = api.Fault{}
		case strings.ContainsRune("abcdefghijklmnopqrstuvwxyz0123456789_.,()+-", rune(c)):
			want.E = api.ErrSyntax
		}
		if _, f := linker.Assemble(text); f != want {
			t.Errorf("P7: Assemble(%q) = %v, want %v", text, f, want)
		}
		// behind a # every byte is passed over, but the line break
		text = "nop # " + string([]byte{byte(c)}) + " foo"
		want = api.Fault{}
		if c == '\n' {
			want = api.Fault{E: api.ErrOp, At: 8}
		}
		if _, f := linker.Assemble(text); f != want {
			t.Errorf("P7: Assemble(%q) = %v, want %v", text, f, want)
		}
	}
}

// TestP7Blanks: the same tokens, parted otherwise.
func TestP7Blanks(t *testing.T) {
	want := plainBytes(assembled(t, "a: lw x5,-4(x6)\nsw x1,a+8,x2"))
	for _, text := range []string{
		"a:lw x5,-4(x6)\nsw x1,a+8,x2\n", " a : lw x5 , - 4 ( x6 ) \n sw x1 , a + 8 , x2 ", "\ta\t:\tlw\tx5\t,\t-\t4\t(\tx6\t)\t\n\tsw\tx1,a\t+\t8,x2#",
		"\n\n#?\na:#\n\nlw x5,-4(x6)# b\n \t \nsw x1,a+8,x2 # c\n\n", "a:lw\tx5,-0004(x6)#\nsw x1,a+0000000008,x2",
	} {
		if s, f := linker.Assemble(text); s != want || f != (api.Fault{}) {
			t.Errorf("P7: Assemble(%q) = %x, %v, want %x", text, s, f, want)
		}
	}
	tellFaults(t, "P7", []told{
		{"lwx5,4(x6)", api.ErrOp, 0}, {"l w x5,4(x6)", api.ErrOp, 0}, {"lw x 5,4(x6)", api.ErrReg, 3}, {"lw x5,4(x6)\r", api.ErrChar, 11}, {"nop\vnop", api.ErrChar, 3}, {"nop\fnop", api.ErrChar, 3},
		{"add x1,\nx2,x3", api.ErrSyntax, 7}, {"a\n:", api.ErrOp, 0}, {"nop\x00", api.ErrChar, 3}, {"nop\xc2\xa0", api.ErrChar, 3},
	})
}

func TestP7Words(t *testing.T) {
	tellFaults(t, "P7", []told{
		{"_a9z:", api.OK, 0}, {"_:", api.OK, 0}, {"z00000:", api.OK, 0}, {"nop.", api.ErrOp, 0}, {"nop_", api.ErrOp, 0}, {"nop5", api.ErrOp, 0}, {".", api.ErrOp, 0}, {"...text", api.ErrOp, 0},
		{"nopX", api.ErrChar, 3}, {"a?:", api.ErrChar, 1}, {"aZ:", api.ErrChar, 1}, {"@a:", api.ErrChar, 0}, {"`a:", api.ErrChar, 0}, {"{a:", api.ErrChar, 0}, {"a/b", api.ErrChar, 1}, {"a;b", api.ErrChar, 1}, {"9a:", api.ErrChar, 1}, {"a9:", api.OK, 0},
		{"nop,", api.ErrSyntax, 3}, {"nop+", api.ErrSyntax, 3}, {"nop*", api.ErrChar, 3}, {"nop[", api.ErrChar, 3}, {"nop'", api.ErrChar, 3}, {"nop=", api.ErrChar, 3},
	})
}

func TestP7Numbers(t *testing.T) {
	tellFaults(t, "P7", []told{
		{".word 0000000000", api.OK, 0}, {".word 0000000009", api.OK, 0}, {".word 00000000000", api.ErrNumber, 6}, {".word 12345678901", api.ErrNumber, 6}, {".word 12345678901234567890123456789012345678901234567890", api.ErrNumber, 6},
		{".word -12345678901", api.ErrNumber, 7}, {".word - 12345678901", api.ErrNumber, 8}, {".word a+00000000001", api.ErrNumber, 8}, {".word a-00000000001", api.ErrNumber, 8},
		{".word 9999999999", api.ErrRange, 6}, {".word 12345678901x", api.ErrNumber, 6}, {".word 1234567890x", api.ErrChar, 16}, {".word 5000000000?", api.ErrRange, 6}, {".word 1234567890?", api.ErrChar, 16}, {".word 123456789?", api.ErrChar, 15},
		{".word 1a", api.ErrChar, 7}, {".word 1z", api.ErrChar, 7}, {".word 1_", api.ErrChar, 7}, {".word 1.", api.ErrChar, 7}, {".word 0x10", api.ErrChar, 7}, {".word 1?", api.ErrChar, 7}, {".word 1X", api.ErrChar, 7},
		{".word 1 a", api.ErrSyntax, 8}, {".word 1\ta", api.ErrSyntax, 8}, {".word 1#a", api.OK, 0}, {".word 1,a", api.ErrSyntax, 7}, {"lw x1,1(x2)", api.OK, 0}, {".word 1-1", api.ErrSyntax, 7},
		{"12345678901", api.ErrNumber, 0}, {"1234567890", api.ErrSyntax, 0}, {"5x", api.ErrChar, 1}, {"nop 5x", api.ErrChar, 5}, {"nop 5", api.ErrSyntax, 4},
	})
	for _, n := range []int{0, 7, 10, 99, 100, 12345, 1999999999, 4294967295} {
		if o := assembled(t, fmt.Sprint(".word ", n)); len(o.Text) != 1 || o.Text[0] != n {
			t.Errorf("P7: .word %d lays %d", n, o.Text)
		}
	}
}

// TestP7NotEarlier: a token is not looked at as long as the one ahead of it is not used up. Each text is tried with bytes behind it that would be a fault of their own.
func TestP7NotEarlier(t *testing.T) {
	for _, c := range []told{
		{"5 ", api.ErrSyntax, 0}, {": ", api.ErrSyntax, 0}, {", ", api.ErrSyntax, 0}, {"a:: ", api.ErrSyntax, 2}, {"a: 5 ", api.ErrSyntax, 3}, {"a:\na: ", api.ErrTwice, 3},
		{"a.b: ", api.ErrSyntax, 0}, {"abcdefg: ", api.ErrName, 0}, {"x0: ", api.ErrReg, 0}, {"foo ,", api.ErrOp, 0}, {"foo 5 ", api.ErrOp, 0}, {".bss\nnop ,", api.ErrPlace, 5}, {".bss\n.word 5 ", api.ErrPlace, 5},
		{"add 5 ", api.ErrSyntax, 4}, {"add x32 ", api.ErrReg, 4}, {"add a ", api.ErrReg, 4}, {"add x1:", api.ErrSyntax, 6}, {"add x1,,", api.ErrSyntax, 7}, {"add x1,x2,-", api.ErrSyntax, 10},
		{"addi x1,x2,2048 ", api.ErrRange, 11}, {"addi x1,x2,-2049 ", api.ErrRange, 11}, {"addi x1,x2,x3 ", api.ErrSyntax, 11}, {"addi x1,x2,-- ", api.ErrSyntax, 12}, {"lui x1,-1 ", api.ErrRange, 7}, {"li x1,2147483648 ", api.ErrRange, 6},
		{"lw x1,5000 ", api.ErrRange, 6}, {"lw x1,5)", api.ErrSyntax, 7}, {"lw x1,5(5 ", api.ErrSyntax, 8}, {"lw x1,5(y ", api.ErrReg, 8}, {"lw x1,5(x2(", api.ErrSyntax, 10}, {"lw x1,( ", api.ErrSyntax, 6},
		{"j 5 ", api.ErrSyntax, 2}, {"j a.b ", api.ErrSyntax, 2}, {"j abcdefg ", api.ErrName, 2}, {"j x5 ", api.ErrReg, 2}, {"la x1,a+5000 ", api.ErrRange, 8}, {"la x1,a---", api.ErrSyntax, 9}, {"la x1,a+, ", api.ErrSyntax, 8},
		{"sw x1,a+4(", api.ErrSyntax, 9}, {"sw x1,a,a ", api.ErrReg, 8}, {".space 4801 ", api.ErrRange, 7}, {".space 6 , ", api.ErrRange, 0}, {".align 5 ", api.ErrRange, 7}, {".globl x5 ", api.ErrReg, 7}, {".globl a\n.weak a , ", api.ErrLocal, 15},
		{"nop , ", api.ErrSyntax, 4}, {"j a , ", api.ErrSyntax, 4}, {"la x0,a , ", api.ErrReg, 0}, {".text 5 ", api.ErrSyntax, 6},
	} {
		for _, behind := range []string{"", "?", " ?", "12345678901", "5x", "\n?"} {
			if strings.HasSuffix(c.text, " ") || !strings.ContainsAny(behind, "0123456789") {
				tellFaults(t, "P7", []told{{c.text + behind, c.e, c.at}})
			}
		}
	}
}

// TestP7Earlier: with the token ahead used up, a byte that begins nothing is told ahead of what is told with that byte's token at hand.
func TestP7Earlier(t *testing.T) {
	many := ""
	for i := range 16 {
		many += fmt.Sprint(".globl s", i, "\n")
	}
	relocs := strings.Repeat("j a\n", 32)
	for _, text := range []string{
		"foo", "a.b", "abcdefg", "x5", "a:", ".bss\nnop", ".bss\n.word", "add", "add x1", "add x1,", "add x1,x2,x3", "addi x1,x2,-", "addi x1,x2,5", "lw x1,4", "lw x1,4(", "lw x1,4(x2", "lw x1,4(x2)", "lw x1,a", "lw x0,a",
		"la x0,a+4", "la x1,a+", "la x1,a-", "sw x1,a,x0", "sw x1,a", "j", "j a", "nop", ".text", ".space 6", ".space", ".align 4", ".globl a\n.globl a", many + ".weak s3", many + "j a", relocs + "j a", ".data\n.space 4800", "a:\na",
	} {
		tellFaults(t, "P7", []told{{text + " ?", api.ErrChar, len(text) + 1}, {text + "\t12345678901", api.ErrNumber, len(text) + 1}, {text + " 5x", api.ErrChar, len(text) + 2}})
	}
}
