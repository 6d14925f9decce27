package linker_test

import (
	"fmt"
	"strings"
	"testing"

	"linker/api"
	"linker/linker"
)

func TestP9Examples(t *testing.T) {
	tellFaults(t, "P9", []told{
		{"add x1,x2", api.ErrSyntax, 9}, {"add x1,x2,x32", api.ErrReg, 10}, {"addd x1,x2,x3", api.ErrOp, 0}, {"addi x1,x2,2048", api.ErrRange, 11}, {"addi x1,x2,-2049", api.ErrRange, 11}, {"li x1,99999999999", api.ErrNumber, 6},
		{"a:\na:", api.ErrTwice, 3}, {"abcdefg:", api.ErrName, 0}, {"x7:", api.ErrReg, 0}, {"a.b:", api.ErrSyntax, 0}, {".data\nadd x1,x2,x3", api.ErrPlace, 6}, {"lw x1,4(x2", api.ErrSyntax, 10}, {"lw x0,a", api.ErrReg, 0}, {"la x1,a+2048", api.ErrRange, 8},
		{"li x1,5x", api.ErrChar, 7}, {".space 6", api.ErrRange, 0}, {"nop nop", api.ErrSyntax, 4},
	})
}

// TestP9FirstOnly: of two faulty lines the first one's fault is told.
func TestP9FirstOnly(t *testing.T) {
	faulty := []told{
		{"?", api.ErrChar, 0}, {"nop nop", api.ErrSyntax, 4}, {"abcdefg:", api.ErrName, 0}, {"li x1,12345678901", api.ErrNumber, 6}, {"foo", api.ErrOp, 0}, {"mv x1,x32", api.ErrReg, 6}, {"lui x1,-1", api.ErrRange, 7}, {".bss\nnop", api.ErrPlace, 5},
		{"q:\nq:", api.ErrTwice, 3}, {".data\n.space 260", api.ErrSize, 6}, {".globl q\n.weak q", api.ErrLocal, 15},
	}
	for _, a := range faulty {
		for _, b := range faulty {
			tellFaults(t, "P9", []told{{a.text + "\n" + b.text, a.e, a.at}, {"\n# " + strings.ReplaceAll(a.text, "\n", "#") + "\n\n" + b.text, b.e, b.at + len(a.text) + 5}})
			for _, whole := range []string{"ret # x", ".far", "a: j b", ".align 4"} {
				tellFaults(t, "P9", []told{{whole + "\n" + b.text + "\n" + a.text, b.e, b.at + len(whole) + 1}})
			}
		}
	}
}

func TestP9Operations(t *testing.T) {
	for _, word := range []string{
		"auipc", "srl", "sll", "lb", "sltiu", "subi", "jr", "b", "beqz", "la.", ".add", "add.", "text", "word", ".bs", ".global", ".local", ".glob", ".words", ".", "_", "x1", "abcdefg", ".text.", "nop_", "a.b", "abcdefghijkl", "lwu", "neg", "not", "ebreak",
	} {
		tellFaults(t, "P9", []told{
			{word, api.ErrOp, 0}, {word + " x1,x2,x3", api.ErrOp, 0}, {"a: " + word + " x1,5", api.ErrOp, 3}, {".bss\n" + word, api.ErrOp, 5}, {".data\n " + word + ",", api.ErrOp, 7}, {word + " ?", api.ErrChar, len(word) + 1}, {word + " 12345678901", api.ErrNumber, len(word) + 1},
		})
	}
}

// TestP9Places: what may stand in which section.
func TestP9Places(t *testing.T) {
	code := []string{
		"add x1,x2,x3", "sub x1,x2,x3", "slt x1,x2,x3", "sltu x1,x2,x3", "xor x1,x2,x3", "or x1,x2,x3", "and x1,x2,x3", "addi x1,x2,3", "slti x1,x2,3", "xori x1,x2,3", "ori x1,x2,3", "andi x1,x2,3", "lui x1,3", "lw x1,4(x2)", "sw x1,4(x2)", "jalr x1,4(x2)", "ecall",
		"beq x1,x2,a", "bne x1,x2,a", "blt x1,x2,a", "bge x1,x2,a", "bltu x1,x2,a", "bgeu x1,x2,a", "jal x1,a", "j a", "ret", "nop", "mv x1,x2", "li x1,3", "call a", "tail a", "la x1,a", "lw x1,a", "sw x1,a,x2",
	}
	beside := []string{".text", ".far", ".data", ".bss", ".space 8", ".align 4", ".globl a", ".weak a", "a:"}
	for i, sect := range []string{".text\n", ".far\n", ".data\n", ".bss\n"} {
		for _, line := range code {
			word, _, _ := strings.Cut(line, " ")
			if i < 2 {
				tellFaults(t, "P9", []told{{sect + line, api.OK, 0}})
				continue
			}
			tellFaults(t, "P9", []told{{sect + line, api.ErrPlace, len(sect)}, {sect + "a: " + line, api.ErrPlace, len(sect) + 3}, {sect + word, api.ErrPlace, len(sect)}, {sect + word + " ,", api.ErrPlace, len(sect)}, {sect + word + " ?", api.ErrChar, len(sect) + len(word) + 1}})
		}
		for _, line := range beside {
			tellFaults(t, "P9", []told{{sect + line, api.OK, 0}})
		}
		for _, line := range []string{".word 5", ".word a+4"} {
			if i < 3 {
				tellFaults(t, "P9", []told{{sect + line, api.OK, 0}})
			} else {
				tellFaults(t, "P9", []told{{sect + line, api.ErrPlace, 5}, {sect + ".word", api.ErrPlace, 5}, {sect + ".word x5", api.ErrPlace, 5}, {sect + ".word ?", api.ErrChar, 11}})
			}
		}
	}
}

// TestP9Labels: the order of the faults of a label.
func TestP9Labels(t *testing.T) {
	many := ""
	for i := range 16 {
		many += fmt.Sprint("s", i, ":\n")
	}
	at := len(many)
	tellFaults(t, "P9", []told{
		{many, api.OK, 0}, {many + "a:", api.ErrSyms, at}, {many + "a : foo", api.ErrSyms, at}, {many + "a: ?", api.ErrSyms, at}, {many + "a ?", api.ErrChar, at + 2}, {many + "a.b:", api.ErrSyntax, at}, {many + "abcdefg:", api.ErrName, at}, {many + "x31:", api.ErrReg, at}, {many + "x32:", api.ErrSyms, at},
		{many + "s3:", api.ErrTwice, at}, {many + "s15: ?", api.ErrTwice, at}, {many + "s0 : s0:", api.ErrTwice, at}, {many + "nop", api.OK, 0}, {many + "a", api.ErrOp, at},
		{"a: nop\n.data\nb:\n a:", api.ErrTwice, 17}, {"a:\n.globl a\n.bss\na:", api.ErrTwice, 17}, {"j a\na:\nj a", api.OK, 0}, {".weak a\na:\na:", api.ErrTwice, 11}, {"a:\nab:\nb:\naa:", api.OK, 0}, {"abcdef:\nabcdeg:", api.OK, 0},
	})
	fifteen := strings.TrimSuffix(many, "s15:\n")
	tellFaults(t, "P9", []told{{fifteen + "a: j b", api.ErrSyms, len(fifteen) + 5}, {fifteen + "a: j a", api.OK, 0}, {fifteen + "j a\na:", api.OK, 0}, {fifteen + "j a\nb:", api.ErrSyms, len(fifteen) + 4}})
}

// TestP9Syms: one name too many in an operand is told with the token behind it at hand, ahead of what that token is.
func TestP9Syms(t *testing.T) {
	many := ""
	for i := range 16 {
		many += fmt.Sprint("j s", i, "\n")
	}
	for _, head := range []string{"j ", "call ", "tail ", "beq x1,x2,", "jal x1,", "la x0,", "lw x0,", "sw x1,", ".word ", ".globl ", ".weak "} {
		at := len(many) + len(head)
		tellFaults(t, "P9", []told{
			{many + head + "a", api.ErrSyms, at}, {many + head + "a b", api.ErrSyms, at}, {many + head + "a+", api.ErrSyms, at}, {many + head + "a+9999", api.ErrSyms, at}, {many + head + "a,x0", api.ErrSyms, at}, {many + head + "a ?", api.ErrChar, at + 2}, {many + head + "a 5x", api.ErrChar, at + 3}, {many + head + "a\n?", api.ErrSyms, at},
			{many + head + "a.b", api.ErrSyntax, at}, {many + head + "abcdefg", api.ErrName, at}, {many + head + "x1", api.ErrReg, at},
		})
	}
	tellFaults(t, "P9", []told{{many + ".globl s3", api.OK, 0}, {many + "j s15", api.OK, 0}, {many + "s0:", api.OK, 0}})
}

func TestP9Local(t *testing.T) {
	for _, a := range []string{".globl", ".weak"} {
		for _, b := range []string{".globl", ".weak"} {
			head := a + " q\nq: " + b + " "
			at := len(head)
			tellFaults(t, "P9", []told{{head + "q", api.ErrLocal, at}, {head + "q q", api.ErrLocal, at}, {head + " q #", api.ErrLocal, at + 1}, {head + "q ?", api.ErrChar, at + 2}, {head + "r", api.OK, 0}, {head + "qq", api.OK, 0}, {head + "q.", api.ErrSyntax, at}})
		}
	}
	tellFaults(t, "P9", []told{{"a:\n.globl a", api.OK, 0}, {"j a\n.weak a", api.OK, 0}, {"j a\n.weak a\na:\n.globl b\n.globl a", api.ErrLocal, 31}})
}

// TestP9Relocs: one relocation too many.
func TestP9Relocs(t *testing.T) {
	for _, line := range []string{"j a\n", "call a\n", ".word a\n", "la x1,a\n", ".align 3\n", ".data\n.word a\n.text\n"} {
		relocs := strings.Repeat(line, 32)
		at := len(relocs)
		if o := assembled(t, relocs); len(o.Rels) != 32 {
			t.Errorf("P9: %d relocations, want 32", len(o.Rels))
		}
		tellFaults(t, "P9", []told{
			{relocs + "j a", api.ErrRelocs, at}, {relocs + "a: j a", api.ErrRelocs, at + 3}, {relocs + "jal x1,a", api.ErrRelocs, at}, {relocs + "beq x1,x2,a", api.ErrRelocs, at}, {relocs + "call a", api.ErrRelocs, at}, {relocs + "tail a", api.ErrRelocs, at}, {relocs + "la x1,a", api.ErrRelocs, at},
			{relocs + "lw x1,a+4", api.ErrRelocs, at}, {relocs + "sw x0,a,x1", api.ErrRelocs, at}, {relocs + ".word a", api.ErrRelocs, at}, {relocs + ".align 3", api.ErrRelocs, at}, {relocs + ".align 4", api.ErrRelocs, at}, {relocs + ".far\nj a", api.ErrRelocs, at + 5}, {relocs + ".data\n.word a", api.ErrRelocs, at + 6},
			{relocs + ".align 2", api.OK, 0}, {relocs + ".word 5", api.OK, 0}, {relocs + "lw x1,4(x0)", api.OK, 0}, {relocs + "li x1,70000", api.OK, 0}, {relocs + ".data\n.align 4", api.OK, 0}, {relocs + ".bss\n.align 4", api.OK, 0}, {relocs + ".globl b\nc:", api.OK, 0},
			{relocs + "j a b", api.ErrRelocs, at}, {relocs + "j a ?", api.ErrChar, at + 4}, {relocs + "j a+", api.ErrRelocs, at}, {relocs + "la x0,a", api.ErrReg, at}, {relocs + "lw x0,a b", api.ErrReg, at}, {relocs + "sw x1,a,x0", api.ErrReg, at},
		})
	}
	full := strings.Repeat("j a\n", 32) + ".space 4672\n"
	tellFaults(t, "P9", []told{{full + "j a", api.ErrRelocs, len(full)}, {full + "la x0,a", api.ErrReg, len(full)}, {full + "nop", api.ErrSize, len(full)}, {full + ".align 4", api.ErrRelocs, len(full)}})
}

// TestP9Size: each section may be filled and no more.
func TestP9Size(t *testing.T) {
	for _, sect := range []string{".text\n", ".far\n"} {
		for _, c := range []struct {
			line  string
			words int
		}{{"nop", 1}, {"j a", 1}, {"beq x1,x2,a", 1}, {"jal x1,a", 1}, {"li x1,2047", 1}, {"li x1,2048", 2}, {"call a", 2}, {"tail a", 2}, {"la x1,a", 2}, {"lw x1,a", 2}, {"sw x1,a,x2", 2}, {"lw x1,4(x2)", 1}, {".word 1", 1}, {".word a", 1}, {".align 3", 1}, {".align 4", 3}, {".align 2", 0}, {".space 0", 0}, {".space 4", 1}, {".space 4800", 1200}, {"a:", 0}} {
			fill := fmt.Sprint(sect, ".space ", 4*(1200-c.words), "\n")
			tellFaults(t, "P9", []told{{fill + c.line, api.OK, 0}, {fill + c.line + "\nb: nop", api.ErrSize, len(fill) + len(c.line) + 4}, {fill + c.line + "\n.data\n.space 256\n.bss\n.space 256", api.OK, 0}})
			if c.words > 0 {
				fill = fmt.Sprint(sect, ".space ", 4*(1201-c.words), "\n")
				tellFaults(t, "P9", []told{{fill + " " + c.line, api.ErrSize, len(fill) + 1}, {fill + c.line + " b", api.ErrSize, len(fill)}, {fill + c.line + " ?", api.ErrChar, len(fill) + len(c.line) + 1}})
			}
		}
	}
	for _, sect := range []string{".data\n", ".bss\n"} {
		at := len(sect)
		tellFaults(t, "P9", []told{
			{sect + ".space 256", api.OK, 0}, {sect + ".space 260", api.ErrSize, at}, {sect + ".space 4800", api.ErrSize, at}, {sect + ".space 4804", api.ErrRange, at + 7}, {sect + ".space 258", api.ErrRange, at}, {sect + ".space 260 b", api.ErrSize, at}, {sect + ".space 252\n.space 4", api.OK, 0}, {sect + ".space 252\n.space 8", api.ErrSize, at + 11},
			{sect + ".space 244\n.align 4", api.OK, 0}, {sect + ".space 244\n.align 4\n.space 4", api.ErrSize, at + 20}, {sect + ".space 248\n.align 3\n.space 8", api.OK, 0}, {sect + ".space 256\n.align 4", api.OK, 0},
		})
	}
	words := ".data\n" + strings.Repeat(".word a\n", 32) + strings.Repeat(".word 1\n", 32)
	tellFaults(t, "P9", []told{{words, api.OK, 0}, {words + ".word 1", api.ErrSize, len(words)}, {words + ".word a", api.ErrRelocs, len(words)}, {words + ".space 4", api.ErrSize, len(words)}})
}

// TestP9Zero: x0 for the register of an address is told with the token behind the operands at hand.
func TestP9Zero(t *testing.T) {
	for _, line := range []string{"la x0,a", "lw x0,a", "la x0,a+4", "lw x0,a-2048", "sw x1,a,x0", "sw x0,a+1,x0"} {
		tellFaults(t, "P9", []told{{line, api.ErrReg, 0}, {"b: " + line, api.ErrReg, 3}, {line + " b", api.ErrReg, 0}, {line + "\n?", api.ErrReg, 0}, {line + "?", api.ErrChar, len(line)}, {".space 4800\n" + line, api.ErrReg, 12}})
	}
	tellFaults(t, "P9", []told{{"la x0,a+2048", api.ErrRange, 8}, {"la x0,5", api.ErrSyntax, 6}, {"la x0,a.b", api.ErrSyntax, 6}, {"lw x0,x1", api.ErrReg, 6}, {"sw x1,a,x00", api.ErrReg, 8}, {"sw x0,a,x1", api.OK, 0}, {"lw x0,4(x0)", api.OK, 0}, {"sw x0,4(x0)", api.OK, 0}, {"lui x0,1", api.OK, 0}})
}

func TestP9Space(t *testing.T) {
	for n := range 4801 {
		text := fmt.Sprint(".space ", n)
		want := api.Fault{}
		if n%4 != 0 {
			want.E = api.ErrRange
		}
		if _, f := linker.Assemble(text); f != want {
			t.Fatalf("P9: Assemble(%q) = %v, want %v", text, f, want)
		}
	}
	tellFaults(t, "P9", []told{{"a: .space 2", api.ErrRange, 3}, {".space 2 b", api.ErrRange, 0}, {".space 2 ?", api.ErrChar, 9}, {".space 4802", api.ErrRange, 7}, {".space -2", api.ErrRange, 7}, {".data\n.space 4798", api.ErrRange, 6}})
}

// TestP9Last: what stands behind an operation is told last.
func TestP9Last(t *testing.T) {
	for _, line := range []string{"nop", "add x1,x2,x3", "lw x1,4(x2)", "j a", "la x1,a+4", "sw x1,a,x2", ".text", ".word 5", ".space 4", ".align 4", ".globl a", "li x1,70000"} {
		for _, behind := range []string{",", "(", ")", "x1", "5", "nop"} {
			tellFaults(t, "P9", []told{{line + " " + behind, api.ErrSyntax, len(line) + 1}, {line + " " + behind + "?", api.ErrSyntax, len(line) + 1}})
		}
	}
}
