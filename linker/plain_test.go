package linker_test

import (
	"fmt"
	"slices"
	"strconv"
	"strings"

	"linker/api"
)

// plainText reads a text as P7 to P9 tell it, by a table of operands: another way than the program's, to hold the two against each other.
func plainText(text string) (o *api.Object, fault api.Fault) {
	if len(text) > 1000 {
		return nil, api.Fault{E: api.ErrLong}
	}
	p := &plain{text: text, sect: 1, label: map[string]bool{}, said: map[string]int{}, lens: [5]int{}, o: bare()}
	defer func() {
		if x := recover(); x != nil {
			o, fault = nil, x.(api.Fault)
		}
	}()
	for {
		p.readLine()
		rest := strings.IndexByte(text[p.pos:], '\n')
		if rest < 0 {
			break
		}
		p.pos += rest + 1
	}
	for i, s := range p.o.Syms {
		p.o.Syms[i].Bind = p.said[s.Name]
		if !p.label[s.Name] && p.said[s.Name] == 0 {
			p.o.Syms[i].Bind = api.Global
		}
	}
	slices.SortStableFunc(p.o.Rels, func(a, b api.Reloc) int { return a.Sect - b.Sect })
	p.o.Bss = p.lens[4]
	return p.o, api.Fault{}
}

type plain struct {
	text  string
	pos   int
	kind  byte // w: word, n: number, $: end, or the sign itself
	at    int
	tok   string
	sect  int
	label map[string]bool
	said  map[string]int
	lens  [5]int // in words
	o     *api.Object
}

func fail(e api.Errno, at int) { panic(api.Fault{E: e, At: at}) }

const wordBytes = "abcdefghijklmnopqrstuvwxyz_."
const digitBytes = "0123456789"

// look looks at the next token.
func (p *plain) look() {
	rest := strings.TrimLeft(p.text[p.pos:], " \t")
	p.at = len(p.text) - len(rest)
	p.pos = p.at
	if rest == "" || rest[0] == '\n' || rest[0] == '#' {
		p.kind = '$'
		return
	}
	digits := len(rest) - len(strings.TrimLeft(rest, digitBytes))
	size := len(rest) - len(strings.TrimLeft(rest, wordBytes+digitBytes))
	switch {
	case digits > 10:
		fail(api.ErrNumber, p.at)
	case digits > 0 && size > digits:
		fail(api.ErrChar, p.at+digits)
	case digits > 0:
		p.kind = 'n'
	case size > 0:
		p.kind = 'w'
	case strings.IndexByte(",:()+-", rest[0]) >= 0:
		p.kind, size = rest[0], 1
	default:
		fail(api.ErrChar, p.at)
	}
	p.tok = rest[:size]
	p.pos += size
}

func (p *plain) need(kind byte) {
	if p.kind != kind {
		fail(api.ErrSyntax, p.at)
	}
}

var registers = func() []string {
	var l []string
	for i := range 32 {
		l = append(l, fmt.Sprint("x", i))
	}
	return l
}()

func checkWord(word string, at int) {
	switch {
	case strings.Contains(word, "."):
		fail(api.ErrSyntax, at)
	case len(word) > 6:
		fail(api.ErrName, at)
	case slices.Contains(registers, word):
		fail(api.ErrReg, at)
	}
}

func (p *plain) sym(word string, at int) int {
	i := slices.IndexFunc(p.o.Syms, func(s api.Symbol) bool { return s.Name == word })
	if i >= 0 {
		return i
	}
	if len(p.o.Syms) == 16 {
		fail(api.ErrSyms, at)
	}
	p.o.Syms = append(p.o.Syms, api.Symbol{Name: word})
	return len(p.o.Syms) - 1
}

// readLine reads a line, up to its end's token.
func (p *plain) readLine() {
	p.look()
	if p.kind == '$' {
		return
	}
	p.need('w')
	word, at := p.tok, p.at
	p.look()
	if p.kind == ':' {
		checkWord(word, at)
		i := p.sym(word, at)
		if p.label[word] {
			fail(api.ErrTwice, at)
		}
		p.label[word] = true
		p.o.Syms[i].Sect, p.o.Syms[i].Off = p.sect, 4*p.lens[p.sect]
		p.look()
		if p.kind == '$' {
			return
		}
		p.need('w')
		word, at = p.tok, p.at
		p.look()
	}
	p.operation(word, at)
	p.need('$')
}

// operandsOf has the operands of each operation, a letter each: registers r; numbers n, u, l, w, p, k by their bounds; names s, with an addend t.
func operandsOf(word string) (string, bool) {
	for _, row := range []string{
		"add sub slt sltu xor or and:r,r,r", "addi slti xori ori andi:r,r,n", "lui:r,u", "lw sw:r,?", "jalr:r,n(r)", "ecall ret nop:",
		"beq bne blt bge bltu bgeu:r,r,s", "jal:r,s", "j call tail:s", "mv:r,r", "li:r,l", "la:r,t",
		".text .far .data .bss:", ".word:?", ".space:p", ".align:k", ".globl .weak:s",
	} {
		names, operands, _ := strings.Cut(row, ":")
		if slices.Contains(strings.Fields(names), word) {
			return operands, true
		}
	}
	return "", false
}

// got is what the operands of an operation are.
type got struct {
	regs   []int
	n      int
	name   string
	at     int
	sym    int
	addend int
}

func (p *plain) operation(word string, at int) {
	operands, ok := operandsOf(word)
	if !ok {
		fail(api.ErrOp, at)
	}
	if word[0] != '.' && p.sect > 2 || word == ".word" && p.sect == 4 {
		fail(api.ErrPlace, at)
	}
	g := got{}
	for i := 0; i < len(operands); i++ {
		if operands[i] == '?' {
			operands = operands[:i] + p.either(word)
		}
		p.operand(operands[i:], &g)
	}
	p.lay(word, at, operands, g)
}

// either tells which of two forms the operands go on with.
func (p *plain) either(word string) string {
	forms := map[string][2]string{"lw": {"t", "n(r)"}, "sw": {"t,r", "n(r)"}, ".word": {"t", "w"}}[word]
	if p.kind == 'w' {
		return forms[0]
	}
	return forms[1]
}

func (p *plain) operand(operands string, g *got) {
	if operands == "" {
		return
	}
	switch operands[0] {
	case 'r':
		p.need('w')
		i := slices.Index(registers, p.tok)
		if i < 0 {
			fail(api.ErrReg, p.at)
		}
		g.regs = append(g.regs, i)
		p.look()
	case 's', 't':
		p.need('w')
		g.name, g.at = p.tok, p.at
		checkWord(g.name, g.at)
		p.look()
		g.sym = p.sym(g.name, g.at)
		if operands[0] == 't' && p.kind == '+' {
			p.look()
			g.addend = p.number(0, 2047)
		} else if operands[0] == 't' && p.kind == '-' {
			p.look()
			g.addend = -p.number(0, 2048)
		}
	case 'n':
		g.n = p.number(-2048, 2047)
	case 'u':
		g.n = p.number(0, 1048575)
	case 'l':
		g.n = p.number(-2147483648, 2147483647)
	case 'w':
		g.n = p.number(-2147483648, 4294967295)
	case 'p':
		g.n = p.number(0, 4800)
	case 'k':
		g.n = p.number(2, 4)
	default:
		p.need(operands[0])
		p.look()
	}
}

func (p *plain) number(low, high int) int {
	at, minus := p.at, ""
	if p.kind == '-' {
		minus = "-"
		p.look()
	}
	p.need('n')
	n, _ := strconv.Atoi(minus + p.tok)
	if n < low || n > high {
		fail(api.ErrRange, at)
	}
	p.look()
	return n
}

func (p *plain) lay(word string, at int, operands string, g got) {
	switch word {
	case ".text", ".far", ".data", ".bss":
		p.sect = slices.Index([]string{"", ".text", ".far", ".data", ".bss"}, word)
		return
	case ".globl", ".weak":
		if p.said[g.name] != 0 {
			fail(api.ErrLocal, g.at)
		}
		p.said[g.name] = map[string]int{".globl": 1, ".weak": 2}[word]
		return
	case ".space":
		if g.n%4 != 0 {
			fail(api.ErrRange, at)
		}
	}
	words, kind := p.words(word, operands, &g)
	if kind == api.RelAddr && words[0] == 0x37 {
		fail(api.ErrReg, at)
	}
	if kind != 0 && len(p.o.Rels) == 32 {
		fail(api.ErrRelocs, at)
	}
	if p.lens[p.sect]+len(words) > []int{0, 1200, 1200, 64, 64}[p.sect] {
		fail(api.ErrSize, at)
	}
	if kind != 0 {
		p.o.Rels = append(p.o.Rels, api.Reloc{Sect: p.sect, Off: 4 * p.lens[p.sect], Kind: kind, Sym: g.sym, Addend: g.addend})
	}
	if word == ".align" {
		p.o.Align[p.sect-1] = max(p.o.Align[p.sect-1], g.n)
	}
	p.lens[p.sect] += len(words)
	switch p.sect {
	case 1:
		p.o.Text = append(p.o.Text, words...)
	case 2:
		p.o.Far = append(p.o.Far, words...)
	case 3:
		p.o.Data = append(p.o.Data, words...)
	}
}

// The words by their fields. A number is laid with no bit above the word's.

func wordR(seven, two, one, minor, rd int) int {
	return seven<<25 | two<<20 | one<<15 | minor<<12 | rd<<7 | 0x33
}
func wordI(n, one, minor, rd, low int) int {
	return int(uint32(n)<<20) | one<<15 | minor<<12 | rd<<7 | low
}
func wordS(n, two, one int) int {
	return int(uint32(n)>>5<<25) | two<<20 | one<<15 | 2<<12 | (n&31)<<7 | 0x23
}
func wordU(n, rd, low int) int { return int(uint32(n)<<12) | rd<<7 | low }

// words gives what an operation lays and the kind of its relocation, 0 if it has none.
func (p *plain) words(word, operands string, g *got) ([]int, int) {
	r := append(g.regs, 0, 0, 0)
	minor := map[string]int{"add": 0, "sub": 0, "slt": 2, "sltu": 3, "xor": 4, "or": 6, "and": 7, "addi": 0, "slti": 2, "xori": 4, "ori": 6, "andi": 7, "beq": 0, "bne": 1, "blt": 4, "bge": 5, "bltu": 6, "bgeu": 7}[word]
	named := strings.Contains(operands, "t")
	switch word {
	case "add", "slt", "sltu", "xor", "or", "and":
		return []int{wordR(0, r[2], r[1], minor, r[0])}, 0
	case "sub":
		return []int{wordR(32, r[2], r[1], minor, r[0])}, 0
	case "addi", "slti", "xori", "ori", "andi":
		return []int{wordI(g.n, r[1], minor, r[0], 0x13)}, 0
	case "lui":
		return []int{wordU(g.n, r[0], 0x37)}, 0
	case "lw":
		if named {
			return []int{wordU(0, r[0], 0x37), wordI(0, r[0], 2, r[0], 3)}, api.RelAddr
		}
		return []int{wordI(g.n, r[1], 2, r[0], 3)}, 0
	case "sw":
		if named {
			return []int{wordU(0, r[1], 0x37), wordS(0, r[0], r[1])}, api.RelAddr
		}
		return []int{wordS(g.n, r[0], r[1])}, 0
	case "la":
		return []int{wordU(0, r[0], 0x37), wordI(0, r[0], 0, r[0], 0x13)}, api.RelAddr
	case "jalr":
		return []int{wordI(g.n, r[1], 0, r[0], 0x67)}, 0
	case "beq", "bne", "blt", "bge", "bltu", "bgeu":
		return []int{r[1]<<20 | r[0]<<15 | minor<<12 | 0x63}, api.RelBranch
	case "jal", "j":
		return []int{r[0]<<7 | 0x6f}, api.RelJal
	case "call":
		return []int{0x97, 0x80e7}, api.RelCall
	case "tail":
		return []int{0x317, 0x30067}, api.RelCall
	case "li":
		return plainNumber(r[0], g.n), 0
	case "mv":
		return []int{wordI(0, r[1], 0, r[0], 0x13)}, 0
	case ".word":
		if named {
			return []int{0}, api.RelWord
		}
		return []int{int(uint32(g.n))}, 0
	case ".space":
		return repeat(g.n/4, 0), 0
	case ".align":
		return p.border(g)
	}
	return []int{map[string]int{"ecall": 0x73, "ret": 0x8067, "nop": 0x13}[word]}, 0
}

// plainNumber gives the words of li.
func plainNumber(rd, n int) []int {
	if n >= -2048 && n <= 2047 {
		return []int{wordI(n, 0, 0, rd, 0x13)}
	}
	low := int(int32(uint32(n)<<20)) >> 20
	return []int{wordU((n-low)/4096, rd, 0x37), wordI(low, rd, 0, rd, 0x13)}
}

func (p *plain) border(g *got) ([]int, int) {
	size := []int{0, 0, 1, 2, 4}[g.n]
	if p.sect > 2 {
		n := 0
		for (p.lens[p.sect]+n)%size != 0 {
			n++
		}
		return repeat(n, 0), 0
	}
	if size == 1 {
		return nil, 0
	}
	g.addend = 4*size - 4
	return repeat(size-1, 0x13), api.RelAlign
}
