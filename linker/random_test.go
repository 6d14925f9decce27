package linker_test

import (
	"fmt"
	"math/rand"
	"strings"
	"testing"

	"linker/api"
	"linker/linker"
)

// sameText holds the program's answer to a text against plainText's.
func sameText(t *testing.T, text string) api.Errno {
	t.Helper()
	o, want := plainText(text)
	s, f := linker.Assemble(text)
	if f != want {
		t.Fatalf("P7 to P9: Assemble(%q) = %x, %v, want %v", text, s, f, want)
	}
	if want.E != api.OK {
		if s != "" {
			t.Fatalf("P1: Assemble(%q) = %x beside %v", text, s, f)
		}
		return want.E
	}
	if !isObject(o) {
		t.Fatalf("P4: of %q this is no object: %+v", text, o)
	}
	if s != plainBytes(o) {
		t.Fatalf("P8: Assemble(%q) = %x, want %x", text, s, plainBytes(o))
	}
	return api.OK
}

// writer writes texts that are mostly right.
type writer struct {
	random *rand.Rand
	labels int
}

func (w *writer) one(l ...string) string { return l[w.random.Intn(len(l))] }

func (w *writer) rarely(n int) bool { return w.random.Intn(n) == 0 }

func (w *writer) register() string {
	if w.rarely(60) {
		return w.one("x32", "x01", "x", "x00", "xx", "a", "5", "x3a", "-", "X1", "x311", ".x1")
	}
	return fmt.Sprint("x", w.random.Intn(32))
}

func (w *writer) name() string {
	if w.rarely(60) {
		return w.one("abcdefg", "x5", "a.b", ".text", "x31", "toolong", "7", "(", "a.bcdefg", "x32", "x01", "abcdef", "add")
	}
	return w.one("a", "b", "c", "_", "d9", "_start", "main", fmt.Sprint("s", w.random.Intn(24)))
}

func (w *writer) number() string {
	if w.rarely(60) {
		return w.one("12345678901", "5x", "5_", "5.", "00000000000", "a", "--1", "-", "+", "+1", "5X", "- 5", "-\t7")
	}
	l := []int{0, 1, 2, 3, 4, 8, 16, 2047, 2048, 2049, 4095, 4096, 4796, 4800, 4804, 1048575, 1048576, 2147483647, 2147483648, 2147483649, 4294967295, 4294967296, 9999999999}
	if w.rarely(3) {
		return fmt.Sprint(w.random.Intn(4097) - 2048)
	}
	n := l[w.random.Intn(len(l))]
	if !w.rarely(5) {
		n = l[w.random.Intn(9)]
	}
	return w.one("", "", "-") + fmt.Sprint(n)
}

func (w *writer) target() string {
	switch w.random.Intn(4) {
	case 0:
		return w.name() + "+" + w.number()
	case 1:
		return w.name() + "-" + w.number()
	}
	return w.name()
}

func (w *writer) operation() string {
	switch w.random.Intn(20) {
	case 0:
		return w.one("add", "sub", "slt", "sltu", "xor", "or", "and") + " " + w.register() + "," + w.register() + "," + w.register()
	case 1:
		return w.one("addi", "slti", "xori", "ori", "andi") + " " + w.register() + "," + w.register() + "," + w.number()
	case 2:
		return w.one("lui", "li") + " " + w.register() + "," + w.number()
	case 3:
		return w.one("lw", "sw", "jalr") + " " + w.register() + "," + w.number() + "(" + w.register() + ")"
	case 4:
		return w.one("beq", "bne", "blt", "bge", "bltu", "bgeu") + " " + w.register() + "," + w.register() + "," + w.name()
	case 5:
		return "jal " + w.register() + "," + w.name()
	case 6:
		return w.one("j", "call", "tail") + " " + w.name()
	case 7:
		return w.one("la", "lw") + " " + w.register() + "," + w.target()
	case 8:
		return "sw " + w.register() + "," + w.target() + "," + w.register()
	case 9:
		return "mv " + w.register() + "," + w.register()
	case 10, 11:
		return w.one(".text", ".far", ".data", ".bss")
	case 12:
		return ".word " + w.one(w.number(), w.target())
	case 13:
		return ".space " + w.one(w.number(), "4", "8", "252", "4800", "4796", "6")
	case 14, 15:
		return ".align " + w.one("2", "3", "4", "3", "4", "2", "3", "4", "1", "5", "-2", "-0")
	case 16:
		return w.one(".globl ", ".weak ") + w.name()
	case 17:
		return w.one("nop", "ret", "ecall", "auipc x1,5", "addd", "call", "nop nop", ".word", "b")
	}
	return w.one("nop", "ret", "ecall")
}

func (w *writer) line() string {
	s := ""
	if w.rarely(4) {
		s = w.name() + ":"
	}
	if w.rarely(3) {
		w.labels++
		s = fmt.Sprint("l", w.labels, ":")
	}
	s += w.one("", " ", "\t") + w.operation()
	if w.rarely(6) {
		s += w.one("#", " # ?", "\t", "  ", " #\x00\xff:")
	}
	return s
}

// spoil changes a text at a few places.
func (w *writer) spoil(text string) string {
	b := []byte(text)
	for range 1 + w.random.Intn(2) {
		if len(b) == 0 {
			break
		}
		i := w.random.Intn(len(b))
		c := ",:()+-#?\n\t x0a9_.X\r\x00\xff"[w.random.Intn(21)]
		switch w.random.Intn(3) {
		case 0:
			b[i] = c
		case 1:
			b = append(b[:i], b[i+1:]...)
		case 2:
			b = append(b[:i], append([]byte{c}, b[i:]...)...)
		}
	}
	return string(b)
}

func (w *writer) text(lines int) string {
	w.labels = 0
	var l []string
	for range lines {
		l = append(l, w.line())
	}
	text := strings.Join(l, "\n")
	if w.rarely(4) {
		text = w.spoil(text)
	}
	return text
}

// longText writes a text of lines of which each has no fault of its own, so that it comes to the bounds of an object.
func (w *writer) longText() string {
	w.labels = 0
	text := ""
	names := []string{"a", "b", "_start"}
	for i := range 20 {
		names = append(names, fmt.Sprint("s", i))
	}
	names = names[:1+w.random.Intn(len(names))]
	for {
		name := w.one(names...)
		w.labels++
		line := w.one("j "+name, "call "+name, "beq x1,x2,"+name, "la x1,"+name+"-1", "jal x5,"+name, "sw x1,"+name+",x2", ".align 3", ".align 4", "li x1,2048", "nop", ".text", ".far", ".text\n.word "+name, ".data\n.word "+name+"+4\n.text", ".bss\n.space 8\n.text", fmt.Sprint("l", w.labels, ":"), ".far\n.space 2000")
		if w.rarely(40) {
			line = w.one(".globl ", ".weak ") + name
		}
		if len(text)+len(line) >= api.MaxText {
			return text
		}
		text += line + "\n"
	}
}

// TestP9Random: many texts, told the same as by plainText; and of all faults and of none some.
func TestP9Random(t *testing.T) {
	w := &writer{random: rand.New(rand.NewSource(3))}
	seen := map[api.Errno]int{}
	for i := range 25000 {
		seen[sameText(t, w.text(1+i%7))]++
	}
	for range 3000 {
		seen[sameText(t, w.longText())]++
	}
	for e := api.ErrChar; e <= api.ErrLocal; e++ {
		if seen[e] < 30 {
			t.Errorf("of error %d there were %d texts: too few to tell", e, seen[e])
		}
	}
	if seen[api.OK] < 2000 {
		t.Errorf("%d texts without a fault: too few to tell", seen[api.OK])
	}
	t.Log(seen)
}

// TestP1AssembleAtAllBytes: texts that are none.
func TestP1AssembleAtAllBytes(t *testing.T) {
	random := rand.New(rand.NewSource(4))
	for range 30000 {
		b := make([]byte, random.Intn(40))
		for i := range b {
			b[i] = byte(random.Intn(256))
			if !(random.Intn(8) == 0) {
				b[i] = "addiwlsjx0123,:()+-.# \n\t_"[random.Intn(25)]
			}
		}
		sameText(t, string(b))
	}
	for c := range 256 {
		for _, n := range []int{1, 2, 10, 11, 999, 1000, 1001, 1 << 16} {
			sameText(t, strings.Repeat(string([]byte{byte(c)}), n))
		}
		for _, text := range []string{"nop %c", "nop%c", "%cnop", "a%c", "a:%c", "add x1%cx2,x3", "add x1,%cx2", "li x1,5%c", ".word a%c4", ".word %c4", "#%c", "lw x1,4%cx2)", "lw x1,4(x2%c"} {
			sameText(t, strings.ReplaceAll(text, "%c", string([]byte{byte(c)})))
		}
	}
}
