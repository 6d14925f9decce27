package linker_test

import (
	"fmt"
	"testing"

	"linker/api"
	"linker/linker"
)

func TestP15Examples(t *testing.T) {
	text := ".globl _start;_start: li x10,7;li x17,1;ecall;li x17,0;ecall"
	s, f := linker.Link(objects(t, text), api.Bases{Text: 4096, Far: 65536, Data: 131072})
	if f != (api.Fault{}) || s != unhex(t, known) {
		t.Fatalf("P15: Link = %x, %v, want %s", s, f, known)
	}
	m, e := linker.Load(s)
	if e != api.OK {
		t.Fatalf("P10: Load = %d", e)
	}
	wantRun(t, m, nil, 100, api.Result{End: api.Exit, Code: 7, Out: []int{7}, Steps: 5})
	wantRun(t, m, nil, 3, api.Result{End: api.OutFuel, Out: []int{7}, Steps: 3})
	files := objects(t, ".globl _start;_start: call g", ".far;.globl g;g: ret")
	wantWords(t, files, api.Bases{Text: 4096, Far: 65536, Data: 131072}, []int{jumpWord(1, 65536-4096)}, []int{0x8067}, []int{}, 0)
	wantWords(t, files, api.Bases{Text: 4096, Far: 1 << 26, Data: 131072}, []int{auipcOf(1, 1<<14-1), wordI(0, 1, 0, 1, 0x67)}, []int{0x8067}, []int{}, 0)
}

// TestP15Heads: where the bytes begin.
func TestP15Heads(t *testing.T) {
	for _, b := range []api.Bases{nearby, faraway, {Text: 1<<30 - 16, Far: 4096, Data: 4112}, {Text: 4112, Far: 1<<30 - 32, Data: 4096}} {
		files := objects(t, ".word 1;.globl _start;_start: .word 2;.far;.word 3;.data;.word 4;.bss;.space 8")
		want := picture{start: b.Text + 4, atText: b.Text, atFar: b.Far, atData: b.Data, text: []int{1, 2}, far: []int{3}, data: []int{4}, noughts: 2}
		if s, f := linker.Link(files, b); f != (api.Fault{}) || s != want.bytes() {
			t.Errorf("P15: Link at %v = %x, %v, want %x", b, s, f, want.bytes())
		}
	}
}

func TestP15Words(t *testing.T) {
	for _, addend := range []int{0, 1, 2, 3, 4, 100, 2047, -1, -2, -4, -2048} {
		text := fmt.Sprintf(".weak w;.globl _start;_start: .word a%+d;.word w%+d;.data;.word a%+d;.word w%+d;.word b%+d;.far;nop;a: .word a%+d;.bss;b: .space 4", addend, addend, addend, addend, addend, addend)
		a, w, b := 1<<16+4+addend, int(uint32(addend)), 1<<17+12+addend
		wantWords(t, objects(t, text), nearby, []int{a, w}, []int{0x13, a}, []int{a, w, b}, 1)
	}
	// Words without a relocation stay as they are.
	wantWords(t, objects(t, ".globl _start;_start: .word 4294967295;.word 0;.far;.word 151;.word 32999;.data;.word 2147483648"), nearby, []int{1<<32 - 1, 0}, []int{0x97, 0x80e7}, []int{1 << 31}, 0)
}

func TestP15Branches(t *testing.T) {
	for minor, op := range []string{"beq", "bne", "", "", "blt", "bge", "bltu", "bgeu"} {
		if op == "" {
			continue
		}
		for _, words := range []int{0, 1, 2, 7, 8, 15, 16, 31, 255, 256, 511, 512, 700, 1022, 1023} {
			forth := fmt.Sprintf(".globl _start;_start: %s x%d,x31,a;.space %d;a: nop", op, minor, 4*words)
			if words < 1023 {
				wantFirst(t, objects(t, forth), branchOf(minor, minor, 31, 4*words+4))
			}
			back := fmt.Sprintf("a: .space %d;.globl _start;_start: %s x31,x%d,a", 4*words, op, minor)
			wantFirst(t, objects(t, back), branchOf(minor, 31, minor, -4*words))
		}
	}
}

// wantFirst tells the word that an image starts with.
func wantFirst(t *testing.T, files []string, want int) {
	t.Helper()
	s, f := linker.Link(files, nearby)
	p, ok := parsed(s)
	if f.E != api.OK || !ok || p.start < 4096 || (p.start-4096)/4 >= len(p.text) || p.text[(p.start-4096)/4] != want {
		t.Errorf("P15: Link = %x, %v, want to start with %x", s, f, want)
	}
	answer(t, files, nearby)
}

func TestP15Jumps(t *testing.T) {
	for _, rd := range []int{0, 1, 5, 31} {
		for bit := 4; bit < 20; bit++ {
			for _, more := range []int{0, 1, 2, 3} {
				text, d := fmt.Sprintf(".globl _start;_start: jal x%d,f", rd), 1<<uint(bit)+4*more
				far := fmt.Sprintf(".far;.globl f;.space %d;f: nop", 4*more)
				wantText(t, objects(t, text, far), api.Bases{Text: 1 << 21, Far: 1<<21 + 1<<uint(bit), Data: 4096}, jumpWord(rd, d))
				wantText(t, objects(t, text, far), api.Bases{Text: 1 << 21, Far: 1<<21 - 1<<uint(bit), Data: 4096}, jumpWord(rd, 8*more-d))
			}
		}
	}
	wantText(t, objects(t, ".globl _start;_start: j _start;a: jal x1,_start;j a;j b;b:"), nearby, jumpWord(0, 0), jumpWord(1, -4), jumpWord(0, -4), jumpWord(0, 4))
}

// partsOf gives the low part of v, and the high one that makes up for its sign.
func partsOf(v int) (int, int) {
	low := v & 4095
	if low >= 2048 {
		low -= 4096
	}
	return low, (v - low) / 4096 & 0xfffff
}

func TestP15Calls(t *testing.T) {
	for _, op := range []struct {
		line    string
		rd, via int
	}{{"call f", 1, 1}, {"tail f", 0, 6}} {
		for _, far := range []int{1 << 26, 1<<26 + 16, 1<<26 + 2032, 1<<26 + 2048, 1<<26 + 2064, 1<<26 + 4080, 1<<30 - 4096, 4096, 4096 + 2032, 4096 + 2048, 4096 + 4080} {
			for _, words := range []int{0, 1, 3} {
				b := api.Bases{Text: 1 << 24, Far: far, Data: 1 << 20}
				files := objects(t, "nop;.globl _start;_start: "+op.line, fmt.Sprintf(".far;.globl f;.space %d;f: nop", 4*words))
				low, high := partsOf(far + 4*words - (1<<24 + 4))
				wantText(t, files, b, 0x13, auipcOf(op.via, high), wordI(low, op.via, 0, op.rd, 0x67))
				b.Text = far + 8192
				if far > 1<<29 {
					b.Text = far - 8192
				}
				wantText(t, files, b, 0x13, jumpWord(op.rd, far+4*words-b.Text-4))
			}
		}
	}
	// A short one has the second word's register, not the first's.
	for _, rd := range []int{0, 1, 7, 31} {
		o := bare()
		o.Text = []int{auipcOf(5, 0), wordI(0, 5, 0, rd, 0x67), 0x13}
		o.Syms = []api.Symbol{{Name: "_start", Bind: api.Global, Sect: api.Text}, {Name: "e", Sect: api.Text, Off: 8}, {Name: "f", Bind: api.Weak}}
		o.Rels = []api.Reloc{{Sect: api.Text, Kind: api.RelCall, Sym: 1}}
		wantText(t, []string{written(t, o)}, nearby, jumpWord(rd, 4), 0x13)
		o.Rels[0].Sym = 2
		wantText(t, []string{written(t, o)}, nearby, jumpWord(rd, -4096), 0x13)
		wantText(t, []string{written(t, o)}, faraway, auipcOf(5, -1<<12&0xfffff), wordI(0, 5, 0, rd, 0x67), 0x13)
	}
}

func TestP15Addresses(t *testing.T) {
	for _, base := range []int{1 << 17, 1<<17 + 2032, 1<<17 + 2048, 1<<17 + 2064, 1<<17 + 4080, 1<<30 - 16, 1<<30 - 2048, 4096} {
		for _, addend := range []int{0, 1, -1, 4, 15, 16, 31, 32, 2047, 2046, -2047, -2048} {
			text := fmt.Sprintf(".weak w;.globl _start;_start: la x5,d%+d;lw x6,d%+d;sw x7,d%+d,x8;la x9,w%+d;sw x10,w%+d,x11;.data;.word 1;d: .word 2", addend, addend, addend, addend, addend)
			low, high := partsOf(base + 4 + addend)
			none, up := partsOf(addend)
			wantText(t, objects(t, text), api.Bases{Text: 1 << 20, Far: 1 << 21, Data: base},
				wordU(high, 5, 0x37), wordI(low, 5, 0, 5, 0x13), wordU(high, 6, 0x37), wordI(low, 6, 2, 6, 3), wordU(high, 8, 0x37), wordS(low, 7, 8), wordU(up, 9, 0x37), wordI(none, 9, 0, 9, 0x13), wordU(up, 11, 0x37), wordS(none, 10, 11))
		}
	}
	// The register of the second word is its own.
	o := bare()
	o.Far = []int{wordU(0, 5, 0x37), wordI(0, 5, 0, 31, 0x13), wordU(0, 6, 0x37), wordI(0, 6, 2, 0, 3), wordU(0, 7, 0x37), wordS(0, 7, 7)}
	o.Syms = []api.Symbol{{Name: "_start", Bind: api.Global, Sect: api.Far, Off: 8}}
	for i := range 3 {
		o.Rels = append(o.Rels, api.Reloc{Sect: api.Far, Off: 8 * i, Kind: api.RelAddr, Addend: -12})
	}
	wantWords(t, []string{written(t, o)}, nearby, nil, []int{wordU(16, 5, 0x37), wordI(-4, 5, 0, 31, 0x13), wordU(16, 6, 0x37), wordI(-4, 6, 2, 0, 3), wordU(16, 7, 0x37), wordS(-4, 7, 7)}, nil, 0)
}

const finish = ";li x17,1;ecall;li x10,0;li x17,0;ecall"

// TestP15Runs: what is linked does what its modules say.
func TestP15Runs(t *testing.T) {
	sum := objects(t, ".globl _start;_start: li x11,3;call sum"+finish, ".far;.globl sum;sum: li x12,0;li x17,2;g: beq x11,x0,out;ecall;add x12,x12,x10;addi x11,x11,-1;j g;out: mv x10,x12;ret")
	words := objects(t, ".globl _start;_start: lw x5,p;lw x10,4(x5);li x17,1;ecall;li x6,11;sw x6,z+4,x7;la x8,z;lw x10,4(x8);ecall;call other;li x10,0;li x17,0;ecall;.data;d: .word 5;.word -1;p: .word d;.bss;.space 4;.align 4;z: .space 8", ".globl other;other: lw x10,z;ecall;lw x10,d;ecall;ret;.data;.align 4;d: .word 7;.bss;z: .space 4")
	lib := []string{object(t, ".globl f;f: addi x10,x10,1;tail g"), object(t, ".far;.globl g;.align 4;g: addi x10,x10,20;tail h"), object(t, ".weak h;h: addi x10,x10,300;ret")}
	main := object(t, ".globl _start;_start: li x10,0;call f"+finish)
	global := object(t, ".globl h;nop;h: addi x10,x10,900;ret")
	for _, b := range []api.Bases{nearby, faraway, {Text: 1 << 29, Far: 4096, Data: 1<<30 - 4096}, {Text: 4096, Far: 8192, Data: 6144}} {
		wantOut(t, sum, b, []int{10, -3, 1<<32 + 4}, 11)
		wantOut(t, words, b, nil, -1, 11, 0, 7)
		wantOut(t, []string{words[1], words[0]}, b, nil, -1, 11, 0, 7)
		wantOut(t, []string{main, packed(t, lib...)}, b, nil, 321)
		wantOut(t, []string{main, packed(t, lib[2], lib[1], lib[0])}, b, nil, 321)
		wantOut(t, []string{lib[2], global, main, packed(t, lib[1], lib[0])}, b, nil, 921)
		wantOut(t, []string{main, packed(t, lib[0], global, lib[2], lib[1])}, b, nil, 921) // the first that defines h, once g wants it
		wantOut(t, []string{main, packed(t, lib[0], global, lib[1], lib[2])}, b, nil, 321)
	}
}
