package linker_test

import (
	"fmt"
	"strings"
	"testing"

	"linker/api"
)

// slab gives an object of so many words of text, far and data, all n, and noughts, with these borders.
func slab(t *testing.T, n, text, far, data, bss int, borders ...int) string {
	t.Helper()
	return written(t, &api.Object{Text: repeat(text, n), Far: repeat(far, n), Data: repeat(data, n), Bss: bss, Align: borders})
}

// starter gives an object that starts, with one word of far.
func starter(t *testing.T) string {
	t.Helper()
	return object(t, ".far;.globl _start;_start: nop")
}

func TestP14Borders(t *testing.T) {
	const nop = 0x13
	wantWords(t, []string{starter(t), slab(t, 1, 1, 1, 1, 1, 2, 2, 2, 2), slab(t, 2, 1, 1, 1, 1, 2, 2, 2, 2)}, nearby, []int{1, 2}, []int{nop, 1, 2}, []int{1, 2}, 2)
	wantWords(t, []string{slab(t, 1, 1, 1, 1, 1, 2, 2, 2, 2), slab(t, 2, 1, 2, 3, 4, 3, 3, 3, 3), starter(t), slab(t, 3, 1, 1, 1, 1, 4, 4, 4, 4)}, nearby,
		[]int{1, nop, 2, nop, 3}, []int{1, nop, 2, 2, nop, nop, nop, nop, 3}, []int{1, 0, 2, 2, 2, 0, 0, 0, 3}, 8)
	// Each at the next border of its own, the first ones at the base.
	for _, border := range []int{2, 3, 4} {
		size := 1 << uint(border) / 4
		for ahead := range 10 {
			files := []string{slab(t, 1, ahead, ahead, ahead, ahead, 2, 2, 2, 2), slab(t, 2, 1, 1, 1, 1, border, border, border, border), starter(t)}
			code, data := repeat(ahead, 1), repeat(ahead, 1)
			for len(code)%size != 0 {
				code, data = append(code, nop), append(data, 0)
			}
			// The noughts begin behind the data; those of the second at a border of addresses.
			noughts := ahead
			for (len(data)+1+noughts)%size != 0 {
				noughts++
			}
			wantWords(t, files, nearby, append(code, 2), append(append([]int(nil), append(code, 2)...), nop), append(data, 2), noughts+1)
			wantWords(t, files, faraway, append(code, 2), nil, append(data, 2), noughts+1)
		}
	}
}

// TestP14EmptySections: a section without words, too, begins at its border.
func TestP14EmptySections(t *testing.T) {
	const nop = 0x13
	one, empty := slab(t, 1, 1, 1, 1, 1, 2, 2, 2, 2), slab(t, 2, 0, 0, 0, 0, 4, 4, 4, 4)
	wantWords(t, []string{empty, one, starter(t)}, nearby, []int{1}, []int{1, nop}, []int{1}, 4) // the noughts from 16 on
	wantWords(t, []string{one, empty, one, starter(t)}, nearby, []int{1, nop, nop, nop, 1}, []int{1, nop, nop, nop, 1, nop}, []int{1, 0, 0, 0, 1}, 4)
	wantWords(t, []string{starter(t), one, empty}, nearby, []int{1, nop, nop, nop}, []int{nop, 1, nop, nop}, []int{1, 0, 0, 0}, 4)
	wantWords(t, []string{starter(t), empty, empty}, nearby, []int{}, []int{nop, nop, nop, nop}, []int{}, 0)
	// What stands in it stands at the border.
	wantText(t, objects(t, ".globl _start;_start: .word a;.word b;.word c", ".globl a;a:;.align 4;.data;.globl b;b:;.align 4;.bss;.globl c;c:;.align 4", ".data;.word 5"), nearby, 4112, 1<<17, 1<<17+16, nop)
}

func nops(n int) string { return strings.Repeat("nop;", n) }

// TestP14Align: words that do nothing, as many as are wanted.
func TestP14Align(t *testing.T) {
	for _, sect := range []string{"", ".far;"} {
		for k := 3; k <= 4; k++ {
			size := 1 << uint(k)
			for ahead := range 10 {
				text := fmt.Sprintf("%s.globl _start;_start: .word e;.word e+1;.word b;%sb:;.align %d;e: .word 7", sect, nops(ahead), k)
				at, end := 12+4*ahead, 12+4*ahead
				for end%size != 0 {
					end += 4
				}
				base := nearby.Text
				if sect != "" {
					base = nearby.Far
				}
				want := append([]int{base + end, base + end + 1, base + at}, repeat((end-12)/4, 0x13)...)
				want = append(want, 7)
				p, f := answer(t, objects(t, text), nearby)
				if got := append(p.text, p.far...); f.E != api.OK || !equal(got, want) {
					t.Errorf("P14: %q gives %x, %v, want %x", text, got, f, want)
				}
			}
		}
	}
	// Two in a row; one at the end, all of whose words are left out, and one whose are not.
	wantText(t, objects(t, ".globl _start;_start: .word 1;.align 3;.align 4;.align 3;.word 2;.align 4"), nearby, 1, 0x13, 0x13, 0x13, 2, 0x13, 0x13, 0x13)
	wantText(t, objects(t, ".globl _start;_start: .word a;.word b;.word c;a: .word 2;b:;.align 4;c:", ".word 3"), nearby, 4108, 4112, 4112, 2, 3)
	wantText(t, objects(t, ".globl _start;_start: .word a;.word b;a: .word c;b:;.align 4;c:", ".word 3"), nearby, 4104, 4108, 4112, 0x13, 3)
	wantText(t, objects(t, ".globl _start;_start: .word 1", ".align 4;.globl a;a: .word a;.align 3;.word a+4"), nearby, 1, 0x13, 0x13, 0x13, 4112, 0x13, 4116)
	// By addresses, not by places in the section: what stands ahead may have shrunk.
	wantText(t, objects(t, ".globl _start;_start: call f;.align 3;f: .word 1;call f;call f;.align 3;.word f"), nearby, jumpWord(1, 8), 0x13, 1, jumpWord(1, -4), jumpWord(1, -8), 0x13, 4104)
	wantText(t, objects(t, ".globl _start;_start: call f;call f;.align 3;f: .word 1"), nearby, jumpWord(1, 8), jumpWord(1, 4), 1)
	// The first word of three may stay or not, for itself.
	wantText(t, objects(t, ".globl _start;_start: call f;call f;call f;.align 4;f: .word 1"), nearby, jumpWord(1, 16), jumpWord(1, 12), jumpWord(1, 8), 0x13, 1)
	// One of 4 in a section whose border is 16.
	wantText(t, objects(t, ".globl _start;_start: .word 1;.align 3;.word 2;.align 3;.word 3;.word 4;.align 4;.word 5"), nearby, 1, 0x13, 2, 0x13, 3, 4, 0x13, 0x13, 5)
}

// limit is the distance from which on no call is short.
const limit = 1<<20 - 1<<15

// between gives files in which a call stands behind some words of one section and its symbol behind some of another.
func between(t *testing.T, from, to string, ahead, behind int) []string {
	t.Helper()
	return objects(t, from+fmt.Sprintf(".globl _start;_start: .space %d;call f", 4*ahead), to+fmt.Sprintf(".globl f;.space %d;f: nop", 4*behind))
}

func TestP14ShortCalls(t *testing.T) {
	for _, c := range []struct {
		ahead, behind int
		distance      int // from base to base limit + 16 more
		short         bool
	}{
		{7, 0, limit - 12, true}, {6, 0, limit - 8, true}, {5, 0, limit - 4, true}, {4, 0, limit, false}, {3, 0, limit + 4, false}, {9, 4, limit - 4, true}, {8, 4, limit, false}, {0, 0, limit + 16, false}, {200, 0, limit - 784, true}, {0, 100, limit + 416, false},
	} {
		forth := api.Bases{Text: 8192, Far: 8192 + limit + 16, Data: 4096}
		back := api.Bases{Text: 8192 + limit + 16, Far: 8192, Data: 4096}
		for _, dir := range []struct {
			from, to string
			b        api.Bases
		}{{"", ".far;", forth}, {".far;", "", back}} {
			p, f := answer(t, between(t, dir.from, dir.to, c.ahead, c.behind), dir.b)
			words := len(p.text) + len(p.far) - c.ahead - c.behind - 1
			if f.E != api.OK || (words == 1) != c.short || words < 1 || words > 2 {
				t.Errorf("P14: %d ahead, %d behind at %v: a call of %d words, %v, want short: %v", c.ahead, c.behind, dir.b, words, f, c.short)
			}
		}
		// Backwards: the symbol lies ahead of the call.
		for _, dir := range []struct {
			from, to string
			b        api.Bases
		}{{"", ".far;", back}, {".far;", "", forth}} {
			p, f := answer(t, between(t, dir.from, dir.to, c.behind, c.ahead), dir.b)
			words := len(p.text) + len(p.far) - c.ahead - c.behind - 1
			if f.E != api.OK || (words == 1) != c.short {
				t.Errorf("P14: backwards, %d ahead, %d behind at %v: a call of %d words, %v, want short: %v", c.ahead, c.behind, dir.b, words, f, c.short)
			}
		}
	}
	// To what means nothing, at 0; to data; to itself; of a tail too.
	none := objects(t, ".weak w;.globl _start;_start: nop;nop;nop;call w")
	wantText(t, none, api.Bases{Text: limit - 16, Far: 4096, Data: 4096}, 0x13, 0x13, 0x13, jumpWord(1, -limit+4))
	wantText(t, none, api.Bases{Text: limit, Far: 4096, Data: 4096}, 0x13, 0x13, 0x13, auipcOf(1, -limit>>12&0xfffff), wordI(-12, 1, 0, 1, 0x67))
	wantText(t, objects(t, ".globl _start;_start: call d;tail d;call _start;tail _start;.data;.word 1;d: .word 2"), nearby, jumpWord(1, 1<<17+4-4096), jumpWord(0, 1<<17+4-4100), jumpWord(1, -8), jumpWord(0, -12))
}

// TestP14ShortByTheFirstLayout: a call is short or not by where all lies as long as none is.
func TestP14ShortByTheFirstLayout(t *testing.T) {
	b := api.Bases{Text: 4096, Far: 4096 + limit, Data: 1 << 28}
	// Three calls that become short stand ahead of the fourth: it moves away from f, from limit - 4 to limit + 8.
	near := objects(t, ".globl _start;_start: call g;call g;call g;g: call f", ".far;.globl f;.space 20;f: nop")
	p, f := answer(t, near, b)
	if f.E != api.OK || len(p.text) != 4 || p.text[3] != jumpWord(1, limit+20-12) {
		t.Errorf("P14: a call that is near at first: %x, %v", p.text, f)
	}
	// One more word ahead of f, and it is none: limit at first.
	far := objects(t, ".globl _start;_start: call g;call g;call g;g: call f", ".far;.globl f;.space 24;f: nop")
	if p, f = answer(t, far, b); f.E != api.OK || len(p.text) != 5 {
		t.Errorf("P14: a call that is not near: %x, %v", p.text, f)
	}
	// From below, f comes nearer by three words, from limit to limit - 12; the call is not short for that.
	b = api.Bases{Text: 4096 + limit, Far: 4096, Data: 1 << 28}
	comes := objects(t, ".globl g;.globl f;g: call g;call g;call g;f: nop", ".far;.globl _start;_start: .space 24;call f")
	if p, f = answer(t, comes, b); f.E != api.OK || len(p.far) != 8 || p.far[6] != auipcOf(1, (limit-12+2048)>>12) {
		t.Errorf("P14: a call that is near at last only: %x, %v", p.far, f)
	}
	// The words that RelAlign is about are left out in that layout, too.
	aligned := objects(t, ".globl _start;_start: .align 4;.align 4;.align 4;nop;nop;nop;nop;nop;call f", ".far;.globl f;f: nop")
	if p, f = answer(t, aligned, api.Bases{Text: 4096, Far: 4096 + limit + 16, Data: 1 << 28}); f.E != api.OK || len(p.text) != 6 {
		t.Errorf("P14: a call behind words that are left out: %x, %v", p.text, f)
	}
	aligned = objects(t, ".globl _start;_start: .align 4;.align 4;.align 4;nop;nop;nop;nop;call f", ".far;.globl f;f: nop")
	if p, f = answer(t, aligned, api.Bases{Text: 4096, Far: 4096 + limit + 16, Data: 1 << 28}); f.E != api.OK || len(p.text) != 6 {
		t.Errorf("P14: a call behind words that are left out: %x, %v", p.text, f)
	}
}

func TestP14Symbols(t *testing.T) {
	const nop = 0x13
	// At a section's end: behind it, not at what the next begins with.
	wantText(t, objects(t, ".globl _start;.globl e;_start: .word e;e:", ".align 4;.word e"), nearby, 4100, nop, nop, nop, 4100)
	wantWords(t, objects(t, ".globl _start;_start: nop;.globl e;.globl z;.data;.word e;.word z;.word 3;e:;.bss;.space 4;z:", ".data;.align 3;.word e;.bss;.align 4;.space 4"), nearby, nil, nil, []int{1<<17 + 12, 1<<17 + 24, 3, 0, 1<<17 + 12}, 4)
	// Behind a call that is short.
	wantText(t, objects(t, ".globl _start;_start: call e;e: .word e;call e;.globl e;.word f;f:"), nearby, jumpWord(1, 4), 4100, jumpWord(1, -4), 4112)
	// In sections without words.
	wantText(t, objects(t, ".globl _start;_start: .word a;.word b;.word c", ".globl a;.globl b;.globl c;.far;a:;.data;b:;.bss;c:", ".bss;.space 4"), nearby, 1<<16, 1<<17, 1<<17)
}

func TestP14Clash(t *testing.T) {
	for _, c := range []struct {
		text, far, data, bss int // words; the text has one more
		b                    api.Bases
		ok                   bool
	}{
		{3, 4, 4, 4, api.Bases{Text: 4096, Far: 4112, Data: 4128}, true}, {4, 4, 4, 4, api.Bases{Text: 4096, Far: 4112, Data: 4128}, false}, {3, 5, 4, 4, api.Bases{Text: 4096, Far: 4112, Data: 4128}, false}, {3, 5, 0, 1, api.Bases{Text: 4096, Far: 4112, Data: 4128}, false}, {3, 5, 0, 0, api.Bases{Text: 4096, Far: 4112, Data: 4128}, true},
		{3, 4, 4, 4, api.Bases{Text: 4128, Far: 4160, Data: 4096}, true}, {3, 4, 5, 4, api.Bases{Text: 4128, Far: 4160, Data: 4096}, false}, {3, 4, 4, 5, api.Bases{Text: 4128, Far: 4160, Data: 4096}, false}, {3, 4, 0, 8, api.Bases{Text: 4128, Far: 4160, Data: 4096}, true}, {3, 4, 0, 9, api.Bases{Text: 4128, Far: 4160, Data: 4096}, false},
		{3, 4, 1, 1, api.Bases{Text: 4112, Far: 4096, Data: 8192}, true}, {3, 5, 1, 1, api.Bases{Text: 4112, Far: 4096, Data: 8192}, false},
		{3, 1, 1, 1, api.Bases{Text: 4096, Far: 4096, Data: 8192}, false}, {3, 0, 1, 1, api.Bases{Text: 4096, Far: 4096, Data: 8192}, true}, {3, 0, 0, 0, api.Bases{Text: 4096, Far: 4096, Data: 4096}, true}, {40, 0, 0, 0, api.Bases{Text: 4096, Far: 4112, Data: 4128}, true}, {3, 1, 1, 0, api.Bases{Text: 4096, Far: 8192, Data: 8192}, false}, {3, 1, 0, 1, api.Bases{Text: 4096, Far: 8192, Data: 8192}, false},
		{1100, 1, 1, 1, api.Bases{Text: 4096, Far: 65536, Data: 4096 + 4416}, true}, {1100, 1, 1, 1, api.Bases{Text: 4096, Far: 65536, Data: 4096 + 4400}, false}, {1100, 1, 1, 1, api.Bases{Text: 4096, Far: 8000, Data: 65536}, false},
		{3, 1, 1, 1, api.Bases{Text: 1<<30 - 16, Far: 8192, Data: 4096}, true}, {4, 1, 1, 1, api.Bases{Text: 1<<30 - 16, Far: 8192, Data: 4096}, false}, {1, 4, 1, 1, api.Bases{Text: 8192, Far: 1<<30 - 16, Data: 4096}, true}, {1, 5, 1, 1, api.Bases{Text: 8192, Far: 1<<30 - 16, Data: 4096}, false},
		{1, 1, 2, 2, api.Bases{Text: 8192, Far: 4096, Data: 1<<30 - 16}, true}, {1, 1, 3, 2, api.Bases{Text: 8192, Far: 4096, Data: 1<<30 - 16}, false}, {1, 1, 2, 3, api.Bases{Text: 8192, Far: 4096, Data: 1<<30 - 16}, false}, {1, 1, 0, 5, api.Bases{Text: 8192, Far: 4096, Data: 1<<30 - 16}, false}, {1, 1, 0, 4, api.Bases{Text: 8192, Far: 4096, Data: 1<<30 - 16}, true},
	} {
		e := api.ErrClash
		if c.ok {
			e = api.OK
		}
		wantFault(t, []string{part(t, 1, "_start"), slab(t, 2, c.text, c.far, c.data, c.bss, 2, 2, 2, 2)}, c.b, e, 0, "")
	}
	tight := api.Bases{Text: 4096, Far: 4112, Data: 8192}
	// What shrinks counts as it lies at last: four calls are eight words at first.
	wantFault(t, objects(t, ".globl _start;_start: call f;call f;call f;call f", ".far;.globl f;f: nop"), tight, api.OK, 0, "")
	wantFault(t, objects(t, ".globl _start;_start: call f;call f;call f;call f;nop", ".far;.globl f;f: nop"), tight, api.ErrClash, 0, "")
	wantFault(t, objects(t, ".globl _start;_start: nop;.align 4;.align 4;.far;nop"), tight, api.OK, 0, "")
	wantFault(t, objects(t, ".globl _start;_start: nop;.align 4;nop;.far;nop"), tight, api.ErrClash, 0, "")
	// Gaps count, and so does that of noughts.
	wantFault(t, append(objects(t, ".globl _start;_start: nop"), slab(t, 1, 1, 1, 0, 0, 4, 2, 2, 2)), tight, api.ErrClash, 0, "")
	wantFault(t, append(objects(t, ".globl _start;_start: nop"), slab(t, 1, 0, 0, 1, 1, 2, 2, 2, 4)), api.Bases{Text: 4112, Far: 8192, Data: 4096}, api.ErrClash, 0, "")
	// Ahead of what is not reached and of a start that is none.
	wantFault(t, objects(t, ".globl _start;_start: beq x0,x0,f;.space 4792;f: nop;.far;nop"), tight, api.ErrClash, 0, "")
	wantFault(t, objects(t, ".globl _start;nop;nop;nop;nop;_start:;.data;.word 1"), api.Bases{Text: 8192, Far: 4096, Data: 8192}, api.ErrClash, 0, "")
}

func TestP14BranchesReach(t *testing.T) {
	for _, op := range []string{"beq", "bne", "blt", "bge", "bltu", "bgeu"} {
		for _, c := range []struct {
			text string
			ok   bool
		}{
			{"%s x1,x2,a;.space 4084;a: nop", true}, {"%s x1,x2,a;.space 4088;a: nop", true}, {"%s x1,x2,a;.space 4092;a: nop", false}, {"%s x1,x2,a;.space 4096;a: nop", false},
			{"a: .space 4092;%s x1,x2,a", true}, {"a: .space 4096;%s x1,x2,a", true}, {"a: .space 4100;%s x1,x2,a", false}, {"a: .space 4104;%s x1,x2,a", false}, {"a: %s x1,x2,a", true},
		} {
			for _, sect := range []string{"", ".far;"} {
				text := sect + ".globl _start;_start: nop;" + fmt.Sprintf(c.text, op)
				if c.ok {
					wantFault(t, objects(t, text), nearby, api.OK, 0, "")
				} else {
					wantFault(t, objects(t, text), nearby, api.ErrReach, 0, "a")
				}
			}
		}
	}
	// By the distance at last: calls between become short, words are left out.
	wantFault(t, objects(t, ".globl _start;_start: beq x0,x0,a;call a;call a;.align 4;.align 4;.space 4076;a: nop"), nearby, api.OK, 0, "")
	wantFault(t, objects(t, ".globl _start;_start: beq x0,x0,a;call a;call a;.align 4;.align 4;.space 4080;a: nop"), nearby, api.ErrReach, 0, "a")
	// What means nothing lies at 0.
	wantFault(t, objects(t, ".weak w;.globl _start;_start: beq x0,x0,w"), nearby, api.OK, 0, "")
	wantFault(t, objects(t, ".weak w;.globl _start;_start: nop;beq x0,x0,w"), nearby, api.ErrReach, 0, "w")
}

func TestP14JumpsReach(t *testing.T) {
	const most = 1 << 20
	for _, c := range []struct {
		from, to string
		b        api.Bases
		ok       bool
	}{
		{"nop;nop;nop;nop;nop;", ".far;", api.Bases{Text: 8192, Far: 8192 + most + 16, Data: 4096}, true}, {"nop;nop;nop;nop;", ".far;", api.Bases{Text: 8192, Far: 8192 + most + 16, Data: 4096}, false}, {"nop;nop;nop;", ".far;", api.Bases{Text: 8192, Far: 8192 + most + 16, Data: 4096}, false},
		{"", ".far;nop;nop;nop;", api.Bases{Text: 8192, Far: 8192 + most - 16, Data: 4096}, true}, {"", ".far;", api.Bases{Text: 8192, Far: 8192 + most, Data: 4096}, false}, {"", ".far;", api.Bases{Text: 8192, Far: 8192 + most - 16, Data: 4096}, true},
		{"", ".far;", api.Bases{Text: 8192 + most, Far: 8192, Data: 4096}, true}, {"nop;", ".far;", api.Bases{Text: 8192 + most, Far: 8192, Data: 4096}, false}, {"nop;", ".far;nop;", api.Bases{Text: 8192 + most, Far: 8192, Data: 4096}, true},
		{".far;", "", api.Bases{Text: 8192, Far: 8192 + most, Data: 4096}, true}, {".far;nop;", "", api.Bases{Text: 8192, Far: 8192 + most, Data: 4096}, false}, {".far;", "", api.Bases{Text: 8192 + most, Far: 8192, Data: 4096}, false}, {".far;nop;", "", api.Bases{Text: 8192 + most, Far: 8192, Data: 4096}, true},
		{"", ".data;", api.Bases{Text: 8192, Far: 4096, Data: 8192 + most}, false}, {"", ".data;", api.Bases{Text: 8192, Far: 4096, Data: 8192 + most - 16}, true}, {"", ".bss;", api.Bases{Text: 8192, Far: 4096, Data: 1 << 29}, false},
	} {
		for _, op := range []string{"j f", "jal x1,f", "jal x0,f", "jal x31,f"} {
			files := objects(t, c.from+".globl go;go: "+op, c.to+".globl f;f:;.space 4", ".far;.globl _start;_start: nop")
			if c.ok {
				wantFault(t, files, c.b, api.OK, 0, "")
			} else {
				wantFault(t, files, c.b, api.ErrReach, 0, "f")
			}
		}
	}
	wantFault(t, objects(t, ".weak w;.globl _start;_start: j w"), based(0, 1<<20), api.OK, 0, "")
	wantFault(t, objects(t, ".weak w;.globl _start;_start: nop;j w"), based(0, 1<<20), api.ErrReach, 0, "w")
}

func TestP14FirstThatDoesNotReach(t *testing.T) {
	start, far := ".globl _start;_start: nop", ".far;.globl f;.globl g;f: nop;g: nop"
	wantFault(t, objects(t, start, "j f", far), faraway, api.ErrReach, 1, "f")
	wantFault(t, objects(t, start, far, "nop", "j g;j f"), faraway, api.ErrReach, 3, "g")
	wantFault(t, objects(t, start, "j a;a: beq x0,x0,g;j f", "j f", far), faraway, api.ErrReach, 1, "g")
	wantFault(t, objects(t, start, ".far;.globl t;j t;.text;nop;j g;t: nop", far), faraway, api.ErrReach, 1, "g") // text ahead of far
	wantFault(t, objects(t, start, ".globl t;t: nop", "call f;la x1,f;.word f;.far;call t;j t", far), faraway, api.ErrReach, 2, "t")
	// Objects by their numbers: the member is the last.
	wantFault(t, []string{object(t, start+";.globl a"), packed(t, object(t, ".globl b;b: nop"), object(t, ".globl a;a: j f"), object(t, far))}, faraway, api.ErrReach, 1, "f")
	wantFault(t, []string{object(t, start+";.globl f;.globl a"), packed(t, object(t, ".globl a;a: j f"), object(t, far)), object(t, "j f")}, faraway, api.ErrReach, 1, "f")
	// Calls, addresses and words reach all.
	wantFault(t, objects(t, start, "call f;tail g;la x1,g;lw x2,f+5;sw x3,g-7,x4;.word f;.data;.word g", far), api.Bases{Text: 4096, Far: 1<<30 - 16, Data: 1 << 29}, api.OK, 0, "")
	// Ahead of a start that is none.
	wantFault(t, objects(t, "j f;.globl _start;_start:", far), faraway, api.ErrReach, 0, "f")
}

func TestP14NoWordAtTheStart(t *testing.T) {
	behind := ".globl _start;nop;_start:"
	for _, c := range []struct {
		texts []string
		b     api.Bases
		ok    bool
	}{
		{[]string{behind}, nearby, false}, {[]string{".globl _start;_start:"}, nearby, false}, {[]string{".far;" + behind}, nearby, false}, {[]string{".far;.weak _start;_start:"}, nearby, false},
		{[]string{behind, "nop"}, nearby, true}, {[]string{behind, ".far;nop"}, nearby, false}, {[]string{behind, ".data;.word 1"}, nearby, false},
		{[]string{behind, ".align 4;nop"}, nearby, true}, {[]string{behind, "", ".align 4;nop"}, nearby, true}, // what fills a gap
		{[]string{".globl _start;nop;nop;nop;nop;_start:", ".align 4"}, nearby, false}, {[]string{".globl _start;nop;nop;nop;nop;_start:", ".align 4;nop"}, nearby, true},
		{[]string{".globl _start;_start:;.align 4"}, nearby, false}, {[]string{".globl _start;nop;_start:;.align 4"}, nearby, true}, {[]string{".globl _start;nop;_start:;.align 3"}, nearby, true}, {[]string{".globl _start;nop;nop;_start:;.align 3"}, nearby, false},
		{[]string{".globl _start;nop;nop;nop;nop;_start:", ".far;nop"}, api.Bases{Text: 4096, Far: 4112, Data: 8192}, true}, {[]string{".far;.globl _start;nop;nop;nop;nop;_start:", "nop"}, api.Bases{Text: 4112, Far: 4096, Data: 8192}, true}, // the other region begins there
		{[]string{".globl _start;nop;nop;nop;nop;_start:", ".data;.word 19"}, api.Bases{Text: 4096, Far: 8192, Data: 4112}, false}, {[]string{".globl _start;nop;nop;nop;nop;_start:"}, api.Bases{Text: 4096, Far: 4112, Data: 8192}, false},
		{[]string{".globl _start;_start:", ".far;nop"}, api.Bases{Text: 4096, Far: 4096, Data: 8192}, true}, {[]string{".globl _start;_start:", ".far;nop;nop;nop;nop;nop"}, api.Bases{Text: 4112, Far: 4096, Data: 8192}, true}, {[]string{".globl _start;_start:", ".far;nop;nop;nop;nop"}, api.Bases{Text: 4112, Far: 4096, Data: 8192}, false},
		{[]string{".globl _start;nop;nop;nop;nop;_start:"}, based(0, 1<<30-16), false},
	} {
		e := api.ErrStart
		if c.ok {
			e = api.OK
		}
		wantFault(t, objects(t, c.texts...), c.b, e, 0, "")
	}
}

// chain gives the most objects that can take part, each of the most words and relocations: one that starts, then seven archives of six members, each wanting the next.
func chain(t *testing.T) []string {
	t.Helper()
	var files, members []string
	for k := range 43 {
		o := &api.Object{Text: repeat(api.MaxCode, 5), Far: repeat(api.MaxCode, 6), Data: repeat(api.MaxData, 7), Bss: api.MaxBss, Align: []int{4, 4, 4, 4}}
		o.Syms = []api.Symbol{{Name: fmt.Sprint("f", k), Bind: api.Global, Sect: api.Far, Off: 4 * api.MaxCode}, {Name: fmt.Sprint("f", k+1), Bind: api.Global}}
		if k == 0 {
			o.Syms[0] = api.Symbol{Name: "_start", Bind: api.Global, Sect: api.Text}
		}
		if k == 42 {
			o.Syms = o.Syms[:1]
		}
		for i := range 32 {
			words, r := o.Text, api.Reloc{Sect: api.Text, Off: 8 * i, Kind: api.RelCall, Sym: (len(o.Syms) - 1) * (i % 2)}
			if i >= 16 {
				words, r.Sect, r.Off = o.Far, api.Far, 8*(i-16)
			}
			words[r.Off/4], words[r.Off/4+1] = 0x97, 0x80e7
			o.Rels = append(o.Rels, r)
		}
		if k == 0 {
			files = append(files, written(t, o))
			continue
		}
		members = append(members, written(t, o))
		if len(members) == 6 {
			files, members = append(files, packed(t, members...)), nil
		}
	}
	return files
}

func TestP14Most(t *testing.T) {
	files := chain(t)
	near, far := api.Bases{Text: 1 << 20, Far: 1<<20 + 1<<18, Data: 4096}, api.Bases{Text: 1 << 20, Far: 1 << 26, Data: 4096}
	for _, c := range []struct {
		b         api.Bases
		text, far int // how many calls are short
	}{{near, 43 * 16, 43 * 16}, {far, 8, 8 + 42*16}} { // at far, those within a region
		p, f := answer(t, files, c.b)
		if f.E != api.OK || len(p.text) != 43*api.MaxCode-c.text || len(p.far) != 43*api.MaxCode-c.far || len(p.data) != 43*api.MaxData || p.noughts != 43*api.MaxBss {
			t.Errorf("P14: the most at %v: %d, %d, %d, %d words, %v", c.b, len(p.text), len(p.far), len(p.data), p.noughts, f)
		}
	}
	wantFault(t, append(files[:7:7], files[0]), near, api.ErrDup, 37, "_start")
	wantFault(t, append(files, files[1]), near, api.ErrFiles, 0, "")
	wantFault(t, append([]string{files[1], files[0]}, files[2:]...), near, api.ErrUndef, 0, "f1")
}
