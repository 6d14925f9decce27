package linker_test

import (
	"testing"

	"linker/api"
)

// TestP13Meanings: what a name means is told by a word that is found there.
func TestP13Meanings(t *testing.T) {
	// main's first word is the address of v, or 0.
	main := object(t, ".globl _start;.weak v;_start: .word v")
	global := object(t, ".globl v;.word 0;v: .word 0")
	weak := object(t, ".weak v;.word 0;.word 0;v: .word 0")
	other := object(t, ".weak v;v: .word 0")
	local := object(t, "v: .word v;.globl u;u: .word 0")
	for _, c := range []struct {
		files []string
		want  int // which word of the text it is; -1, if it means nothing
	}{
		{[]string{main}, -1}, {[]string{main, global}, 2}, {[]string{global, main}, 1}, {[]string{main, weak}, 3}, {[]string{main, other}, 1},
		{[]string{main, weak, other}, 3}, {[]string{main, other, weak}, 1}, {[]string{other, main, weak}, 0}, {[]string{weak, main, other}, 2},
		{[]string{main, weak, other, global}, 6}, {[]string{main, other, global, weak}, 3}, {[]string{global, main, weak, other}, 1}, // a Global one, wherever it stands
		{[]string{main, local}, -1}, {[]string{main, local, other}, 3}, {[]string{local, main, weak}, 5},
		{[]string{main, object(t, ".globl v;.far;v: nop"), object(t, ".weak v;v: .word 0")}, -2},
	} {
		p, f := answer(t, c.files, nearby)
		if f.E != api.OK {
			t.Errorf("P13: %v", f)
			continue
		}
		want := 4096 + 4*c.want
		if c.want == -1 {
			want = 0
		}
		if c.want == -2 {
			want = nearby.Far
		}
		if got := p.text[(p.start-4096)/4]; got != want {
			t.Errorf("P13: of %d files v means %d, want %d", len(c.files), got, want)
		}
	}
	// Those who define it weak mean what all mean; a Local one means itself.
	wantText(t, objects(t, ".weak v;.globl _start;_start:;v: .word v", ".globl v;.word 7;v: .word v"), nearby, 4104, 7, 4104)
	wantText(t, objects(t, ".globl _start;_start:;v: .word v", ".globl v;.word 7;v: .word v", "nop;v: .word v", ".weak v;.word v"), nearby, 4096, 7, 4104, 0x13, 4112, 4104)
	// In every section.
	wantWords(t, objects(t, ".globl _start;_start: .word a;.word b;.word c;.word d", ".globl a;.globl b;.globl c;.globl d;a: nop;.far;nop;b: nop;.data;.word 1;.word 2;c: .word a;.bss;.space 8;d: .space 4"), nearby,
		[]int{4096 + 16, 1<<16 + 4, 1<<17 + 8, 1<<17 + 12 + 8, 0x13}, []int{0x13, 0x13}, []int{1, 2, 4096 + 16}, 3)
}

func TestP13Twice(t *testing.T) {
	main := part(t, 1, "_start")
	ab, ba, a := part(t, 2, "a", "b"), part(t, 3, "b", "a"), part(t, 4, "a")
	wantFault(t, []string{main, main}, nearby, api.ErrDup, 1, "_start")
	wantFault(t, []string{main, a, a}, nearby, api.ErrDup, 2, "a")
	wantFault(t, []string{a, main, a}, nearby, api.ErrDup, 2, "a")
	wantFault(t, []string{main, ab, ba}, nearby, api.ErrDup, 2, "b") // by the symbols of the second
	wantFault(t, []string{main, ba, ab}, nearby, api.ErrDup, 2, "a")
	wantFault(t, []string{main, ab, a, ba}, nearby, api.ErrDup, 2, "a") // by objects
	wantFault(t, []string{main, a, part(t, 5, "b"), part(t, 6, "b"), a}, nearby, api.ErrDup, 3, "b")
	wantFault(t, []string{main, a, part(t, 5, "?x", "~y", ".z", "c", "a", "d")}, nearby, api.ErrDup, 2, "a")
	wantFault(t, objects(t, ".globl _start;_start: nop;.globl v;.data;v: .word 1", ".globl v;.bss;v: .space 4"), nearby, api.ErrDup, 1, "v")
	// In another section, in an empty one, behind all words it is defined, too.
	wantFault(t, objects(t, ".globl _start;_start: nop;.globl v;v:", ".globl v;.far;v:"), nearby, api.ErrDup, 1, "v")
	// Ahead of the faults of names that are not defined, and of the start.
	wantFault(t, []string{part(t, 1, "?none"), a, a}, nearby, api.ErrDup, 2, "a")
	// No faults: all but one are Weak, Local or Undef.
	for _, files := range [][]string{
		{main, a, part(t, 5, "~a"), part(t, 6, "~a")}, {main, part(t, 5, "~a"), part(t, 6, "~a"), a}, {main, a, part(t, 5, ".a"), part(t, 6, ".a")}, {main, a, part(t, 5, "?a"), part(t, 6, "?~a")}, {main, part(t, 5, "?a"), a},
		{main, part(t, 5, "~_start"), part(t, 6, "._start"), part(t, 7, "?_start")},
	} {
		wantFault(t, files, nearby, api.OK, 0, "")
	}
}

func TestP13Undefined(t *testing.T) {
	main := part(t, 1, "_start")
	wantFault(t, []string{part(t, 1, "_start", "?a")}, nearby, api.ErrUndef, 0, "a")
	wantFault(t, []string{main, part(t, 2, "?a", "?b")}, nearby, api.ErrUndef, 1, "a")
	wantFault(t, []string{main, part(t, 2, "?b", "?a")}, nearby, api.ErrUndef, 1, "b")
	wantFault(t, []string{main, part(t, 2, "?b", "?a"), part(t, 3, "b")}, nearby, api.ErrUndef, 1, "a")
	wantFault(t, []string{main, part(t, 2, "a"), part(t, 3, "?b", "?a"), part(t, 4, "?c")}, nearby, api.ErrUndef, 2, "b")
	wantFault(t, []string{main, part(t, 2, "?a"), part(t, 3, "b", ".a"), part(t, 4, "?~a")}, nearby, api.ErrUndef, 1, "a") // none of these defines it
	wantFault(t, []string{part(t, 2, "?~a"), main, part(t, 3, "?a")}, nearby, api.ErrUndef, 2, "a")
	wantFault(t, []string{part(t, 1, "?a")}, nearby, api.ErrUndef, 0, "a") // ahead of the start's
	wantFault(t, []string{part(t, 1, "?_start")}, nearby, api.ErrUndef, 0, "_start")
	wantFault(t, []string{part(t, 1, "?z", "?a", "?_start")}, nearby, api.ErrUndef, 0, "z")
	for _, files := range [][]string{
		{main, part(t, 2, "?~a", "?~b")}, {main, part(t, 2, "?a"), part(t, 3, "~a")}, {part(t, 3, "~a"), main, part(t, 2, "?a")}, {part(t, 2, "?a"), main, part(t, 3, "a")},
	} {
		wantFault(t, files, nearby, api.OK, 0, "")
	}
}

func TestP13Start(t *testing.T) {
	for _, c := range []struct {
		texts []string
		ok    bool
	}{
		{[]string{""}, false}, {[]string{"nop"}, false}, {[]string{"start: nop;.globl start"}, false}, {[]string{"_start: nop"}, false}, {[]string{".weak _start;nop"}, false},
		{[]string{".globl _start;_start: nop"}, true}, {[]string{".weak _start;_start: nop"}, true}, {[]string{".far;.globl _start;_start: nop"}, true}, {[]string{".far;.weak _start;nop;_start: nop"}, true},
		{[]string{".data;.globl _start;_start: .word 19"}, false}, {[]string{".bss;.globl _start;_start: .space 4"}, false}, {[]string{".data;.weak _start;_start: .word 19"}, false},
		{[]string{".weak _start;_start: nop", ".data;.globl _start;_start: .word 19"}, false}, {[]string{".data;.globl _start;_start: .word 19", ".weak _start;_start: nop"}, false},
		{[]string{".globl _start;_start: nop", ".data;.weak _start;_start: .word 19"}, true}, {[]string{".data;.weak _start;_start: .word 19", ".globl _start;_start: nop"}, true},
		{[]string{".weak _start;_start: nop", ".data;.weak _start;_start: .word 19"}, true}, {[]string{".data;.weak _start;_start: .word 19", ".weak _start;_start: nop"}, false},
		{[]string{"_start: nop", ".globl _start;_start: nop", "_start: nop"}, true},
	} {
		e := api.ErrStart
		if c.ok {
			e = api.OK
		}
		wantFault(t, objects(t, c.texts...), nearby, e, 0, "")
	}
	// It starts at what the name means.
	for _, c := range []struct {
		texts []string
		want  int
	}{
		{[]string{"nop;nop;.globl _start;_start: nop"}, 4104}, {[]string{"nop;_start: nop", ".weak _start;nop;_start: nop"}, 4108}, {[]string{".weak _start;_start: nop", ".weak _start;_start: nop"}, 4096}, {[]string{".weak _start;_start: nop", ".globl _start;_start: nop"}, 4100},
		{[]string{"nop;.far;nop", ".far;nop;.globl _start;_start: nop"}, 1<<16 + 8},
	} {
		if p, f := answer(t, objects(t, c.texts...), nearby); f.E != api.OK || p.start != c.want {
			t.Errorf("P13: %q starts at %d, %v, want %d", c.texts, p.start, f, c.want)
		}
	}
	// Ahead of the faults of where all lies: regions that meet, what is not reached.
	b := api.Bases{Text: 4096, Far: 4096, Data: 8192}
	wantFault(t, objects(t, "nop;.far;nop"), b, api.ErrStart, 0, "")
	wantFault(t, objects(t, "beq x0,x0,a;.space 4400;a: nop"), nearby, api.ErrStart, 0, "")
}
