package linker_test

import (
	"fmt"
	"math"
	"strings"
	"testing"

	"linker/api"
	"linker/linker"
)

// jumpWord, branchOf and auipcOf give words that no text without a name lays.

func jumpWord(rd, n int) int {
	return n>>20&1<<31 | n>>1&1023<<21 | n>>11&1<<20 | n>>12&255<<12 | rd<<7 | 0x6f
}

func branchOf(minor, one, two, n int) int {
	return n>>12&1<<31 | n>>5&63<<25 | two<<20 | one<<15 | minor<<12 | n>>1&15<<8 | n>>11&1<<7 | 0x63
}

func auipcOf(rd, n int) int { return n<<12 | rd<<7 | 0x17 }

// word gives the line that lays w.
func word(w int) string { return fmt.Sprint(".word ", w) }

// code gives the words of lines that have no names.
func code(t *testing.T, lines ...string) []int {
	t.Helper()
	return assembled(t, strings.Join(lines, "\n")).Text
}

// stage gives a picture with these lines of text at 4096, then "li x17,0" and "ecall"; two words of far at 8192; data at 12288: 77, 2^32 - 1, 5; and three noughts.
func stage(t *testing.T, lines ...string) picture {
	t.Helper()
	l := append(append([]string(nil), lines...), "li x17,0", "ecall")
	return picture{start: 4096, atText: 4096, atFar: 8192, atData: 12288, text: code(t, l...), far: []int{0x13, 0x73}, data: []int{77, 1<<32 - 1, 5}, noughts: 3}
}

// acts are lines and how their run ends; twice over, for each run begins anew.
type acts struct {
	lines []string
	in    []int
	fuel  int
	want  api.Result
}

func tellRuns(t *testing.T, l []acts) {
	t.Helper()
	for _, c := range l {
		p := stage(t, c.lines...)
		m := p.loaded(t)
		for range 2 {
			if r, e := m.Run(c.in, c.fuel); e != api.OK || !sameResult(r, c.want) {
				t.Errorf("P11: %q: Run(%v, %d) = %+v, %d, want %+v", c.lines, c.in, c.fuel, r, e, c.want)
			}
		}
		if r := plainRun(p, c.in, c.fuel); !sameResult(r, c.want) {
			t.Errorf("the test's own machine: %q = %+v, want %+v", c.lines, r, c.want)
		}
	}
}

// exits tells that lines that end in an ecall for Exit end with the number, in so many steps.
func exits(code, steps int, lines ...string) acts {
	return acts{lines, nil, 99, api.Result{End: api.Exit, Code: code, Steps: steps}}
}

// traps tells that lines end otherwise.
func traps(end, steps int, lines ...string) acts {
	return acts{lines, nil, 99, api.Result{End: end, Steps: steps}}
}

func TestP11Beginning(t *testing.T) {
	for n := range 32 { // all registers are 0, but 10 tells it, and 17 asks
		tellRuns(t, []acts{exits(0, 3, fmt.Sprintf("mv x10,x%d", n))})
	}
	p := stage(t, "li x10,3")
	p.start = 8192
	wantRun(t, p.loaded(t), nil, 99, api.Result{End: api.Exit, Steps: 2})
	p.start = 8196
	wantRun(t, p.loaded(t), nil, 99, api.Result{End: api.Exit, Steps: 1})
	p.start = 4100
	wantRun(t, p.loaded(t), nil, 99, api.Result{End: api.Exit, Steps: 2})
}

func TestP11Registers(t *testing.T) {
	for n := 1; n < 32; n++ {
		var lines []string
		for k := range 32 { // each is its own
			lines = append(lines, fmt.Sprintf("li x%d,%d", k, 100+k))
		}
		code := 100 + n
		lines = append(lines, fmt.Sprintf("mv x10,x%d", n))
		tellRuns(t, []acts{exits(code, 35, lines...)})
	}
	tellRuns(t, []acts{ // register 0 is always 0
		exits(0, 4, "li x0,5", "mv x10,x0"), exits(0, 4, "lui x0,5", "mv x10,x0"), exits(0, 4, word(auipcOf(0, 5)), "mv x10,x0"), exits(0, 4, word(jumpWord(0, 4)), "mv x10,x0"),
		exits(0, 6, "li x5,4108", "jalr x0,0(x5)", "mv x10,x0"), exits(0, 6, "li x5,12288", "lw x0,0(x5)", "mv x10,x0"), exits(0, 5, "li x5,9", "add x0,x5,x5", "mv x10,x0"), exits(0, 5, "li x5,9", "sub x0,x5,x0", "mv x10,x0"), exits(0, 5, "li x5,-9", "slt x0,x5,x0", "mv x10,x0"),
		traps(api.TrapLoad, 1, "lw x0,0(x0)"), traps(api.TrapLoad, 3, "li x5,12288", "lw x0,1(x5)"), exits(7, 5, "li x10,7", "addi x0,x10,-7", "add x10,x10,x0"),
	})
}

func TestP11Numbers(t *testing.T) {
	const low, high = -1 << 31, 1<<31 - 1
	values := []int{low, low + 1, -4097, -2049, -2048, -2047, -2, -1, 0, 1, 2, 5, 2046, 2047, 2048, 4096, high - 1, high}
	is := func(b bool) int {
		if b {
			return 1
		}
		return 0
	}
	for _, a := range values {
		for _, b := range values {
			for op, want := range map[string]int{
				"add": int(int32(a + b)), "sub": int(int32(a - b)), "xor": a ^ b, "or": a | b, "and": a & b, "slt": is(a < b), "sltu": is(uint32(a) < uint32(b)),
			} {
				p := stage(t, fmt.Sprintf("li x5,%d\nli x6,%d\n%s x10,x5,x6", a, b, op))
				if r, e := p.loaded(t).Run(nil, 99); e != api.OK || r.End != api.Exit || r.Code != want {
					t.Errorf("P11: %s of %d and %d = %+v, %d, want %d", op, a, b, r, e, want)
				}
			}
			if b < -2048 || b > 2047 {
				continue
			}
			for op, want := range map[string]int{"addi": int(int32(a + b)), "xori": a ^ b, "ori": a | b, "andi": a & b, "slti": is(a < b)} {
				p := stage(t, fmt.Sprintf("li x5,%d\n%s x10,x5,%d", a, op, b))
				if r, e := p.loaded(t).Run(nil, 99); e != api.OK || r.End != api.Exit || r.Code != want {
					t.Errorf("P11: %s of %d and %d = %+v, %d, want %d", op, a, b, r, e, want)
				}
			}
			for minor, want := range []bool{a == b, a != b, false, false, a < b, a >= b, uint32(a) < uint32(b), uint32(a) >= uint32(b)} {
				if minor == 2 || minor == 3 {
					continue
				}
				p := stage(t, fmt.Sprintf("li x5,%d\nli x6,%d\nli x10,1\n%s\nli x10,0", a, b, word(branchOf(minor, 5, 6, 8))))
				if r, e := p.loaded(t).Run(nil, 99); e != api.OK || r.End != api.Exit || r.Code != is(want) {
					t.Errorf("P11: branch %d over %d and %d = %+v, %d, want %v", minor, a, b, r, e, want)
				}
			}
		}
	}
}

func TestP11SameRegister(t *testing.T) {
	tellRuns(t, []acts{
		exits(14, 4, "li x10,7", "add x10,x10,x10"), exits(0, 4, "li x10,7", "sub x10,x10,x10"), exits(0, 4, "li x10,7", "xor x10,x10,x10"), exits(7, 4, "li x10,7", "and x10,x10,x10"), exits(1, 4, "li x10,-7", "slti x10,x10,0"),
		exits(-7, 5, "li x10,3", "li x5,10", "sub x10,x10,x5"), exits(7, 5, "li x10,3", "li x5,10", "sub x10,x5,x10"),
		exits(77, 5, "li x10,12288", "lw x10,0(x10)"), exits(12288, 6, "li x10,12288", "sw x10,0(x10)", "lw x10,0(x10)"),
	})
}

func TestP11UpperNumbers(t *testing.T) {
	tellRuns(t, []acts{
		exits(0, 3, "lui x10,0"), exits(4096, 3, "lui x10,1"), exits(0x7ffff000, 3, "lui x10,524287"), exits(-1<<31, 3, "lui x10,524288"), exits(-4096, 3, "lui x10,1048575"),
		exits(4096, 3, word(auipcOf(10, 0))), exits(4100, 4, "nop", word(auipcOf(10, 0))), exits(8196, 4, "nop", word(auipcOf(10, 1))), exits(0, 3, word(auipcOf(10, 1048575))), exits(4, 4, "nop", word(auipcOf(10, 1048575))), exits(-4096, 3, word(auipcOf(10, 1048574))), exits(-1<<31, 3, word(auipcOf(10, 524287))),
	})
}

func TestP11Jumps(t *testing.T) {
	tellRuns(t, []acts{
		exits(4100, 3, word(jumpWord(10, 4))), exits(4100, 3, word(jumpWord(10, 8)), "li x10,1"), exits(0, 4, word(jumpWord(0, 8)), "li x10,1", "nop"), exits(4112, 7, word(jumpWord(0, 12)), "nop", word(jumpWord(0, 8)), word(jumpWord(10, -8)), "nop"),
		exits(4108, 5, "li x5,4108", "jalr x10,0(x5)"), exits(4108, 5, "li x5,4108", "jalr x10,1(x5)"), exits(4108, 5, "li x5,4109", "jalr x10,0(x5)"), exits(4108, 5, "li x5,4107", "jalr x10,1(x5)"), exits(4108, 5, "li x5,4107", "jalr x10,2(x5)"), exits(4108, 5, "li x5,6156", "jalr x10,-2048(x5)"), exits(4108, 5, "li x5,2061", "jalr x10,2047(x5)"),
		exits(4108, 5, "li x10,4108", "jalr x10,0(x10)"), exits(4108, 5, "li x10,4108", "jalr x10,4(x10)", "nop"),
		exits(4108, 5, "li x5,8192", "jalr x10,0(x5)"), exits(4108, 4, "li x5,8192", "jalr x10,4(x5)"),
		traps(api.TrapFetch, 2, word(jumpWord(1, 2)), "nop"), traps(api.TrapFetch, 2, word(jumpWord(1, -4))), traps(api.TrapFetch, 2, word(jumpWord(1, 6)), "nop"), traps(api.TrapFetch, 2, word(jumpWord(1, -4096))), traps(api.TrapFetch, 2, word(jumpWord(1, -4100))), traps(api.TrapFetch, 2, word(jumpWord(1, -1<<20))), traps(api.TrapFetch, 2, word(jumpWord(1, 1<<20-2))), traps(api.TrapFetch, 2, word(jumpWord(1, 4094))), traps(api.TrapFetch, 2, word(jumpWord(1, 4104))),
		traps(api.TrapFetch, 2, "jalr x0,0(x0)"), traps(api.TrapFetch, 2, "jalr x0,-1(x0)"), traps(api.TrapFetch, 2, "jalr x0,-4(x0)"), traps(api.TrapFetch, 4, "li x5,4098", "jalr x1,0(x5)"), traps(api.TrapFetch, 4, "li x5,4099", "jalr x1,0(x5)"), traps(api.TrapFetch, 4, "li x5,4095", "jalr x1,0(x5)"), traps(api.TrapFetch, 4, "li x5,12288", "jalr x1,0(x5)"), traps(api.TrapFetch, 4, "li x5,12300", "jalr x1,0(x5)"), traps(api.TrapFetch, 4, "li x5,8200", "jalr x1,0(x5)"), traps(api.TrapFetch, 3, "li x5,-1", "jalr x1,1(x5)"),
		exits(0, 3, word(jumpWord(0, 4096))), exits(4100, 3, word(jumpWord(10, 4096))), exits(4100, 2, word(jumpWord(10, 4100))),
	})
	p := stage(t, word(jumpWord(5, 1<<20-4)))
	p.atFar = 4096 + 1<<20 - 16
	p.far = []int{0x73, 0x73, 0x73, wordI(9, 5, 0, 10, 0x13), 0x73}
	wantRun(t, p.loaded(t), nil, 99, api.Result{End: api.Exit, Code: 4109, Steps: 3})
	p.atText, p.start, p.atFar = 4096+1<<20, 4096+1<<20, 4096
	p.text, p.far = []int{jumpWord(10, -1<<20)}, []int{0x73}
	wantRun(t, p.loaded(t), nil, 99, api.Result{End: api.Exit, Code: 4100 + 1<<20, Steps: 2})
}

func TestP11Branches(t *testing.T) {
	for _, minor := range []int{0, 5, 7} { // taken over x0 and x0
		tellRuns(t, []acts{
			exits(0, 3, word(branchOf(minor, 0, 0, 8)), "li x10,1"), exits(1, 4, word(branchOf(minor, 0, 0, 4)), "li x10,1"), exits(1, 6, word(branchOf(minor, 0, 0, 12)), "li x10,1", word(jumpWord(0, 8)), word(branchOf(minor, 0, 0, -8))),
			traps(api.TrapFetch, 2, word(branchOf(minor, 0, 0, 2))), traps(api.TrapFetch, 2, word(branchOf(minor, 0, 0, 6))), traps(api.TrapFetch, 2, word(branchOf(minor, 0, 0, -4))), traps(api.TrapFetch, 2, word(branchOf(minor, 0, 0, -4096))), traps(api.TrapFetch, 2, word(branchOf(minor, 0, 0, 4094))),
			{[]string{word(branchOf(minor, 0, 0, 0))}, nil, 50, api.Result{End: api.OutFuel, Steps: 50}},
		})
	}
	for _, minor := range []int{1, 4, 6} { // not taken, be there a word to go to or none
		tellRuns(t, []acts{exits(1, 4, word(branchOf(minor, 0, 0, 8)), "li x10,1"), exits(1, 4, word(branchOf(minor, 0, 0, 2)), "li x10,1"), exits(1, 4, word(branchOf(minor, 0, 0, -4096)), "li x10,1")})
	}
	p := stage(t, word(branchOf(0, 0, 0, 4092)))
	p.atFar, p.far = 8176, repeat(3, 0)
	p.far = append(p.far, wordI(9, 0, 0, 10, 0x13), 0x73)
	wantRun(t, p.loaded(t), nil, 99, api.Result{End: api.Exit, Code: 9, Steps: 3})
	p.atText, p.start, p.atFar = 8192, 8192, 4096
	p.text, p.far = []int{branchOf(0, 0, 0, -4096)}, []int{0x73}
	wantRun(t, p.loaded(t), nil, 99, api.Result{End: api.Exit, Steps: 2})
	tellRuns(t, []acts{exits(55, 35, "li x5,10", "li x10,0", "nop", "add x10,x10,x5", "addi x5,x5,-1", word(branchOf(1, 5, 0, -8)))})
}

func TestP11Loads(t *testing.T) {
	at := func(address int, line string) []string { return []string{fmt.Sprint("li x5,", address), line} }
	tellRuns(t, []acts{
		exits(77, 5, at(12288, "lw x10,0(x5)")...), exits(-1, 5, at(12288, "lw x10,4(x5)")...), exits(5, 5, at(12288, "lw x10,8(x5)")...), exits(0, 5, at(12288, "lw x10,12(x5)")...), exits(0, 5, at(12288, "lw x10,20(x5)")...), exits(77, 5, at(12288+2048, "lw x10,-2048(x5)")...), exits(77, 5, at(12288-2047, "lw x10,2047(x5)")...), exits(77, 5, at(12287, "lw x10,1(x5)")...),
		traps(api.TrapLoad, 3, at(12288, "lw x10,24(x5)")...), traps(api.TrapLoad, 3, at(12288, "lw x10,-4(x5)")...), traps(api.TrapLoad, 3, at(12288, "lw x10,1(x5)")...), traps(api.TrapLoad, 3, at(12288, "lw x10,2(x5)")...), traps(api.TrapLoad, 3, at(12288, "lw x10,3(x5)")...), traps(api.TrapLoad, 3, at(12288, "lw x10,21(x5)")...), traps(api.TrapLoad, 3, at(12289, "lw x10,0(x5)")...),
		exits(0x12b7, 4, "lui x5,1", "lw x10,0(x5)"), exits(0x73, 4, "lui x5,1", "lw x10,12(x5)"), exits(-2, 5, "lui x5,1", "lw x10,12(x5)", word(jumpWord(0, 8)), word(1<<32-2)), traps(api.TrapLoad, 2, "lui x5,1", "lw x10,16(x5)"), traps(api.TrapLoad, 2, "lui x5,1", "lw x10,-4(x5)"), traps(api.TrapLoad, 2, "lui x5,1", "lw x10,2(x5)"),
		exits(0x13, 4, "lui x5,2", "lw x10,0(x5)"), exits(0x73, 4, "lui x5,2", "lw x10,4(x5)"), traps(api.TrapLoad, 2, "lui x5,2", "lw x10,8(x5)"), traps(api.TrapLoad, 2, "lui x5,2", "lw x10,-4(x5)"), traps(api.TrapLoad, 2, "lui x5,2", "lw x10,6(x5)"),
		traps(api.TrapLoad, 1, "lw x10,0(x0)"), traps(api.TrapLoad, 1, "lw x10,-4(x0)"), traps(api.TrapLoad, 2, "lui x5,524288", "lw x10,0(x5)"), traps(api.TrapLoad, 2, "li x5,-4", "lw x10,4(x5)"), traps(api.TrapLoad, 2, "lui x5,262144", "lw x10,0(x5)"), traps(api.TrapLoad, 2, "lui x5,262144", "lw x10,-4(x5)"),
	})
}

func TestP11Stores(t *testing.T) {
	at := func(address int, lines ...string) []string {
		return append([]string{fmt.Sprint("li x5,", address), "li x6,-9"}, lines...)
	}
	tellRuns(t, []acts{
		exits(-9, 7, at(12288, "sw x6,0(x5)", "lw x10,0(x5)")...), exits(-9, 7, at(12288, "sw x6,8(x5)", "lw x10,8(x5)")...), exits(-9, 7, at(12288, "sw x6,12(x5)", "lw x10,12(x5)")...), exits(-9, 7, at(12288, "sw x6,20(x5)", "lw x10,20(x5)")...), exits(-9, 7, at(12288+2048, "sw x6,-2048(x5)", "lw x10,-2048(x5)")...), exits(-9, 7, at(12288-2047, "sw x6,2047(x5)", "lw x10,2047(x5)")...), exits(-9, 7, at(12320, "sw x6,-32(x5)", "lw x10,-32(x5)")...),
		exits(5, 7, at(12288, "sw x6,4(x5)", "lw x10,8(x5)")...), exits(77, 7, at(12288, "sw x6,4(x5)", "lw x10,0(x5)")...), exits(0, 7, at(12288, "sw x6,16(x5)", "lw x10,20(x5)")...), exits(0, 7, at(12288, "sw x0,4(x5)", "lw x10,4(x5)")...), exits(0, 8, at(12288, "sw x6,0(x5)", "sw x0,0(x5)", "lw x10,0(x5)")...),
		traps(api.TrapStore, 4, at(12288, "sw x6,24(x5)")...), traps(api.TrapStore, 4, at(12288, "sw x6,-4(x5)")...), traps(api.TrapStore, 4, at(12288, "sw x6,1(x5)")...), traps(api.TrapStore, 4, at(12288, "sw x6,2(x5)")...), traps(api.TrapStore, 4, at(12288, "sw x6,3(x5)")...), traps(api.TrapStore, 4, at(12290, "sw x6,0(x5)")...),
		traps(api.TrapStore, 4, at(4097, "sw x6,-1(x5)")...), traps(api.TrapStore, 4, at(4100, "sw x6,0(x5)")...), traps(api.TrapStore, 4, at(8193, "sw x6,-1(x5)")...), traps(api.TrapStore, 4, at(8196, "sw x6,0(x5)")...), traps(api.TrapStore, 1, "sw x6,0(x0)"), traps(api.TrapStore, 1, "sw x6,-4(x0)"), traps(api.TrapStore, 2, "lui x5,524288", "sw x5,0(x5)"),
	})
}

// TestP11Neighbours has regions that touch: one word's address is one region's alone.
func TestP11Neighbours(t *testing.T) {
	p := picture{start: 4096, atText: 4096, atFar: 4112, atData: 4128, text: repeat(4, 0x13), far: repeat(4, 0x13), data: []int{1, 2}, noughts: 2}
	wantRun(t, p.loaded(t), nil, 99, api.Result{End: api.TrapFetch, Steps: 9}) // on through far, not into data
	p.atText, p.atFar, p.start = 4112, 4096, 4096
	wantRun(t, p.loaded(t), nil, 99, api.Result{End: api.TrapFetch, Steps: 9})
	for i := range 12 {
		l := code(t, fmt.Sprint("li x5,", 4096+4*i), "lw x10,0(x5)", "ecall")
		for len(l) < 4 {
			l = append(l, 0x73)
		}
		q := picture{start: 4096, atText: 4096, atFar: 4112, atData: 4128, text: l, far: []int{11, 12, 13, 14}, data: []int{21, 22}, noughts: 2}
		want := append(append([]int(nil), l...), 11, 12, 13, 14, 21, 22, 0, 0)[i]
		r, _ := q.loaded(t).Run(nil, 99)
		if r.End != api.Exit || r.Code != want {
			t.Errorf("P11: lw at %d = %+v, want %d", 4096+4*i, r, want)
		}
	}
	empty := picture{start: 4096, atText: 4096, atFar: 4096, atData: 4096, text: code(t, "lui x5,1", "sw x5,0(x5)")}
	wantRun(t, empty.loaded(t), nil, 99, api.Result{End: api.TrapStore, Steps: 2})
	last := picture{start: 1<<30 - 16, atText: 1<<30 - 16, atFar: 4096, atData: 4096, text: repeat(4, 0x13)}
	wantRun(t, last.loaded(t), nil, 99, api.Result{End: api.TrapFetch, Steps: 5})
}

// TestP11Whole loads and stores every word of great regions.
func TestP11Whole(t *testing.T) {
	p := picture{start: 4096, atText: 4096, atFar: 1 << 20, atData: 1 << 21, text: repeat(65535, 0x13), far: repeat(65535, 0x13), data: repeat(65535, 1), noughts: 65535}
	p.text[65534] = jumpWord(0, 1<<20-4096-4*65534)
	wantRun(t, p.loaded(t), nil, api.MaxFuel, api.Result{End: api.OutFuel, Steps: api.MaxFuel})
	copy(p.text, code(t, "li x5,2621432", "lw x10,0(x5)", "ecall")) // behind the last nought
	p.data[65534] = 8
	wantRun(t, p.loaded(t), nil, 99, api.Result{End: api.TrapLoad, Steps: 3})
	copy(p.text, code(t, "li x5,2359288", "lw x10,0(x5)", "ecall")) // the data's last word
	wantRun(t, p.loaded(t), nil, 99, api.Result{End: api.Exit, Code: 8, Steps: 4})
	copy(p.text, code(t, "li x5,2621428", "sw x5,0(x5)", "lw x10,0(x5)", "ecall")) // the last nought
	wantRun(t, p.loaded(t), nil, 99, api.Result{End: api.Exit, Code: 2621428, Steps: 5})
	copy(p.text, code(t, "li x5,2621428", "sw x5,4(x5)"))
	wantRun(t, p.loaded(t), nil, 99, api.Result{End: api.TrapStore, Steps: 3})
}

func TestP11Words(t *testing.T) {
	for _, w := range []int{0, 1, 0x12, 0x10, 0x33 + 1<<25, 0x33 | 32<<25 | 4<<12, 0x1033, 0x5033, 0x73 + 128, 0x100073, 0xf3, 0x1013, 0x3013, 0x5013, 0x3, 0x1003, 0x23, 0x1023, 0x2063, 0x3063, 0x1067, 0x7067, 0xf, 0x7f, 1<<32 - 1, 1 << 31} {
		tellRuns(t, []acts{traps(api.TrapOp, 1, word(w)), traps(api.TrapOp, 2, "li x10,5", word(w)), exits(0, 3, word(jumpWord(0, 8)), word(w))})
	}
}

func TestP11Calls(t *testing.T) {
	var numbers, many []int
	var lines []string
	for i := range 16 {
		numbers = append(numbers, i*i-50)
		many = append(many, i+1)
		lines = append(lines, "ecall", "addi x10,x10,1")
	}
	print16 := append([]string{"li x17,1", "li x10,1"}, lines...)
	tellRuns(t, []acts{
		exits(5, 3, "li x10,5"), exits(-2048, 3, "li x10,-2048"), exits(1<<31-1, 4, "li x10,2147483647"), exits(-1<<31, 3, "lui x10,524288"), exits(-1, 3, "li x10,-1"),
		{[]string{"li x17,1", "li x10,-3", "ecall", "li x10,2147483647", "ecall", "addi x10,x10,1", "ecall", "li x10,0", "ecall"}, nil, 99, api.Result{End: api.Exit, Out: []int{-3, 1<<31 - 1, -1 << 31, 0}, Steps: 12}},
		{print16, nil, 99, api.Result{End: api.Exit, Code: 17, Out: many, Steps: 36}},
		{append(append([]string(nil), print16...), "ecall"), nil, 99, api.Result{End: api.TrapCall, Out: many, Steps: 35}},
		{append(append([]string(nil), print16...), "li x17,2", "ecall"), []int{4}, 99, api.Result{End: api.Exit, Code: 4, Out: many, Steps: 38, Read: 1}},
		{[]string{"li x17,2", "ecall"}, []int{9, 8}, 99, api.Result{End: api.Exit, Code: 9, Steps: 4, Read: 1}},
		{[]string{"li x17,2", "ecall", "ecall"}, []int{9, 8}, 99, api.Result{End: api.Exit, Code: 8, Steps: 5, Read: 2}},
		{[]string{"li x17,2", "ecall", "ecall", "ecall"}, []int{9, 8}, 99, api.Result{End: api.TrapCall, Steps: 4, Read: 2}},
		{[]string{"li x17,2", "ecall"}, nil, 99, api.Result{End: api.TrapCall, Steps: 2}},
		{[]string{"li x17,2", "ecall"}, []int{}, 99, api.Result{End: api.TrapCall, Steps: 2}},
		{[]string{"li x10,6", "li x17,1", "ecall", "li x17,2", "ecall"}, nil, 99, api.Result{End: api.TrapCall, Out: []int{6}, Steps: 5}},
		{append([]string{"li x17,2"}, strings.Split(strings.Repeat("ecall ", 15)+"ecall", " ")...), numbers, 99, api.Result{End: api.Exit, Code: 175, Steps: 19, Read: 16}},
		{append([]string{"li x17,2"}, strings.Split(strings.Repeat("ecall ", 16)+"ecall", " ")...), numbers, 99, api.Result{End: api.TrapCall, Steps: 18, Read: 16}},
	})
	for _, n := range []string{"3", "4", "17", "255", "256", "257", "258", "-1", "-2", "-2147483648", "2147483647", "65537", "65536", "-2147483647"} {
		c := traps(api.TrapCall, 3, "li x10,5", "li x17,"+n, "ecall")
		c.want.Steps += len(code(t, "li x17,"+n)) - 1
		c.in = []int{1}
		tellRuns(t, []acts{c})
	}
}

func TestP11Read(t *testing.T) {
	for _, n := range append(extremes(), 1<<31-1, 1<<32-1, 1<<32+5, -1<<32+5, 1<<40+7, math.MinInt, math.MaxInt) {
		want := int(int32(n))
		tellRuns(t, []acts{{[]string{"li x17,2", "ecall", "li x17,1", "ecall"}, []int{n}, 99, api.Result{End: api.Exit, Code: want, Out: []int{want}, Steps: 6, Read: 1}}})
	}
	// What was read is a word like all others.
	tellRuns(t, []acts{{[]string{"li x17,2", "ecall", "mv x5,x10", "ecall", "sub x10,x10,x5"}, []int{1<<32 + 5, 5}, 99, api.Result{End: api.Exit, Steps: 7, Read: 2}},
		{[]string{"li x17,2", "ecall", "mv x17,x10"}, []int{1 << 32}, 99, api.Result{End: api.Exit, Steps: 5, Read: 1}},
		{[]string{"li x17,2", "ecall", "sltu x10,x0,x10"}, []int{-1}, 99, api.Result{End: api.Exit, Code: 1, Steps: 5, Read: 1}}})
}

func TestP11Fuel(t *testing.T) {
	five := stage(t, "li x10,7", "li x17,1", "ecall").loaded(t)
	for fuel, want := range []api.Result{{End: api.OutFuel}, {End: api.OutFuel, Steps: 1}, {End: api.OutFuel, Steps: 2}, {End: api.OutFuel, Steps: 3, Out: []int{7}}, {End: api.OutFuel, Steps: 4, Out: []int{7}}, {End: api.Exit, Code: 7, Steps: 5, Out: []int{7}}, {End: api.Exit, Code: 7, Steps: 5, Out: []int{7}}} {
		wantRun(t, five, nil, fuel, want)
	}
	wantRun(t, five, nil, api.MaxFuel, api.Result{End: api.Exit, Code: 7, Steps: 5, Out: []int{7}})
	for _, c := range []acts{traps(api.TrapFetch, 2, "jalr x0,0(x0)"), traps(api.TrapOp, 1, word(0)), traps(api.TrapLoad, 1, "lw x1,0(x0)"), traps(api.TrapStore, 1, "sw x1,0(x0)"), traps(api.TrapCall, 2, "li x17,9", "ecall")} {
		end := c.want
		for _, fuel := range []int{end.Steps, end.Steps + 1, api.MaxFuel} {
			c.fuel = fuel
			tellRuns(t, []acts{c})
		}
		c.fuel, c.want = end.Steps-1, api.Result{End: api.OutFuel, Steps: end.Steps - 1}
		tellRuns(t, []acts{c})
	}
	forever := stage(t, word(jumpWord(0, 0))).loaded(t)
	for _, fuel := range []int{0, 1, 2, 1000, api.MaxFuel - 1, api.MaxFuel} {
		wantRun(t, forever, nil, fuel, api.Result{End: api.OutFuel, Steps: fuel})
	}
	read := stage(t, "li x17,2", "ecall", "ecall").loaded(t)
	wantRun(t, read, []int{1, 2}, 2, api.Result{End: api.OutFuel, Steps: 2, Read: 1})
}

func TestP11Refused(t *testing.T) {
	m := stage(t, "li x10,7", "li x17,1", "ecall").loaded(t)
	for _, c := range []struct {
		in, fuel int
		e        api.Errno
	}{
		{0, 0, api.OK}, {16, 0, api.OK}, {16, 65536, api.OK}, {17, 0, api.ErrIn}, {17, 65536, api.ErrIn}, {18, 5, api.ErrIn}, {1 << 16, 5, api.ErrIn}, {17, -1, api.ErrIn}, {17, 65537, api.ErrIn}, {1000, math.MinInt, api.ErrIn},
		{0, -1, api.ErrFuel}, {16, -1, api.ErrFuel}, {0, 65537, api.ErrFuel}, {16, 65537, api.ErrFuel}, {3, math.MinInt, api.ErrFuel}, {3, math.MaxInt, api.ErrFuel}, {0, 1 << 32, api.ErrFuel}, {0, -1 << 32, api.ErrFuel}, {0, 1<<32 + 5, api.ErrFuel},
	} {
		r, e := m.Run(make([]int, c.in), c.fuel)
		if e != c.e {
			t.Errorf("P11: Run of %d numbers with fuel %d = %+v, %d, want %d", c.in, c.fuel, r, e, c.e)
		}
		if e != api.OK && (r.End != 0 || r.Code != 0 || r.Out != nil || r.Steps != 0 || r.Read != 0) {
			t.Errorf("P1: Run of %d numbers with fuel %d = %+v beside %d", c.in, c.fuel, r, e)
		}
	}
	wantRun(t, m, nil, 99, api.Result{End: api.Exit, Code: 7, Out: []int{7}, Steps: 5})
}

// counter counts in data, in noughts and in a register, prints all three, and reads a number.
func counter(t *testing.T, step int) *linker.Machine {
	t.Helper()
	return stage(t, "li x5,12288", "lw x10,0(x5)", fmt.Sprint("addi x10,x10,", step), "sw x10,0(x5)", "li x17,1", "ecall", "lw x10,16(x5)", fmt.Sprint("addi x10,x10,", step), "sw x10,16(x5)", "ecall", fmt.Sprint("addi x31,x31,", step), "mv x10,x31", "ecall", "li x17,2", "ecall").loaded(t)
}

func TestP11Anew(t *testing.T) {
	m := counter(t, 1)
	want := api.Result{End: api.Exit, Code: 40, Out: []int{78, 1, 1}, Steps: 18, Read: 1}
	for range 5 {
		wantRun(t, m, []int{40, 41}, 99, want)
		wantRun(t, m, []int{50}, 12, api.Result{End: api.OutFuel, Out: []int{78, 1}, Steps: 12}) // a run that was broken off
		wantRun(t, m, nil, 99, api.Result{End: api.TrapCall, Out: []int{78, 1, 1}, Steps: 16})
		if _, e := m.Run(nil, -1); e != api.ErrFuel {
			t.Errorf("P11: Run with fuel -1 = %d", e)
		}
	}
}

func TestP11SideBySide(t *testing.T) {
	one, ten, again := counter(t, 1), counter(t, 10), counter(t, 1)
	for range 3 {
		wantRun(t, one, []int{3}, 99, api.Result{End: api.Exit, Code: 3, Out: []int{78, 1, 1}, Steps: 18, Read: 1})
		wantRun(t, ten, []int{4}, 99, api.Result{End: api.Exit, Code: 4, Out: []int{87, 10, 10}, Steps: 18, Read: 1})
		wantRun(t, again, []int{5}, 99, api.Result{End: api.Exit, Code: 5, Out: []int{78, 1, 1}, Steps: 18, Read: 1})
	}
	linker.Load("IM")
	linker.Load(scene().bytes())
	wantRun(t, one, []int{3}, 99, api.Result{End: api.Exit, Code: 3, Out: []int{78, 1, 1}, Steps: 18, Read: 1})
}
