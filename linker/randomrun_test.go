package linker_test

import (
	"math"
	"math/rand"
	"testing"

	"linker/api"
	"linker/linker"
)

// coder makes up images that run for a while.
type coder struct {
	random *rand.Rand
	p      picture
}

func (c *coder) one(l ...int) int { return l[c.random.Intn(len(l))] }

func (c *coder) register() int {
	if c.random.Intn(4) == 0 {
		return c.random.Intn(32)
	}
	return c.one(0, 1, 11, 12, 13, 10, 10)
}

// short gives a number of 12 bits, mostly a small one.
func (c *coder) short() int {
	if c.random.Intn(5) == 0 {
		return c.random.Intn(4096) - 2048
	}
	if c.random.Intn(30) == 0 {
		return c.one(-2048, -2047, 2047, 2046, -1, 0)
	}
	return 4*c.random.Intn(9) - 8
}

// near gives how far a jump goes: mostly to a word near by.
func (c *coder) near() int {
	if c.random.Intn(25) == 0 {
		return 2 * (c.random.Intn(4096) - 2048)
	}
	return 4 * (c.random.Intn(14) - 5)
}

func (c *coder) word() int {
	rd, a, b := c.register(), c.register(), c.register()
	switch c.random.Intn(19) {
	case 0:
		return wordU(c.random.Intn(1<<20), rd, 0x37)
	case 1:
		return wordU(c.one(0, 1, 2, 3, 0xfffff, c.random.Intn(1<<20)), rd, 0x17)
	case 2:
		return jumpWord(rd, c.near())
	case 3:
		return wordI(c.short(), c.one(8, 9, 1, a), 0, rd, 0x67)
	case 4, 5, 6:
		return branchOf(c.one(0, 1, 4, 5, 6, 7), a, b, c.near())
	case 7:
		return wordI(c.short(), c.one(5, 6, 7, 8, a), 2, rd, 3)
	case 8:
		return wordS(c.short(), b, c.one(5, 5, 5, a))
	case 9, 10, 11:
		return wordI(c.short(), a, c.one(0, 0, 2, 4, 6, 7), rd, 0x13)
	case 12, 13:
		return wordR(0, b, a, c.one(0, 2, 3, 4, 6, 7), rd)
	case 14:
		return wordR(32, b, a, 0, rd)
	case 15:
		if c.random.Intn(8) == 0 {
			return c.one(0, 0x33, 0x13, 0x63, 0x67, 3, 0x23, 0x73) | c.random.Intn(1<<32)&^127
		}
		return wordI(c.one(0, 0, 1, 1, 1, 2, 2, 2, 3), 0, 0, 17, 0x13)
	}
	return 0x73
}

// image gives a picture whose registers 5 to 9 point at data, text, far, code, code when it has begun.
func (c *coder) image() picture {
	bases := [][3]int{{4096, 8192, 12288}, {4096, 4352, 4608}, {4352, 4096, 8192}, {1<<30 - 256, 4096, 1<<30 - 512}, {65536, 1 << 20, 4096}}[c.random.Intn(5)]
	p := picture{start: bases[0], atText: bases[0], atFar: bases[1], atData: bases[2], noughts: c.random.Intn(5)}
	for i, n := range []int{bases[2], bases[0], bases[1], bases[0] + 44, bases[1]} {
		p.text = append(p.text, wordU((n+2048)>>12, 5+i, 0x37), wordI(n&4095, 5+i, 0, 5+i, 0x13))
	}
	p.text = append(p.text, wordI(c.one(1, 2), 0, 0, 17, 0x13))
	for range 6 + c.random.Intn(40) {
		p.text = append(p.text, c.word())
	}
	for range c.random.Intn(20) {
		p.far = append(p.far, c.word())
	}
	for range c.random.Intn(5) {
		p.data = append(p.data, c.one(0, 1, 1<<31, 1<<32-1, c.random.Intn(1<<32)))
	}
	return p
}

func (c *coder) numbers() []int {
	var l []int
	for range c.random.Intn(17) {
		l = append(l, c.one(0, 1, 2, -1, 1<<32+3, math.MinInt, math.MaxInt, int(c.random.Uint64())))
	}
	return l
}

func TestP11Random(t *testing.T) {
	c := &coder{random: rand.New(rand.NewSource(11))}
	ends, steps, printed, read := map[int]int{}, 0, 0, 0
	for range 30000 {
		p, in, fuel := c.image(), c.numbers(), c.one(0, 10, 50, 300, 300, 300)
		if !p.isImage() {
			t.Fatalf("P10: made up no image: %+v", p)
		}
		want := plainRun(p, in, fuel)
		r, e := p.loaded(t).Run(in, fuel)
		if e != api.OK || !sameResult(r, want) {
			t.Fatalf("P11: Run(%v, %d) of %+v = %+v, %d, want %+v", in, fuel, p, r, e, want)
		}
		ends[r.End]++
		steps, printed, read = steps+r.Steps, printed+len(r.Out), read+r.Read
	}
	for end := api.Exit; end <= api.OutFuel; end++ {
		if ends[end] < 300 {
			t.Errorf("only %d runs end with %d", ends[end], end)
		}
	}
	if steps < 30*30000 || printed < 10000 || read < 10000 {
		t.Errorf("the runs are too short: %d steps, %d printed, %d read", steps, printed, read)
	}
}

// TestP11EveryWord runs words of all kinds at registers that are full.
func TestP11EveryWord(t *testing.T) {
	random := rand.New(rand.NewSource(12))
	for _, low := range []int{0x37, 0x17, 0x6f, 0x67, 0x63, 0x03, 0x23, 0x13, 0x33, 0x73, 0x0f, 0x00} {
		for range 1500 {
			w := random.Intn(1<<32)&^127 | low
			if random.Intn(2) == 0 {
				w &^= 127 << 25
			}
			p := picture{start: 4096, atText: 4096, atFar: 8192, atData: 12288, far: repeat(3, 0x73), data: []int{3, 4}, noughts: 2}
			for n := range 31 {
				p.text = append(p.text, wordI(random.Intn(4096), 0, 0, 1+n, 0x13))
			}
			for range 6 {
				n := 1 + random.Intn(31)
				p.text = append(p.text, wordU(random.Intn(1<<20), n, 0x37), wordU(3, 1+random.Intn(31), 0x37))
			}
			p.text = append(p.text, w, wordI(1, 0, 0, 17, 0x13), 0x73)
			for n := range 15 { // print half of the registers
				p.text = append(p.text, wordI(0, 2*n+random.Intn(2), 0, 10, 0x13), 0x73)
			}
			want := plainRun(p, []int{9}, 200)
			if r, e := p.loaded(t).Run([]int{9}, 200); e != api.OK || !sameResult(r, want) {
				t.Fatalf("P11: with %08x Run = %+v, %d, want %+v", w, r, e, want)
			}
		}
	}
}

func wellLoaded(t *testing.T, s string) {
	t.Helper()
	p, whole := parsed(s)
	wantLoad(t, s, whole && p.isImage())
}

func TestP1LoadAtAllBytes(t *testing.T) {
	random := rand.New(rand.NewSource(13))
	head := scene().bytes()
	heads := []string{"", "I", "IM", head[:6], head[:18], head[:26], head, "LK", "AR\x01"}
	for range 20000 {
		b := make([]byte, random.Intn(50))
		for i := range b {
			b[i] = byte(random.Intn(256) * random.Intn(2))
		}
		wellLoaded(t, heads[random.Intn(len(heads))]+string(b))
	}
	for _, h := range heads {
		for _, n := range []int{1, 2, 1000, 1 << 20} {
			for _, fill := range []byte{0, 1, 255} {
				b := make([]byte, n)
				for i := range b {
					b[i] = fill
				}
				wellLoaded(t, h+string(b))
			}
		}
	}
}

func TestP1RunAtAllNumbers(t *testing.T) {
	m := stage(t, "li x17,2", "ecall", "li x17,1", "ecall").loaded(t)
	for _, fuel := range append(extremes(), api.MaxFuel-1, api.MaxFuel, api.MaxFuel+1) {
		for _, n := range []int{0, 1, 16, 17, 1 << 16} {
			r, e := m.Run(repeat(n, math.MinInt+fuel), fuel)
			want := api.OK
			if n > 16 {
				want = api.ErrIn
			} else if fuel < 0 || fuel > 65536 {
				want = api.ErrFuel
			}
			if e != want || e != api.OK && !sameResult(r, api.Result{}) || e == api.OK && (r.End < 1 || r.Steps > fuel) {
				t.Errorf("P1, P11: Run of %d numbers with fuel %d = %+v, %d, want %d", n, fuel, r, e, want)
			}
		}
	}
}

func TestP2RunOnlyReads(t *testing.T) {
	m := stage(t, "li x17,2", "ecall", "addi x10,x10,1", "li x17,1", "ecall", "li x17,2", "ecall").loaded(t)
	for _, fuel := range []int{99, 3, -1} {
		for _, n := range []int{0, 1, 2, 16, 17} {
			in := roomy(repeat(n, 5), 77)
			m.Run(in, fuel)
			want := append(repeat(n, 5), repeat(9, 77)...)
			if got := in[:cap(in)]; !equal(got, want) {
				t.Errorf("P2: Run wrote into what it was handed: %v", got)
			}
		}
	}
	in := []int{1, 2}
	r, _ := m.Run(in, 99)
	in[0], in[1] = 50, 60
	if want := (api.Result{End: api.Exit, Code: 2, Out: []int{2}, Steps: 9, Read: 2}); !sameResult(r, want) {
		t.Errorf("P2: a result changes with what was handed in: %+v, want %+v", r, want)
	}
	// What lies behind a list is none of it.
	wantRun(t, m, roomy([]int{7}, 77), 99, api.Result{End: api.TrapCall, Out: []int{8}, Steps: 7, Read: 1})
}

func TestP2ResultsAreTheCallers(t *testing.T) {
	one, two := counter(t, 1), counter(t, 2)
	first, _ := one.Run(nil, 99)
	second, _ := one.Run(nil, 99)
	other, _ := two.Run(nil, 99)
	scribble(first.Out, 99)
	_ = append(first.Out, 98)
	if !equal(second.Out, []int{78, 1, 1}) || !equal(other.Out, []int{79, 2, 2}) {
		t.Errorf("P2: results behind what the caller wrote: %v, %v", second.Out, other.Out)
	}
	wantRun(t, one, nil, 99, api.Result{End: api.TrapCall, Out: []int{78, 1, 1}, Steps: 16})
	wantRun(t, two, nil, 99, api.Result{End: api.TrapCall, Out: []int{79, 2, 2}, Steps: 16})
	if !equal(first.Out, []int{99, 99, 99}) {
		t.Errorf("P2: a run wrote into the caller's list: %v", first.Out)
	}
}

func TestP2NoRunHangsOnCallsAhead(t *testing.T) {
	c := &coder{random: rand.New(rand.NewSource(14))}
	var machines []*linker.Machine
	var results []api.Result
	for range 40 {
		m := c.image().loaded(t)
		r, _ := m.Run([]int{1, 2, 3}, 200)
		machines, results = append(machines, m), append(results, r)
	}
	for range 400 {
		n := c.random.Intn(40)
		wantRun(t, machines[n], []int{1, 2, 3}, 200, results[n])
		machines[c.random.Intn(40)].Run(nil, c.random.Intn(50))
	}
}
