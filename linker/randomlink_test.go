package linker_test

import (
	"fmt"
	"math/rand"
	"strings"
	"testing"

	"linker/api"
	"linker/linker"
)

// joiner makes up objects that go together mostly.
type joiner struct {
	random *rand.Rand
	owners map[string]int // which object defines a name Global
	near   bool           // whether jumps reach all regions
}

func (j *joiner) rarely(n int) bool { return j.random.Intn(n) == 0 }

func (j *joiner) one(l ...int) int { return l[j.random.Intn(len(l))] }

// symbols gives the symbols of object k, their places not yet told.
func (j *joiner) symbols(k int) []api.Symbol {
	var l []api.Symbol
	for _, name := range []string{"_start", "a", "b", "c", "d", "e", "v", "w"} {
		s := api.Symbol{Name: name, Bind: api.Global}
		switch {
		case j.owners[name] == k:
			s.Sect = j.one(1, 1, 1, 2, 2, 3, 4)
			if name == "_start" && !j.rarely(20) {
				s.Sect = j.one(1, 2)
			}
		case j.rarely(2):
			continue
		case j.rarely(4):
			s.Bind = api.Weak
		case j.rarely(5):
			s.Bind, s.Sect = api.Weak, j.one(1, 2, 3, 4)
		case j.rarely(5):
			s.Bind, s.Sect = api.Local, j.one(1, 2, 3, 4)
		case j.rarely(60):
			s.Sect = j.one(1, 2, 3, 4)
		case j.owners[name] < 0 && !j.rarely(20):
			s.Bind = api.Weak
		}
		l = append(l, s)
	}
	for i := range 1 + j.random.Intn(4) {
		l = append(l, api.Symbol{Name: fmt.Sprint("l", i), Sect: 1 + i%2})
	}
	j.random.Shuffle(len(l), func(a, b int) { l[a], l[b] = l[b], l[a] })
	return l
}

// section makes up the words of a section, with relocations whose symbols are not yet told, and the places where symbols may stand.
func (j *joiner) section(sect, most int) (words []int, rels []api.Reloc, places []int) {
	for range j.random.Intn(most) {
		places = append(places, 4*len(words))
		r := api.Reloc{Sect: sect, Off: 4 * len(words), Kind: j.random.Intn(8)}
		if sect == api.Data && r.Kind > 1 {
			r.Kind = 0
		}
		x := 1 + j.random.Intn(31)
		switch r.Kind {
		case api.RelWord:
			words, r.Addend = append(words, 0), j.one(0, 0, 4, -1, 2047, -2048, j.random.Intn(4096)-2048)
		case api.RelBranch:
			words = append(words, branchOf(j.one(0, 1, 4, 5, 6, 7), x, j.random.Intn(32), 0))
		case api.RelJal:
			words = append(words, jumpWord(j.random.Intn(32), 0))
		case api.RelCall:
			words = append(words, auipcOf(x, 0), wordI(0, x, 0, j.one(0, 1, x, j.random.Intn(32)), 0x67))
		case api.RelAddr:
			words, r.Addend = append(words, wordU(0, x, 0x37), j.one(wordI(0, x, 0, j.random.Intn(32), 0x13), wordI(0, x, 2, x, 3), wordS(0, j.random.Intn(32), x))), j.one(0, 0, 4, 2047, -2048, j.random.Intn(4096)-2048)
		case api.RelAlign:
			r.Addend = j.one(4, 12)
			words = append(words, repeat(r.Addend/4, 0x13)...)
		default:
			r.Kind = 0
			words = append(words, j.one(0x13, 0x73, 0, 1<<32-1, j.random.Intn(1<<32)))
		}
		if r.Kind != 0 {
			rels = append(rels, r)
		}
	}
	return words, rels, append(places, 4*len(words))
}

// object makes up object k.
func (j *joiner) object(k int) *api.Object {
	o := &api.Object{Syms: j.symbols(k), Bss: j.random.Intn(6)}
	for range 4 {
		o.Align = append(o.Align, j.one(2, 2, 2, 3, 4))
	}
	most := j.one(2, 6, 12)
	var places [5][]int
	var rels [4][]api.Reloc
	o.Text, rels[1], places[1] = j.section(api.Text, most)
	o.Far, rels[2], places[2] = j.section(api.Far, most)
	o.Data, rels[3], places[3] = j.section(api.Data, most)
	for i := range o.Bss + 1 {
		places[4] = append(places[4], 4*i)
	}
	for i, s := range o.Syms {
		if s.Sect != 0 {
			o.Syms[i].Off = places[s.Sect][j.random.Intn(len(places[s.Sect]))]
		}
	}
	for _, r := range append(append(rels[1], rels[2]...), rels[3]...) {
		if r.Kind == api.RelAlign {
			o.Align[r.Sect-1] = max(o.Align[r.Sect-1], map[int]int{4: 3, 12: 4}[r.Addend])
		} else {
			r.Sym = j.target(o, r)
		}
		o.Rels = append(o.Rels, r)
	}
	return o
}

// target gives a symbol for a relocation, one that is reached mostly.
func (j *joiner) target(o *api.Object, r api.Reloc) int {
	n := j.random.Intn(len(o.Syms))
	anywhere := r.Kind != api.RelBranch && r.Kind != api.RelJal || r.Kind == api.RelJal && j.near || j.rarely(60)
	for range 100 {
		if s := o.Syms[n]; anywhere || s.Bind == api.Local && s.Sect == r.Sect {
			break
		}
		n = j.random.Intn(len(o.Syms))
	}
	return n
}

// files gives objects, some of them in archives.
func (j *joiner) files(t *testing.T) []string {
	t.Helper()
	count := 1 + j.random.Intn(9)
	j.owners = map[string]int{}
	for _, name := range []string{"_start", "a", "b", "c", "d", "e", "v", "w"} {
		j.owners[name] = j.random.Intn(count)
		if name >= "v" {
			j.owners[name] = -1
		}
		if name == "_start" && !j.rarely(6) {
			j.owners[name] = 0
		}
	}
	var files, members []string
	for k := range count {
		s := written(t, j.object(k))
		if (k == 0 || j.rarely(2)) && len(members) == 0 && len(files) < 7 {
			files = append(files, s)
			continue
		}
		members = append(members, s)
		if j.rarely(3) || len(members) == 6 || k == count-1 {
			files, members = append(files, packed(t, members...)), nil
		}
	}
	if len(members) > 0 {
		files = append(files, packed(t, members...))
	}
	return files
}

// bases gives bases of all kinds, and whether jumps reach from each region to the others.
func (j *joiner) bases() (api.Bases, bool) {
	n := func(most int) int { return 16 * j.random.Intn(most) }
	switch j.random.Intn(8) {
	case 0:
		return nearby, true
	case 1:
		return faraway, false
	case 2:
		return api.Bases{Text: 8192, Far: 8192 + limit - 256 + n(24), Data: 4096}, true
	case 3:
		return api.Bases{Text: 8192 + limit - 256 + n(24), Far: 8192, Data: 1 << 28}, false
	case 4:
		return api.Bases{Text: 4096 + n(40), Far: 4096 + n(80), Data: 4096 + n(120)}, true
	case 5:
		return api.Bases{Text: 1<<30 - 16 - n(60), Far: 1<<30 - 2048 + n(60), Data: 1<<30 - 4096 + n(60)}, false
	case 6:
		return api.Bases{Text: limit - 256 + n(32), Far: limit + 8192, Data: 4096}, true
	}
	return api.Bases{Text: 1 << 20, Far: 2<<20 - 256 + n(32), Data: 4096}, false
}

// TestP15Random: many links, told the same as by plainLink; and of all faults and of none some.
func TestP15Random(t *testing.T) {
	j := &joiner{random: rand.New(rand.NewSource(15))}
	seen, short, long := map[api.Errno]int{}, 0, 0
	for range 15000 {
		var b api.Bases
		b, j.near = j.bases()
		files := j.files(t)
		p, f := answer(t, files, b)
		seen[f.E]++
		for i, w := range p.text {
			if w&127 == 0x6f {
				short++
			}
			if i > 0 && p.text[i-1]&127 == 0x17 && w&127 == 0x67 {
				long++
			}
		}
	}
	for _, e := range []api.Errno{api.ErrDup, api.ErrUndef, api.ErrStart, api.ErrClash, api.ErrReach} {
		if seen[e] < 200 {
			t.Errorf("of error %d there were %d links: too few to tell", e, seen[e])
		}
	}
	if seen[api.OK] < 5000 || short < 5000 || long < 1000 {
		t.Errorf("%d links without a fault, %d and %d calls: too few to tell", seen[api.OK], short, long)
	}
	t.Log(seen, short, long)
}

// caller makes up programs of functions that call one another: function i adds a number and calls some behind it.
type caller struct {
	random *rand.Rand
	sums   []int // what a call of each function adds
}

func (c *caller) one(l ...string) string { return l[c.random.Intn(len(l))] }

// function gives the text of function i of n. It keeps where it returns to on a stack that x2 points at.
func (c *caller) function(i, n int) string {
	text := fmt.Sprintf("%s;.globl f%d;%sf%d: sw x1,0(x2);addi x2,x2,4;", c.one(".text", ".far"), i, c.one("", ".align 3;", ".align 4;"), i)
	add := c.random.Intn(1000)
	c.sums[i] = add
	switch c.random.Intn(4) {
	case 0:
		text += fmt.Sprintf("addi x10,x10,%d;", add)
	case 1: // a word of data, by its address
		text = fmt.Sprintf(".data;%sd%d: .word %d;", c.one("", ".align 4;"), i, add) + text + fmt.Sprintf("lw x5,d%d;add x10,x10,x5;", i)
	case 2: // over a gap of words that are no instructions
		text += fmt.Sprintf("j o%d;.space %d;o%d: addi x10,x10,%d;", i, 4*c.random.Intn(9), i, add)
	case 3: // there and back through a nought, past a border that is passed
		text = fmt.Sprintf(".bss;%sb%d: .space 4;", c.one("", ".align 4;"), i) + text + fmt.Sprintf("li x5,%d;sw x5,b%d,x6;beq x0,x0,o%d;ecall;%so%d: la x7,b%d+4;lw x8,-4(x7);add x10,x10,x8;", add, i, i, c.one("", ".align 4;", ".align 3;"), i, i)
	}
	for range 3 {
		if k := i + 1 + c.random.Intn(4); k < n {
			text += fmt.Sprintf("%scall f%d;", c.one("", "", ".align 3;", ".align 4;"), k)
			c.sums[i] += c.sums[k]
		}
	}
	return text + "addi x2,x2,-4;lw x1,0(x2);ret;"
}

// files gives a program of n functions: those that are called stand in the same file as the caller or in a later one.
func (c *caller) files(t *testing.T, n int) []string {
	t.Helper()
	c.sums = make([]int, n)
	var texts []string
	for i := n - 1; i >= 0; i-- {
		text := c.function(i, n)
		if c.random.Intn(3) == 0 && i > 0 { // two in one module
			i--
			text += c.function(i, n)
		}
		texts = append([]string{text}, texts...)
	}
	files := objects(t, ".globl _start;_start: la x2,stack;call f0"+finish+";.bss;stack: .space 64")
	for rest := objects(t, texts...); len(rest) > 0; {
		k := min(len(rest), 2+c.random.Intn(5))
		members := rest[:k]
		c.random.Shuffle(k, func(a, b int) { members[a], members[b] = members[b], members[a] })
		if k == 1 {
			files = append(files, members[0])
		} else {
			files = append(files, packed(t, members...))
		}
		rest = rest[k:]
	}
	return files
}

func TestP15Programs(t *testing.T) {
	c := &caller{random: rand.New(rand.NewSource(16))}
	for n := range 1000 {
		files := c.files(t, 1+n%13)
		n := 16 * c.random.Intn(8)
		for _, b := range []api.Bases{nearby, faraway, {Text: 8192, Far: 8192 + limit + n, Data: 4096}, {Text: 8192 + limit - n, Far: 8192, Data: 1<<30 - 4096}} {
			wantOut(t, files, b, nil, c.sums[0])
		}
	}
}

func TestP1LinkAtAllNumbers(t *testing.T) {
	files := objects(t, ".globl _start;_start: call f;la x5,f;.data;.word f;.weak f", ".align 4;nop;.far;.align 3;nop;.bss;.align 4;.space 8")
	for _, text := range extremes() {
		for _, far := range []int{4096, 8192, text, text + 16, -text} {
			for _, data := range []int{65536, text, text - 16, -text} {
				answer(t, files, api.Bases{Text: text, Far: far, Data: data})
				answer(t, files, api.Bases{Text: far, Far: text, Data: data})
				answer(t, files, api.Bases{Text: data, Far: far, Data: text})
			}
		}
	}
}

// TestP1LinkAtAllBytes: whatever the bytes of files become.
func TestP1LinkAtAllBytes(t *testing.T) {
	j := &joiner{random: rand.New(rand.NewSource(17))}
	linked := 0
	for range 6000 {
		var b api.Bases
		b, j.near = j.bases()
		files := j.files(t)
		for range 1 + j.random.Intn(3) {
			i := j.random.Intn(len(files))
			s := []byte(files[i] + "\x00")[:max(1, len(files[i]))]
			switch k := j.random.Intn(len(s)); j.random.Intn(8) {
			case 0:
				s = s[:k]
			case 1:
				s = append(s, s[k:]...)
			case 2:
				s = nil
			default:
				s[k] = byte(j.one(0, 1, 2, 3, 4, 8, 255, j.random.Intn(256)))
			}
			files[i] = string(s)
		}
		if _, f := answer(t, files, b); f.E == api.OK {
			linked++
		}
	}
	if linked < 100 {
		t.Errorf("of 6000 links only %d are none that is refused", linked)
	}
	for _, n := range []int{0, 1, 8, 9, 1 << 16} {
		for _, s := range []string{"", "LK", "AR\x01", strings.Repeat("\x00", 100), strings.Repeat("\xff", 70000), "AR" + strings.Repeat("\x01", 1000)} {
			files := make([]string, n)
			for i := range files {
				files[i] = s
			}
			answer(t, files, nearby)
		}
	}
}

func TestP2LinkOnlyReads(t *testing.T) {
	j := &joiner{random: rand.New(rand.NewSource(18)), near: true}
	for range 300 {
		files := j.files(t)
		if j.rarely(5) {
			files[j.random.Intn(len(files))] = "none"
		}
		list := roomy(files, "spare")
		s, f := linker.Link(list, nearby)
		if l := list[:cap(list)]; !equal(l[:len(files)], files) || !equal(l[len(files):], strings.Fields(strings.Repeat("spare ", 9))) {
			t.Fatalf("P2: Link wrote into what it was handed")
		}
		kept := strings.Clone(s)
		scribble(list, "mine")
		again, g := linker.Link(files, nearby)
		if s != kept || again != kept || f != g {
			t.Fatalf("P2: Link answers %x, %v, then %x, %v", s, f, again, g)
		}
	}
}

func TestP2NoLinkHangsOnCallsAhead(t *testing.T) {
	j := &joiner{random: rand.New(rand.NewSource(19)), near: true}
	var all [][]string
	var images []string
	var faults []api.Fault
	for range 60 {
		files := j.files(t)
		s, f := linker.Link(files, nearby)
		all, images, faults = append(all, files), append(images, s), append(faults, f)
	}
	for range 600 {
		n := j.random.Intn(60)
		if s, f := linker.Link(all[n], nearby); s != images[n] || f != faults[n] {
			t.Fatalf("P2: Link = %x, %v, ahead it was %x, %v", s, f, images[n], faults[n])
		}
		b, _ := j.bases()
		linker.Link(all[j.random.Intn(60)], b)
	}
}
