package linker_test

import (
	"math"
	"math/rand"
	"strings"
	"testing"

	"linker/api"
	"linker/linker"
)

// extremes are numbers at which sums, products, shifts and places go wrong.
func extremes() []int {
	l := []int{math.MinInt, math.MinInt + 1, math.MinInt + 3, math.MinInt + 4, -1 << 33, -1 << 32, -1 << 31, -65536, -32768, -2049, -2048, -8, -4}
	for n := -3; n <= 65; n++ {
		l = append(l, n)
	}
	for _, n := range []int{255, 256, 1200, 2047, 2048, 4796, 4800, 4804, 32768, 65532, 65535, 65536, 1 << 31, 1<<32 - 1, 1 << 32, 1 << 61, 1 << 62} {
		l = append(l, n, n+4, -n)
	}
	return append(l, math.MaxInt-15, math.MaxInt-11, math.MaxInt-7, math.MaxInt-4, math.MaxInt-3, math.MaxInt-1, math.MaxInt)
}

// numbers points at every number of an object.
func numbers(o *api.Object) []*int {
	l := []*int{&o.Bss, &o.Text[0], &o.Text[5], &o.Text[8], &o.Text[13], &o.Far[0], &o.Data[2]}
	for i := range o.Align {
		l = append(l, &o.Align[i])
	}
	for i := range o.Syms {
		l = append(l, &o.Syms[i].Bind, &o.Syms[i].Sect, &o.Syms[i].Off)
	}
	for i := range o.Rels {
		l = append(l, &o.Rels[i].Sect, &o.Rels[i].Off, &o.Rels[i].Kind, &o.Rels[i].Sym, &o.Rels[i].Addend)
	}
	return l
}

func wellWritten(t *testing.T, o *api.Object) {
	t.Helper()
	s, e := linker.Write(o)
	if e != api.OK && e != api.ErrObject || (e == api.OK) != (s != "") {
		t.Fatalf("P1: Write(%+v) = %x, %d", o, s, e)
	}
	if (e == api.OK) != isObject(o) {
		t.Fatalf("P4: Write(%+v) = %d, want an object: %v", o, e, isObject(o))
	}
	if e == api.OK && s != plainBytes(o) {
		t.Fatalf("P5: Write(%+v) = %x, want %x", o, s, plainBytes(o))
	}
}

func TestP1WriteAtAllNumbers(t *testing.T) {
	for i := range numbers(sample()) {
		for _, n := range extremes() {
			o := sample()
			*numbers(o)[i] = n
			wellWritten(t, o)
		}
	}
}

func TestP1WriteAtPairsOfNumbers(t *testing.T) {
	random := rand.New(rand.NewSource(1))
	values := extremes()
	for range 60000 {
		o := sample()
		l := numbers(o)
		for range 2 + random.Intn(2) {
			*l[random.Intn(len(l))] = values[random.Intn(len(values))]
		}
		wellWritten(t, o)
	}
}

func TestP1WriteAtAllLists(t *testing.T) {
	for _, n := range []int{0, 1, 2, 3, 4, 5, 15, 16, 17, 32, 33, 64, 65, 255, 256, 1200, 1201, 65536, 1 << 20} {
		for list := range 6 {
			o := sample()
			switch list {
			case 0:
				o.Text = make([]int, n)
			case 1:
				o.Far = make([]int, n)
			case 2:
				o.Data = make([]int, n)
			case 3:
				o.Align = repeat(n, 4)
			case 4:
				o.Syms = make([]api.Symbol, n)
			case 5:
				o.Rels = make([]api.Reloc, n)
			}
			wellWritten(t, o)
		}
	}
	wellWritten(t, &api.Object{})
}

func wellRead(t *testing.T, s string) {
	t.Helper()
	o, e := linker.Read(s)
	if e != api.OK && e != api.ErrObject || (e == api.OK) != (o != nil) {
		t.Fatalf("P1: Read(%x) = %v, %d", s, o, e)
	}
	l, e := linker.Members(s)
	if e != api.OK && e != api.ErrArchive || e != api.OK && l != nil || e == api.OK && len(l) == 0 {
		t.Fatalf("P1: Members(%x) = %q, %d", s, l, e)
	}
	a, e := linker.Pack([]string{s})
	if e != api.OK && e != api.ErrMembers || (e == api.OK) != (a != "") {
		t.Fatalf("P1: Pack of %x = %x, %d", s, a, e)
	}
}

func TestP1ReadAtAllBytes(t *testing.T) {
	random := rand.New(rand.NewSource(2))
	heads := []string{"", "L", "LK", "A", "AR", "AR\x01", "IM", "LK\x01\x00\x00\x00\x00\x00\x00\x00\x02\x02\x02\x02", "AR\x01\x10\x00LK"}
	for range 20000 {
		b := make([]byte, random.Intn(60))
		for i := range b {
			b[i] = byte(random.Intn(256))
			if random.Intn(2) == 0 {
				b[i] = byte(random.Intn(5))
			}
		}
		wellRead(t, heads[random.Intn(len(heads))]+string(b))
	}
	for _, c := range []string{"\x00", "\xff", "L", "LK", "AR"} {
		for _, n := range []int{1, 2, 3, 16, 17, 1000, 1 << 20} {
			for _, head := range heads {
				wellRead(t, head+strings.Repeat(c, n))
			}
		}
	}
}

func TestP1PackAtAllLists(t *testing.T) {
	good := plainBytes(bare())
	for _, n := range []int{0, 1, 6, 7, 255, 256, 257, 262, 1 << 17} {
		ms := make([]string, n)
		for i := range ms {
			ms[i] = good
		}
		s, e := linker.Pack(ms)
		if ok := n >= 1 && n <= 6; ok != (e == api.OK) || ok != (s != "") || !ok && e != api.ErrMembers {
			t.Errorf("P1, P6: Pack of %d = %d bytes, %d", n, len(s), e)
		}
	}
	if s, e := linker.Pack(nil); s != "" || e != api.ErrMembers {
		t.Errorf("P1, P6: Pack(nil) = %x, %d", s, e)
	}
}
