package linker_test

import (
	"math"
	"testing"

	"linker/api"
	"linker/linker"
)

// change is one change of the sample, and whether an object is left.
type change struct {
	what string
	make func(o *api.Object)
	want bool
}

func tryChanges(t *testing.T, list []change) {
	t.Helper()
	for _, c := range list {
		o := sample()
		c.make(o)
		if isObject(o) != c.want {
			t.Errorf("%s: the tests disagree on it", c.what)
		}
		s, e := linker.Write(o)
		switch {
		case c.want && (e != api.OK || s != plainBytes(o)):
			t.Errorf("P4: %s: Write = %x, %d, want an object's bytes", c.what, s, e)
		case !c.want && (e != api.ErrObject || s != ""):
			t.Errorf("P4: %s: Write = %x, %d, want ErrObject", c.what, s, e)
		}
		if fits(o) {
			p, e := linker.Read(plainBytes(o))
			if c.want && (e != api.OK || !same(p, o)) || !c.want && (e != api.ErrObject || p != nil) {
				t.Errorf("P4: %s: Read = %+v, %d", c.what, p, e)
			}
		}
	}
}

// fits tells whether plainBytes loses nothing of o, so that Read can be asked too.
func fits(o *api.Object) bool {
	in := func(n, low, high int) bool { return n >= low && n <= high }
	ok := len(o.Align) == 4 && len(o.Syms) < 256 && len(o.Rels) < 256 && in(o.Bss, 0, 65535)
	for _, b := range o.Align {
		ok = ok && in(b, 0, 255)
	}
	for _, l := range [][]int{o.Text, o.Far, o.Data} {
		for _, w := range l {
			ok = ok && in(w, 0, 1<<32-1)
		}
	}
	for _, s := range o.Syms {
		ok = ok && in(s.Bind, 0, 255) && in(s.Sect, 0, 255) && in(s.Off, 0, 65535) && len(s.Name) < 256
	}
	for _, r := range o.Rels {
		ok = ok && in(r.Sect, 0, 255) && in(r.Kind, 0, 255) && in(r.Off, 0, 65535) && in(r.Sym, 0, 255) && in(r.Addend, -32768, 32767)
	}
	return ok
}

func TestP4Samples(t *testing.T) {
	for i, o := range []*api.Object{sample(), bare(), full()} {
		if s, e := linker.Write(o); e != api.OK || s != plainBytes(o) || !isObject(o) {
			t.Errorf("P4: sample %d: Write = %x, %d", i, s, e)
		}
	}
}

func TestP4Sizes(t *testing.T) {
	more := func(l []int, n, w int) []int { return append(l, repeat(n-len(l), w)...) }
	syms := func(o *api.Object, n int) {
		for i := len(o.Syms); i < n; i++ {
			o.Syms = append(o.Syms, api.Symbol{Name: "s" + string(rune('a'+i)), Bind: api.Weak})
		}
	}
	rels := func(o *api.Object, n int) {
		o.Data = more(o.Data, 64, 0)
		for i := len(o.Rels); i < n; i++ {
			o.Rels = append(o.Rels, api.Reloc{Sect: api.Data, Off: 4 * i, Kind: api.RelWord})
		}
	}
	tryChanges(t, []change{
		{"1200 words of text", func(o *api.Object) { o.Text = more(o.Text, 1200, 1) }, true},
		{"1201 words of text", func(o *api.Object) { o.Text = more(o.Text, 1201, 1) }, false},
		{"1200 words of far", func(o *api.Object) { o.Far = more(o.Far, 1200, 1) }, true},
		{"1201 words of far", func(o *api.Object) { o.Far = more(o.Far, 1201, 1) }, false},
		{"64 words of data", func(o *api.Object) { o.Data = more(o.Data, 64, 1) }, true},
		{"65 words of data", func(o *api.Object) { o.Data = more(o.Data, 65, 1) }, false},
		{"64 noughts", func(o *api.Object) { o.Bss = 64 }, true},
		{"65 noughts", func(o *api.Object) { o.Bss = 65 }, false},
		{"-1 noughts", func(o *api.Object) { o.Bss = -1 }, false},
		{"16 symbols", func(o *api.Object) { syms(o, 16) }, true},
		{"17 symbols", func(o *api.Object) { syms(o, 17) }, false},
		{"32 relocations", func(o *api.Object) { rels(o, 32) }, true},
		{"33 relocations", func(o *api.Object) { rels(o, 33) }, false},
		{"no relocations", func(o *api.Object) { o.Rels = nil }, true},
		{"relocations without symbols", func(o *api.Object) { o.Syms = nil }, false},
	})
}

func TestP4Words(t *testing.T) {
	tryChanges(t, []change{
		{"the greatest word of text", func(o *api.Object) { o.Text[14] = 1<<32 - 1 }, true},
		{"beyond it", func(o *api.Object) { o.Text[14] = 1 << 32 }, false},
		{"below 0", func(o *api.Object) { o.Text[14] = -1 }, false},
		{"the greatest word of far", func(o *api.Object) { o.Far[3] = 1<<32 - 1 }, true},
		{"beyond it in far", func(o *api.Object) { o.Far[3] = 1 << 32 }, false},
		{"below 0 in far", func(o *api.Object) { o.Far[3] = -1 }, false},
		{"the greatest word of data", func(o *api.Object) { o.Data[0] = 1<<32 - 1 }, true},
		{"beyond it in data", func(o *api.Object) { o.Data[0] = 1 << 32 }, false},
		{"below 0 in data", func(o *api.Object) { o.Data[0] = -1 }, false},
		{"0 in data", func(o *api.Object) { o.Data[0] = 0 }, true},
	})
}

func TestP4Borders(t *testing.T) {
	list := []change{
		{"no borders", func(o *api.Object) { o.Align = nil }, false},
		{"three borders", func(o *api.Object) { o.Align = o.Align[:3] }, false},
		{"five borders", func(o *api.Object) { o.Align = append(o.Align, 2) }, false},
		{"RelAlign 12 at border 3", func(o *api.Object) { o.Align[0] = 3 }, false},
		{"RelAlign 12 at border 2", func(o *api.Object) { o.Align[0] = 2 }, false},
		{"RelAlign 4 at border 2", func(o *api.Object) { o.Align[1] = 2 }, false},
		{"RelAlign 4 at border 4", func(o *api.Object) { o.Align[1] = 4 }, true},
	}
	for i := range 4 {
		for border := -1; border <= 6; border++ {
			list = append(list, change{"a border alone", func(o *api.Object) {
				o.Rels = nil
				o.Align[i] = border
			}, border >= 2 && border <= 4})
		}
	}
	tryChanges(t, list)
}

func TestP4Names(t *testing.T) {
	for name, want := range map[string]bool{
		"a": true, "z": true, "_": true, "______": true, "abcdef": true, "a0": true, "z9": true, "_9": true, "x0": true, "x31": false, "lw": true, "d": false, "_start": false,
		"": false, "abcdefg": false, "0": false, "9": false, "0a": false, "A": false, "aZ": false, "a.b": false, "a-": false, "a ": false, " a": false, "a\x00": false, "a\n": false, "`": false, "{": false, "a/": false, "a:": false, "^": false, "é": false, "a\xff": false, "\x80": false,
	} {
		tryChanges(t, []change{{"the name " + name, func(o *api.Object) { o.Syms[1].Name = name }, want}})
	}
	tryChanges(t, []change{
		{"the last symbol named as the first", func(o *api.Object) { o.Syms[5].Name = "_start" }, false},
		{"the first symbol named as the last", func(o *api.Object) { o.Syms[0].Name = "x31" }, false},
	})
}

func TestP4Symbols(t *testing.T) {
	var list []change
	for bind := -1; bind <= 4; bind++ {
		list = append(list,
			change{"a binding", func(o *api.Object) { o.Syms[0].Bind = bind }, bind >= 0 && bind <= 2},
			change{"a binding of Undef", func(o *api.Object) { o.Syms[1].Bind = bind }, bind == 1 || bind == 2})
	}
	for sect := -1; sect <= 6; sect++ {
		list = append(list,
			change{"a section", func(o *api.Object) { o.Syms[1].Sect = sect }, sect >= 0 && sect <= 4},
			change{"a section of Local", func(o *api.Object) { o.Syms[5].Sect, o.Syms[5].Off = sect, 0 }, sect >= 1 && sect <= 4})
	}
	for sect, length := range []int{0, 60, 16, 12, 20} {
		for _, off := range []int{0, length, length - 4, length + 4, length - 1, length + 1, length + 2, 2, -4, math.MaxInt - 3, math.MinInt, 65536} {
			list = append(list, change{"an offset", func(o *api.Object) {
				o.Rels = nil
				o.Syms[2].Sect, o.Syms[2].Off = sect, off
			}, off >= 0 && off <= length && off%4 == 0})
		}
	}
	tryChanges(t, list)
}

func TestP4KindsAndSections(t *testing.T) {
	one := func(sect, kind, addend int, ws ...int) func(o *api.Object) {
		return func(o *api.Object) {
			o.Align = []int{4, 4, 4, 4}
			o.Syms = []api.Symbol{{Name: "f", Bind: api.Global}}
			o.Text, o.Far, o.Data, o.Bss = ws, ws, ws, 3
			o.Rels = []api.Reloc{{Sect: sect, Kind: kind, Addend: addend}}
		}
	}
	var list []change
	for sect := -1; sect <= 6; sect++ {
		code := sect == 1 || sect == 2
		list = append(list,
			change{"RelWord", one(sect, api.RelWord, 0, 0), code || sect == 3},
			change{"RelBranch", one(sect, api.RelBranch, 0, 0x63), code},
			change{"RelJal", one(sect, api.RelJal, 0, 0x6f), code},
			change{"RelCall", one(sect, api.RelCall, 0, 0x97, 0x80e7), code},
			change{"RelAddr", one(sect, api.RelAddr, 0, 0xb7, 0x8093), code},
			change{"RelAlign 4", one(sect, api.RelAlign, 4, 0x13), code},
			change{"RelAlign 12", one(sect, api.RelAlign, 12, 0x13, 0x13, 0x13), code},
			change{"RelCall without its second word", one(sect, api.RelCall, 0, 0x97), false},
			change{"RelAddr without its second word", one(sect, api.RelAddr, 0, 0xb7), false},
			change{"RelAlign 12 of two words", one(sect, api.RelAlign, 12, 0x13, 0x13), false},
			change{"RelAlign 4 of no word", one(sect, api.RelAlign, 4), false},
			change{"RelWord of no word", one(sect, api.RelWord, 0), false})
		for _, kind := range []int{-1, 0, 7, 8, math.MinInt, math.MaxInt} {
			list = append(list, change{"no kind", one(sect, kind, 0, 0), false})
		}
	}
	for i := range 3 {
		list = append(list, change{"RelAlign 12 of a word that does something", func(o *api.Object) { o.Text[i] = 0x93 }, false})
	}
	list = append(list, change{"RelAlign 4 of a word that does something", func(o *api.Object) { o.Far[0] = 0 }, false})
	tryChanges(t, list)
}

func TestP4Addends(t *testing.T) {
	var list []change
	for i, rel := range sample().Rels {
		for _, addend := range []int{-65536, -32768, -2049, -2048, -4, -1, 0, 1, 4, 8, 12, 16, 28, 2047, 2048, 32767, 65536, math.MinInt, math.MaxInt} {
			want := addend == 0
			switch rel.Kind {
			case api.RelWord, api.RelAddr:
				want = addend >= -2048 && addend <= 2047
			case api.RelAlign:
				want = addend == 4 || addend == 12 && rel.Sect == api.Text
			}
			list = append(list, change{"an addend", func(o *api.Object) { o.Rels[i].Addend = addend }, want})
		}
	}
	tryChanges(t, list)
}

func TestP4SymbolsOfRelocations(t *testing.T) {
	var list []change
	for i, rel := range sample().Rels {
		for _, sym := range []int{-1, 0, 1, 5, 6, 16, 255, 256, math.MinInt, math.MaxInt} {
			want := sym >= 0 && sym <= 5
			if rel.Kind == api.RelAlign {
				want = sym == 0
			}
			list = append(list, change{"a symbol of a relocation", func(o *api.Object) { o.Rels[i].Sym = sym }, want})
		}
	}
	list = append(list, change{"RelAlign where there is no symbol", func(o *api.Object) {
		o.Syms = nil
		o.Rels = o.Rels[:1]
	}, true}, change{"RelAlign with symbol 1 of none", func(o *api.Object) {
		o.Syms = nil
		o.Rels = o.Rels[:1]
		o.Rels[0].Sym = 1
	}, false})
	tryChanges(t, list)
}

func TestP4OffsetsAndOrder(t *testing.T) {
	// words has six words of nought in each section, so that RelWord goes anywhere.
	words := func(rels ...api.Reloc) func(o *api.Object) {
		return func(o *api.Object) {
			o.Text, o.Far, o.Data = repeat(6, 0), repeat(6, 0), repeat(6, 0)
			o.Syms = []api.Symbol{{Name: "f", Bind: api.Global}}
			o.Rels = rels
		}
	}
	at := func(sect, off int) api.Reloc { return api.Reloc{Sect: sect, Off: off, Kind: api.RelWord} }
	var list []change
	for sect := 1; sect <= 3; sect++ {
		for _, off := range []int{-4, -1, 0, 1, 2, 3, 4, 20, 22, 24, 28, math.MaxInt - 3, math.MaxInt, math.MinInt, 1 << 62} {
			list = append(list, change{"an offset", words(at(sect, off)), off >= 0 && off <= 20 && off%4 == 0})
		}
		list = append(list,
			change{"one behind another", words(at(sect, 0), at(sect, 4)), true},
			change{"one behind another and a gap", words(at(sect, 4), at(sect, 20)), true},
			change{"one ahead of another", words(at(sect, 4), at(sect, 0)), false},
			change{"two at one place", words(at(sect, 4), at(sect, 4)), false},
			change{"the third ahead of the second", words(at(sect, 0), at(sect, 12), at(sect, 8)), false})
	}
	for a := 1; a <= 3; a++ {
		for b := 1; b <= 3; b++ {
			list = append(list, change{"two sections", words(at(a, 8), at(b, 12)), a <= b}, change{"two sections, the later from 0", words(at(a, 8), at(b, 0)), a < b})
		}
	}
	list = append(list,
		change{"three sections", words(at(1, 0), at(2, 0), at(3, 0)), true},
		change{"far behind data", words(at(1, 0), at(3, 0), at(2, 0)), false})
	tryChanges(t, list)
}

// TestP4WordsOfTwo: none begins within the words of the one ahead, though its own words go with it.
func TestP4WordsOfTwo(t *testing.T) {
	text := func(rels []api.Reloc, ws ...int) func(o *api.Object) {
		return func(o *api.Object) {
			o.Text, o.Rels = ws, rels
			o.Syms = []api.Symbol{{Name: "f", Bind: api.Global}}
		}
	}
	rel := func(off, kind, addend int) api.Reloc {
		return api.Reloc{Sect: api.Text, Off: off, Kind: kind, Addend: addend}
	}
	tryChanges(t, []change{
		{"RelAlign 12, then RelAlign 4 in its second word", text([]api.Reloc{rel(0, 6, 12), rel(4, 6, 4)}, 0x13, 0x13, 0x13, 0x13), false},
		{"RelAlign 12, then RelAlign 4 in its last word", text([]api.Reloc{rel(0, 6, 12), rel(8, 6, 4)}, 0x13, 0x13, 0x13, 0x13), false},
		{"RelAlign 12, then RelAlign 4 behind it", text([]api.Reloc{rel(0, 6, 12), rel(12, 6, 4)}, 0x13, 0x13, 0x13, 0x13), true},
		{"RelAlign 4, then RelAlign 12 behind it", text([]api.Reloc{rel(0, 6, 4), rel(4, 6, 12)}, 0x13, 0x13, 0x13, 0x13), true},
		{"RelCall, then RelCall behind it", text([]api.Reloc{rel(0, 4, 0), rel(8, 4, 0)}, 0x97, 0x80e7, 0x97, 0x80e7), true},
		{"RelCall, then RelWord behind it", text([]api.Reloc{rel(0, 4, 0), rel(8, 1, 0)}, 0x97, 0x80e7, 0), true},
		{"RelAddr, then RelJal behind it", text([]api.Reloc{rel(0, 5, 0), rel(8, 3, 0)}, 0xb7, 0x8093, 0x6f), true},
		{"RelCall, then RelJal in its second word", text([]api.Reloc{rel(0, 4, 0), rel(4, 3, 0)}, 0x97, 0x80e7), false},
	})
}

func TestP4SymbolsWithinRelocations(t *testing.T) {
	var list []change
	within := []int{4, 8, 24, 32, 40, 48}
	for off := 0; off <= 60; off += 4 {
		want := true
		for _, bad := range within {
			want = want && off != bad
		}
		list = append(list, change{"a symbol of text", func(o *api.Object) { o.Syms[0].Off = off }, want})
	}
	for off := 0; off <= 16; off += 4 {
		list = append(list,
			change{"a symbol of far", func(o *api.Object) { o.Syms[3].Off = off }, off != 8},
			change{"a symbol of noughts", func(o *api.Object) { o.Syms[5].Off = off }, true})
	}
	for off := 0; off <= 12; off += 4 {
		list = append(list, change{"a symbol of data", func(o *api.Object) { o.Syms[4].Off = off }, true})
	}
	list = append(list, change{"within words that no relocation is about", func(o *api.Object) {
		o.Rels = nil
		o.Syms[0].Off = 4
	}, true})
	tryChanges(t, list)
}
