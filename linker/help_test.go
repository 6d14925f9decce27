package linker_test

import (
	"encoding/binary"
	"strings"

	"linker/api"
)

// sample gives an object that has every section, binding and relocation.
func sample() *api.Object {
	return &api.Object{
		Text: []int{
			0x13, 0x13, 0x13, // RelAlign 12
			0x00208063,   // RelBranch: beq x1,x2
			0x6f,         // RelJal: jal x0
			0x97, 0x80e7, // RelCall: auipc x1; jalr x1,x1
			0x537, 0x50513, // RelAddr: lui x10; addi x10,x10
			0x2b7, 0x2a583, // RelAddr: lui x5; lw x11,x5
			0x337, 0xb32023, // RelAddr: lui x6; sw x6,x11
			0, // RelWord
			0xffffffff,
		},
		Far:   []int{0x13, 0x317, 0x30067, 5}, // RelAlign 4; RelCall: auipc x6; jalr x0,x6
		Data:  []int{7, 0, 0},
		Bss:   5,
		Align: []int{4, 3, 2, 2},
		Syms: []api.Symbol{
			{Name: "_start", Bind: api.Global, Sect: api.Text, Off: 12},
			{Name: "g", Bind: api.Global},
			{Name: "w_", Bind: api.Weak},
			{Name: "loc9", Bind: api.Local, Sect: api.Far, Off: 16},
			{Name: "d", Bind: api.Weak, Sect: api.Data, Off: 4},
			{Name: "x31", Bind: api.Local, Sect: api.Bss, Off: 20},
		},
		Rels: []api.Reloc{
			{Sect: api.Text, Off: 0, Kind: api.RelAlign, Addend: 12},
			{Sect: api.Text, Off: 12, Kind: api.RelBranch, Sym: 0},
			{Sect: api.Text, Off: 16, Kind: api.RelJal, Sym: 1},
			{Sect: api.Text, Off: 20, Kind: api.RelCall, Sym: 2},
			{Sect: api.Text, Off: 28, Kind: api.RelAddr, Sym: 3, Addend: -2048},
			{Sect: api.Text, Off: 36, Kind: api.RelAddr, Sym: 4, Addend: 2047},
			{Sect: api.Text, Off: 44, Kind: api.RelAddr, Sym: 5},
			{Sect: api.Text, Off: 52, Kind: api.RelWord, Sym: 0, Addend: 1},
			{Sect: api.Far, Off: 0, Kind: api.RelAlign, Addend: 4},
			{Sect: api.Far, Off: 4, Kind: api.RelCall, Sym: 1},
			{Sect: api.Data, Off: 4, Kind: api.RelWord, Sym: 3, Addend: -1},
			{Sect: api.Data, Off: 8, Kind: api.RelWord, Sym: 5, Addend: -2048},
		},
	}
}

// bare gives the object that has nothing.
func bare() *api.Object {
	return &api.Object{Align: []int{2, 2, 2, 2}}
}

// full gives the object of the most bytes.
func full() *api.Object {
	o := &api.Object{Bss: api.MaxBss, Align: []int{2, 2, 2, 2}}
	o.Text = repeat(api.MaxCode, 0)
	o.Far = repeat(api.MaxCode, 0xffffffff)
	o.Data = repeat(api.MaxData, 0x89abcdef)
	for i := range api.MaxSyms {
		name := "name_" + string(rune('a'+i))
		o.Syms = append(o.Syms, api.Symbol{Name: name, Bind: api.Global, Sect: api.Text, Off: 4 * api.MaxCode})
	}
	for i := range api.MaxRelocs {
		o.Rels = append(o.Rels, api.Reloc{Sect: api.Text, Off: 4 * (api.MaxCode - api.MaxRelocs + i), Kind: api.RelWord, Sym: api.MaxSyms - 1, Addend: 2047})
	}
	return o
}

func repeat(n, w int) []int {
	l := make([]int, n)
	for i := range l {
		l[i] = w
	}
	return l
}

// plainBytes lays an object's bytes as P5 tells them, whether it is one by P4 or not.
func plainBytes(o *api.Object) string {
	b := []byte("LK")
	for _, n := range []int{len(o.Text), len(o.Far), len(o.Data), o.Bss} {
		b = binary.LittleEndian.AppendUint16(b, uint16(n))
	}
	for _, n := range o.Align {
		b = append(b, byte(n))
	}
	b = append(b, byte(len(o.Syms)), byte(len(o.Rels)))
	for _, s := range o.Syms {
		b = append(b, byte(len(s.Name)))
		b = append(b, s.Name...)
		b = append(b, byte(s.Bind), byte(s.Sect))
		b = binary.LittleEndian.AppendUint16(b, uint16(s.Off))
	}
	for _, r := range o.Rels {
		b = append(b, byte(r.Sect), byte(r.Kind))
		b = binary.LittleEndian.AppendUint16(b, uint16(r.Off))
		b = append(b, byte(r.Sym))
		b = binary.LittleEndian.AppendUint16(b, uint16(r.Addend))
	}
	for _, l := range [][]int{o.Text, o.Far, o.Data} {
		for _, w := range l {
			b = binary.LittleEndian.AppendUint32(b, uint32(w))
		}
	}
	return string(b)
}

// plainArchive lays an archive's bytes as P6 tells them, whether the members are objects or not.
func plainArchive(count int, ms ...string) string {
	b := []byte{'A', 'R', byte(count)}
	for _, m := range ms {
		b = binary.LittleEndian.AppendUint16(b, uint16(len(m)))
		b = append(b, m...)
	}
	return string(b)
}

// same tells whether two objects are the same; an empty list may be nil or not (P2).
func same(a, b *api.Object) bool {
	if a == nil || b == nil {
		return a == b
	}
	return equal(a.Text, b.Text) && equal(a.Far, b.Far) && equal(a.Data, b.Data) && a.Bss == b.Bss &&
		equal(a.Align, b.Align) && equal(a.Syms, b.Syms) && equal(a.Rels, b.Rels)
}

func equal[T comparable](a, b []T) bool {
	if len(a) != len(b) {
		return false
	}
	for i := range a {
		if a[i] != b[i] {
			return false
		}
	}
	return true
}

// isObject tells by P4's words, taken one by one, whether o is an object.
func isObject(o *api.Object) bool {
	if len(o.Text) > 1200 || len(o.Far) > 1200 || len(o.Data) > 64 || o.Bss < 0 || o.Bss > 64 || len(o.Align) != 4 || len(o.Syms) > 16 || len(o.Rels) > 32 {
		return false
	}
	for _, b := range o.Align {
		if b != 2 && b != 3 && b != 4 {
			return false
		}
	}
	for _, l := range [][]int{o.Text, o.Far, o.Data} {
		for _, w := range l {
			if int(uint32(w)) != w {
				return false
			}
		}
	}
	return symbolsAre(o) && relocsAre(o)
}

func symbolsAre(o *api.Object) bool {
	lengths := []int{0, len(o.Text), len(o.Far), len(o.Data), o.Bss}
	seen := map[string]bool{}
	for _, s := range o.Syms {
		if seen[s.Name] || len(s.Name) == 0 || len(s.Name) > 6 || strings.Contains("0123456789", s.Name[:1]) {
			return false
		}
		seen[s.Name] = true
		for _, c := range []byte(s.Name) {
			if !strings.Contains("abcdefghijklmnopqrstuvwxyz_0123456789", string(rune(c))) {
				return false
			}
		}
		if s.Bind != 0 && s.Bind != 1 && s.Bind != 2 || s.Sect < 0 || s.Sect >= len(lengths) || s.Sect == 0 && s.Bind == 0 {
			return false
		}
		if s.Off%4 != 0 || s.Off < 0 || s.Off/4 > lengths[s.Sect] {
			return false
		}
	}
	return true
}

func relocsAre(o *api.Object) bool {
	lists := [][]int{nil, o.Text, o.Far, o.Data}
	sect, next := 1, 0 // no relocation may begin ahead of word next of sect
	for _, r := range o.Rels {
		if r.Sect < 1 || r.Sect > 3 || r.Off < 0 || r.Off%4 != 0 || r.Sect == 3 && r.Kind != 1 {
			return false
		}
		if r.Sect != sect {
			if r.Sect < sect {
				return false
			}
			next = 0
		}
		words := map[int]int{1: 1, 2: 1, 3: 1, 4: 2, 5: 2, 6: 3}[r.Kind]
		if r.Kind == 6 && r.Addend == 4 {
			words = 1
		}
		first := r.Off / 4
		if words == 0 || first < next || first >= len(lists[r.Sect]) || len(lists[r.Sect])-first < words {
			return false
		}
		sect, next = r.Sect, first+words
		if !relocIs(o, r, lists[sect][first:next]) {
			return false
		}
		for _, s := range o.Syms {
			if s.Sect == sect && s.Off/4 > first && s.Off/4 < next {
				return false
			}
		}
	}
	return true
}

func relocIs(o *api.Object, r api.Reloc, ws []int) bool {
	if r.Kind == 6 {
		if r.Sym != 0 {
			return false
		}
		for _, w := range ws {
			if w != 0x13 {
				return false
			}
		}
		border := []int{0, 0, 4, 8, 16}[o.Align[r.Sect-1]]
		return r.Addend == 4 && border >= 8 || r.Addend == 12 && border == 16
	}
	if r.Sym < 0 || r.Sym >= len(o.Syms) {
		return false
	}
	if r.Kind == 1 || r.Kind == 5 {
		if r.Addend < -2048 || r.Addend > 2047 {
			return false
		}
	} else if r.Addend != 0 {
		return false
	}
	switch r.Kind {
	case 1:
		return ws[0] == 0
	case 2:
		return branchWord(ws[0])
	case 3:
		return jalWord(ws[0])
	case 4:
		return callWords(ws[0], ws[1])
	}
	return addrWords(ws[0], ws[1])
}

// The words of relocations, known by the bits that are not a register's.

func branchWord(w int) bool {
	minor := w >> 12 & 7
	return w&^0x01fff000 == 0x63 && minor != 2 && minor != 3
}

func jalWord(w int) bool { return w&^0xf80 == 0x6f }

func callWords(a, b int) bool {
	rd := a >> 7 & 31
	return a&^0xf80 == 0x17 && rd != 0 && b&^0xf80 == 0x67|rd<<15
}

func addrWords(a, b int) bool {
	rd := a >> 7 & 31
	if a&^0xf80 != 0x37 || rd == 0 {
		return false
	}
	return b&^0xf80 == 0x13|rd<<15 || b&^0xf80 == 0x2003|rd<<15 || b&^0x01f00000 == 0x2023|rd<<15
}
