package linker_test

import (
	"testing"

	"linker/api"
	"linker/linker"
)

// pair gives an object of two words of text with one relocation of this kind.
func pair(kind, a, b int) *api.Object {
	o := bare()
	o.Text = []int{a, b}
	o.Syms = []api.Symbol{{Name: "f", Bind: api.Weak}}
	o.Rels = []api.Reloc{{Sect: api.Text, Kind: kind}}
	return o
}

func wantPair(t *testing.T, kind, a, b int, want bool) {
	t.Helper()
	_, e := linker.Write(pair(kind, a, b))
	if (e == api.OK) != want || !want && e != api.ErrObject {
		t.Errorf("P3, P4: relocation %d of %08x, %08x: Write = %d, want an object: %v", kind, a, b, e, want)
	}
}

// TestP3WordsOfRelocations holds every minor number, every register and every single bit of a number against the kinds.
func TestP3WordsOfRelocations(t *testing.T) {
	for major := range 128 {
		for minor := range 8 {
			w := major | minor<<12
			wantPair(t, api.RelBranch, w, 0, branchWord(w))
			wantPair(t, api.RelJal, w, 0, jalWord(w))
			wantPair(t, api.RelCall, w|5<<7, 0x28067, callWords(w|5<<7, 0x28067))
			wantPair(t, api.RelCall, 0x297, w|5<<15, callWords(0x297, w|5<<15))
			wantPair(t, api.RelAddr, w|5<<7, 0x28013, addrWords(w|5<<7, 0x28013))
			wantPair(t, api.RelAddr, 0x2b7, w|5<<15, addrWords(0x2b7, w|5<<15))
		}
	}
	for i := range 32 {
		for j := range 32 {
			x := 1<<uint(i) | 1<<uint(j)
			wantPair(t, api.RelBranch, 0x63^x, 0, branchWord(0x63^x))
			wantPair(t, api.RelJal, 0x6f^x, 0, jalWord(0x6f^x))
			wantPair(t, api.RelWord, x, 0, false)
			wantPair(t, api.RelCall, 0x297^x, 0x28067, callWords(0x297^x, 0x28067))
			wantPair(t, api.RelCall, 0x297, 0x28067^x, callWords(0x297, 0x28067^x))
			for _, b := range []int{0x28013, 0x2a003, 0x2a023} {
				wantPair(t, api.RelAddr, 0x2b7^x, b, addrWords(0x2b7^x, b))
				wantPair(t, api.RelAddr, 0x2b7, b^x, addrWords(0x2b7, b^x))
			}
		}
	}
}

func TestP3RegistersOfRelocations(t *testing.T) {
	for a := range 32 {
		for b := range 32 {
			wantPair(t, api.RelBranch, 0x63|a<<15|b<<20, 0, true)
			wantPair(t, api.RelBranch, 0x7063|a<<15|b<<20, 0, true)
			wantPair(t, api.RelJal, 0x6f|a<<7, 0, true)
			same := a == b && a != 0
			wantPair(t, api.RelCall, 0x17|a<<7, 0x67|b<<15, same)
			wantPair(t, api.RelCall, 0x17|a<<7, 0x67|b<<15|b<<7, same)
			wantPair(t, api.RelAddr, 0x37|a<<7, 0x13|b<<15|9<<7, same)
			wantPair(t, api.RelAddr, 0x37|a<<7, 0x2003|b<<15|b<<7, same)
			wantPair(t, api.RelAddr, 0x37|a<<7, 0x2023|b<<15|b<<20, same)
			wantPair(t, api.RelAddr, 0x37|a<<7, 0x2023|b<<15|9<<20, same)
		}
	}
}

// TestP3OtherInstructions: what is an instruction, but not the one that the kind asks for.
func TestP3OtherInstructions(t *testing.T) {
	for _, c := range []struct{ kind, a, b int }{
		{api.RelBranch, 0x6f, 0}, {api.RelBranch, 0x13, 0}, {api.RelBranch, 0, 0}, {api.RelBranch, 0x73, 0},
		{api.RelJal, 0x67, 0}, {api.RelJal, 0x63, 0}, {api.RelJal, 0x17, 0}, {api.RelJal, 0, 0},
		{api.RelCall, 0xb7, 0x8067}, {api.RelCall, 0x97, 0x8013}, {api.RelCall, 0x8067, 0x97}, {api.RelCall, 0x97, 0x6f},
		{api.RelAddr, 0x97, 0x8013}, {api.RelAddr, 0xb7, 0x8067}, {api.RelAddr, 0xb7, 0xc013}, {api.RelAddr, 0xb7, 0xf013}, {api.RelAddr, 0xb7, 0x8033}, {api.RelAddr, 0xb7, 0xa013}, {api.RelAddr, 0xb7, 0xe013},
		{api.RelWord, 0x13, 0}, {api.RelWord, 0x73, 0},
	} {
		wantPair(t, c.kind, c.a, c.b, false)
	}
	for _, w := range []int{0, 0x33, 0x4013, 0x6013, 0x93, 0x8013, 0x100013} {
		o := pair(api.RelAlign, w, 0)
		o.Rels[0].Addend = 4
		o.Align[0] = 3
		if s, e := linker.Write(o); s != "" || e != api.ErrObject {
			t.Errorf("P3, P4: RelAlign of %08x: Write = %x, %d: only 0x13 does nothing", w, s, e)
		}
	}
}
