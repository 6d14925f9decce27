package linker_test

import (
	"encoding/hex"
	"testing"

	"linker/api"
	"linker/linker"
)

func unhex(t *testing.T, s string) string {
	t.Helper()
	b, err := hex.DecodeString(s)
	if err != nil {
		t.Fatal(err)
	}
	return string(b)
}

func TestP5KnownBytes(t *testing.T) {
	call := bare()
	call.Text = []int{0x97, 0x80e7}
	call.Syms = []api.Symbol{{Name: "f", Bind: api.Global, Sect: api.Text}, {Name: "g", Bind: api.Global}}
	call.Rels = []api.Reloc{{Sect: api.Text, Kind: api.RelCall, Sym: 1}}
	nop := bare()
	nop.Text = []int{0x13}
	every := bare()
	every.Text, every.Far, every.Data, every.Bss = repeat(256, 0), []int{0x89abcdef}, []int{0, 0, 0x01020304}, 9
	every.Align = []int{2, 3, 4, 3}
	every.Syms = []api.Symbol{{Name: "ab_9", Bind: api.Weak, Sect: api.Text, Off: 0x3fc}}
	every.Rels = []api.Reloc{{Sect: api.Text, Off: 0x104, Kind: api.RelWord, Addend: 0x7ff}, {Sect: api.Data, Off: 4, Kind: api.RelWord, Addend: -2}}
	everyHex := "4c4b0001010003000900" + "02030403" + "0102" + "0461625f390201fc03" + "0101040100ff07" + "0301040000feff"
	for range 256 {
		everyHex += "00000000"
	}
	everyHex += "efcdab89" + "00000000" + "00000000" + "04030201"
	for _, c := range []struct {
		o    *api.Object
		want string
	}{
		{bare(), "4c4b0000000000000000020202020000"},
		{nop, "4c4b0100000000000000020202020000" + "13000000"},
		{call, "4c4b0200000000000000020202020201" + "016601010000" + "016701000000" + "01040000010000" + "97000000e7800000"},
		{every, everyHex},
	} {
		want := unhex(t, c.want)
		if s, e := linker.Write(c.o); e != api.OK || s != want {
			t.Errorf("P5: Write = %x, %d, want %x", s, e, want)
		}
		if o, e := linker.Read(want); e != api.OK || !same(o, c.o) {
			t.Errorf("P5: Read(%x) = %+v, %d, want %+v", want, o, e, c.o)
		}
	}
}

func TestP5ThereAndBack(t *testing.T) {
	for i, o := range []*api.Object{sample(), bare(), full()} {
		s, e := linker.Write(o)
		if e != api.OK || s != plainBytes(o) {
			t.Fatalf("P5: Write of object %d = %x, %d", i, s, e)
		}
		if p, e := linker.Read(s); e != api.OK || !same(p, o) {
			t.Errorf("P5: Read of object %d = %+v, %d, want %+v", i, p, e, o)
		}
	}
	if s, _ := linker.Write(full()); len(s) != 16+16*11+32*7+4*(1200+1200+64) {
		t.Errorf("P5: the greatest object has %d bytes", len(s))
	}
}

func TestP5BytesTooFewOrTooMany(t *testing.T) {
	for i, o := range []*api.Object{sample(), bare(), full()} {
		s := plainBytes(o)
		for n := range len(s) {
			if p, e := linker.Read(s[:n]); p != nil || e != api.ErrObject {
				t.Fatalf("P5: Read of the first %d bytes of object %d = %+v, %d", n, i, p, e)
			}
		}
		for _, more := range []string{"\x00", "\x13\x00\x00\x00", "LK", s} {
			if p, e := linker.Read(s + more); p != nil || e != api.ErrObject {
				t.Errorf("P5: Read of object %d and %x = %+v, %d", i, more, p, e)
			}
		}
		if p, e := linker.Read("\x00" + s); p != nil || e != api.ErrObject {
			t.Errorf("P5: Read of a nought and object %d = %+v, %d", i, p, e)
		}
	}
}

// TestP5EveryByte: whatever a byte of the sample becomes, Read takes it just if Write gives it.
func TestP5EveryByte(t *testing.T) {
	s := plainBytes(sample())
	taken := 0
	for i := range len(s) {
		for c := range 256 {
			b := []byte(s)
			b[i] = byte(c)
			o, e := linker.Read(string(b))
			if e == api.ErrObject && o == nil {
				continue
			}
			if e != api.OK || o == nil || !isObject(o) || plainBytes(o) != string(b) {
				t.Fatalf("P5: Read with byte %d as %d = %+v, %d", i, c, o, e)
			}
			if u, f := linker.Write(o); f != api.OK || u != string(b) {
				t.Fatalf("P5: with byte %d as %d: Write of what Read gives = %x, %d", i, c, u, f)
			}
			taken++
		}
	}
	if taken < len(s)+4*256 {
		t.Errorf("P5: Read takes %d of the changed bytes only: a free word's alone are more", taken)
	}
}

func TestP5WrongBytes(t *testing.T) {
	head := "LK\x01\x00\x00\x00\x00\x00\x00\x00\x02\x02\x02\x02"
	word := "\x00\x00\x00\x00"
	weak, rel := "\x01f\x02\x00\x00\x00", "\x01\x01\x00\x00\x00"
	for _, c := range []struct {
		s    string
		want bool
	}{
		{head + "\x00\x00" + word, true},
		{head + "\x01\x00" + weak + word, true},
		{head + "\x01\x01" + weak + rel + "\x00\x00" + word, true},
		{head + "\x01\x01" + weak + rel + "\xff\x07" + word, true},
		{head + "\x01\x01" + weak + rel + "\x00\xf8" + word, true},
		{head + "\x01\x01" + weak + rel + "\x00\x08" + word, false},
		{head + "\x01\x01" + weak + rel + "\xff\xf7" + word, false},
		{head + "\x01\x01" + weak + rel + "\x00\x80" + word, false},
		{head + "\x01\x01" + weak + rel + "\xff\x7f" + word, false},
		{head + "\x02\x00" + weak + weak + word, false},
		{head + "\x01\x00" + "\x00\x02\x00\x00\x00" + word, false},
		{head + "\x01\x00" + "\x07abcdefg\x02\x00\x00\x00" + word, false},
		{head + "\x01\x00" + "\xfff\x02\x00\x00\x00" + word, false},
		{"lk" + head[2:] + "\x00\x00" + word, false},
		{"KL" + head[2:] + "\x00\x00" + word, false},
		{"AR" + head[2:] + "\x00\x00" + word, false},
		{"LK\x00\x01" + head[4:] + "\x00\x00" + word, false},
		{"", false}, {"L", false}, {"LK", false},
	} {
		o, e := linker.Read(c.s)
		if c.want && (e != api.OK || o == nil || plainBytes(o) != c.s) {
			t.Errorf("P5: Read(%x) = %+v, %d, want an object", c.s, o, e)
		}
		if !c.want && (e != api.ErrObject || o != nil) {
			t.Errorf("P5: Read(%x) = %+v, %d, want ErrObject", c.s, o, e)
		}
	}
}
