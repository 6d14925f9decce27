package linker_test

import (
	"testing"

	"linker/api"
	"linker/linker"
)

func TestP6ThereAndBack(t *testing.T) {
	a, b, c := plainBytes(sample()), plainBytes(bare()), plainBytes(full())
	for _, ms := range [][]string{{a}, {b}, {c}, {a, b}, {b, a}, {b, b, b}, {a, b, c, a, b, c}, {c, c, c, c, c, c}} {
		want := plainArchive(len(ms), ms...)
		if s, e := linker.Pack(ms); e != api.OK || s != want {
			t.Errorf("P6: Pack of %d members = %x, %d, want %x", len(ms), s, e, want)
		}
		if l, e := linker.Members(want); e != api.OK || !equal(l, ms) {
			t.Errorf("P6: Members = %q, %d, want %q", l, e, ms)
		}
	}
	known := unhex(t, "415201"+"1400"+"4c4b0100000000000000020202020000"+"13000000")
	nop := bare()
	nop.Text = []int{0x13}
	if s, e := linker.Pack([]string{plainBytes(nop)}); e != api.OK || s != known {
		t.Errorf("P6: Pack = %x, %d, want %x", s, e, known)
	}
}

func TestP6NoMembers(t *testing.T) {
	a, b := plainBytes(sample()), plainBytes(bare())
	bad := sample()
	bad.Rels[0].Sym = 1
	broken := plainBytes(bad)
	for _, ms := range [][]string{
		nil, {}, {""}, {"LK"}, {a, ""}, {"", a}, {a, a[:len(a)-1]}, {a, a + "\x00"}, {broken}, {b, b, b, b, b, broken},
		{plainArchive(1, b)}, {b, plainArchive(1, b)}, {"no object"}, {b, b, b, b, b, b, b}, {b + b},
	} {
		if s, e := linker.Pack(ms); s != "" || e != api.ErrMembers {
			t.Errorf("P6: Pack(%q) = %x, %d, want ErrMembers", ms, s, e)
		}
	}
}

func TestP6NoArchives(t *testing.T) {
	a, b := plainBytes(sample()), plainBytes(bare())
	s := plainArchive(3, b, a, b)
	bad := sample()
	bad.Rels[0].Sym = 1
	broken := plainBytes(bad)
	for n := range len(s) {
		if l, e := linker.Members(s[:n]); l != nil || e != api.ErrArchive {
			t.Fatalf("P6: Members of the first %d bytes = %q, %d", n, l, e)
		}
	}
	for _, c := range []string{
		s + "\x00", s + s, "\x00" + s, "ar" + s[2:], "RA" + s[2:], "LK" + s[2:], a, b,
		plainArchive(0), plainArchive(0, b), plainArchive(1), plainArchive(1, b, b), plainArchive(2, b, b, b), plainArchive(4, b, b, b), plainArchive(7, b, b, b, b, b, b, b), plainArchive(255, b), plainArchive(6, b, b, b, b, b, b, b), plainArchive(7, b, b, b, b, b, b),
		plainArchive(1, ""), plainArchive(2, b, ""), plainArchive(1, broken), plainArchive(2, b, broken), plainArchive(2, broken, b), plainArchive(1, s), plainArchive(1, b+"\x00"), plainArchive(1, b[:15]),
		"AR\x01\x00\x10" + b, "AR\x01\xff\xff" + b, "AR\x01\x11\x00" + b, "AR\x01\x0f\x00" + b,
	} {
		if l, e := linker.Members(c); l != nil || e != api.ErrArchive {
			t.Errorf("P6: Members(%x) = %q, %d, want ErrArchive", c, l, e)
		}
	}
	if o, e := linker.Read(s); o != nil || e != api.ErrObject {
		t.Errorf("P5: Read of an archive = %+v, %d", o, e)
	}
}

// TestP6EveryByte: whatever a byte of an archive becomes, Members takes it just if Pack gives it.
func TestP6EveryByte(t *testing.T) {
	s := plainArchive(2, plainBytes(bare()), plainBytes(sample()))
	taken := 0
	for i := range len(s) {
		for c := range 256 {
			b := []byte(s)
			b[i] = byte(c)
			l, e := linker.Members(string(b))
			if e == api.ErrArchive && l == nil {
				continue
			}
			if e != api.OK || plainArchive(len(l), l...) != string(b) {
				t.Fatalf("P6: Members with byte %d as %d = %q, %d", i, c, l, e)
			}
			if u, f := linker.Pack(l); f != api.OK || u != string(b) {
				t.Fatalf("P6: with byte %d as %d: Pack of what Members gives = %x, %d", i, c, u, f)
			}
			taken++
		}
	}
	if taken < len(s) {
		t.Errorf("P6: Members takes %d of %d archives that are unchanged", taken, len(s))
	}
}
