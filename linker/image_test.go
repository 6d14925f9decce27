package linker_test

import (
	"encoding/binary"
	"testing"

	"linker/api"
	"linker/linker"
)

// picture has the parts of an image.
type picture struct {
	start           int
	atText          int
	atFar           int
	atData          int
	text, far, data []int
	noughts         int
	counts          []int // how many words text, far and data are said to have, if other than they have
	mark            string
	behind          string
}

// bytes lays an image's bytes as P10 tells them, whether it is one or not.
func (p picture) bytes() string {
	b := []byte("IM")
	if p.mark != "" {
		b = []byte(p.mark)
	}
	for _, n := range []int{p.start, p.atText, p.atFar, p.atData} {
		b = binary.LittleEndian.AppendUint32(b, uint32(n))
	}
	counts := p.counts
	if counts == nil {
		counts = []int{len(p.text), len(p.far), len(p.data)}
	}
	for _, n := range append(append([]int(nil), counts...), p.noughts) {
		b = binary.LittleEndian.AppendUint16(b, uint16(n))
	}
	for _, l := range [][]int{p.text, p.far, p.data} {
		for _, w := range l {
			b = binary.LittleEndian.AppendUint32(b, uint32(w))
		}
	}
	return string(b) + p.behind
}

// scene gives a picture with a word of text at 4096, one of far at 8192, one of data at 12288 and two noughts.
func scene() picture {
	return picture{start: 4096, atText: 4096, atFar: 8192, atData: 12288, text: []int{0x13}, far: []int{0x13}, data: []int{7}, noughts: 2}
}

// spread is one region of a picture: where it begins and how many words it has.
type spread struct{ at, words int }

// spreads gives the regions; the last has the noughts too.
func (p picture) spreads() [3]spread {
	return [3]spread{{p.atText, len(p.text)}, {p.atFar, len(p.far)}, {p.atData, len(p.data) + p.noughts}}
}

// isImage tells by P10's words, taken one by one, whether the parts of p are an image's.
func (p picture) isImage() bool {
	l := p.spreads()
	starts := false
	for i, r := range l {
		if r.at < 4096 || r.at >= 1<<30 || r.at%16 != 0 || r.at+4*r.words > 1<<30 {
			return false
		}
		for _, q := range l[:i] {
			first, second := q, r
			if r.at < q.at {
				first, second = r, q
			}
			if q.words > 0 && r.words > 0 && second.at-first.at < 4*first.words {
				return false
			}
		}
		if off := p.start - r.at; i < 2 && off >= 0 && off < 4*r.words && off%4 == 0 {
			starts = true
		}
	}
	return starts
}

// parsed takes bytes apart as P10 tells them; false if they do not just make up an image's parts.
func parsed(s string) (picture, bool) {
	b := []byte(s)
	if len(b) < 26 || b[0] != 'I' || b[1] != 'M' {
		return picture{}, false
	}
	four := func(at int) int { return int(binary.LittleEndian.Uint32(b[at:])) }
	two := func(at int) int { return int(binary.LittleEndian.Uint16(b[at:])) }
	p := picture{start: four(2), atText: four(6), atFar: four(10), atData: four(14), noughts: two(24)}
	if len(b) != 26+4*(two(18)+two(20)+two(22)) {
		return picture{}, false
	}
	at := 26
	take := func(n int) (l []int) {
		for range n {
			l = append(l, four(at))
			at += 4
		}
		return l
	}
	p.text = take(two(18))
	p.far = take(two(20))
	p.data = take(two(22))
	return p, true
}

// wantLoad holds the program's answer to bytes against the words of P10.
func wantLoad(t *testing.T, s string, want bool) {
	t.Helper()
	m, e := linker.Load(s)
	if want && (e != api.OK || m == nil) {
		t.Errorf("P10: Load(%.60x) = %v, %d, want a machine", s, m != nil, e)
	}
	if !want && (e != api.ErrImage || m != nil) {
		t.Errorf("P10, P1: Load(%.60x) = %v, %d, want %d", s, m != nil, e, api.ErrImage)
	}
}

// loaded gives the machine of an image.
func (p picture) loaded(t *testing.T) *linker.Machine {
	t.Helper()
	m, e := linker.Load(p.bytes())
	if e != api.OK || m == nil {
		t.Fatalf("P10: Load(%.60x) = %d", p.bytes(), e)
	}
	return m
}

// sameResult tells whether two results are the same; an empty list may be nil or not (P2).
func sameResult(a, b api.Result) bool {
	return a.End == b.End && a.Code == b.Code && equal(a.Out, b.Out) && a.Steps == b.Steps && a.Read == b.Read
}

// wantRun runs a machine and holds its answer against want.
func wantRun(t *testing.T, m *linker.Machine, in []int, fuel int, want api.Result) {
	t.Helper()
	if r, e := m.Run(in, fuel); e != api.OK || !sameResult(r, want) {
		t.Errorf("P11: Run(%v, %d) = %+v, %d, want %+v", in, fuel, r, e, want)
	}
}
