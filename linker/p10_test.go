package linker_test

import (
	"math/rand"
	"testing"

	"linker/api"
	"linker/linker"
)

// known is the image of the document's example.
const known = "494d" + "00100000" + "00100000" + "00000100" + "00000200" + "0500" + "0000" + "0000" + "0000" + "13057000" + "93081000" + "73000000" + "93080000" + "73000000"

func TestP10KnownBytes(t *testing.T) {
	m, e := linker.Load(unhex(t, known))
	if e != api.OK || m == nil {
		t.Fatalf("P10: Load = %d", e)
	}
	wantRun(t, m, nil, 100, api.Result{End: api.Exit, Code: 7, Out: []int{7}, Steps: 5})
	wantRun(t, m, nil, 3, api.Result{End: api.OutFuel, Out: []int{7}, Steps: 3})
}

func TestP10BytesTooFewOrTooMany(t *testing.T) {
	for _, p := range []picture{scene(), {start: 65536, atText: 4096, atFar: 65536, atData: 4096, far: []int{1, 2, 3}}} {
		s := p.bytes()
		wantLoad(t, s, true)
		for n := range len(s) {
			wantLoad(t, s[:n], false)
			wantLoad(t, s[:n]+s[n+1:], false)
		}
		for _, more := range []string{"\x00", "\x13\x00\x00\x00", "IM", s} {
			wantLoad(t, s+more, false)
			wantLoad(t, more+s, false)
		}
	}
}

func TestP10Counts(t *testing.T) {
	for _, c := range [][]int{{0, 1, 1}, {2, 1, 1}, {1, 0, 1}, {1, 2, 1}, {1, 1, 0}, {1, 1, 2}, {65535, 1, 1}, {1, 65535, 1}, {1, 1, 65535}, {257, 1, 1}, {1, 257, 1}, {1, 1, 257}, {0, 0, 0}} {
		p := scene()
		p.counts = c
		wantLoad(t, p.bytes(), false)
	}
	p := scene()
	p.text, p.far, p.counts = nil, []int{0x13, 0x13}, []int{1, 1, 1}
	wantLoad(t, p.bytes(), true) // the words are those of text first
}

func TestP10Marks(t *testing.T) {
	for _, mark := range []string{"MI", "Im", "iM", "IN", "JM", "LK", "AR", "\x00M", "I\x00"} {
		p := scene()
		p.mark = mark
		wantLoad(t, p.bytes(), false)
	}
	for _, s := range []string{"", "I", "IM", plainBytes(sample()), plainArchive(1, plainBytes(bare())), "im" + scene().bytes()[2:]} {
		wantLoad(t, s, false)
	}
}

func TestP10Bases(t *testing.T) {
	for _, c := range []struct {
		base int
		want bool
	}{
		{0, false}, {16, false}, {4080, false}, {4095, false}, {4096, true}, {4097, false}, {4098, false}, {4100, false}, {4104, false}, {4108, false}, {4111, false}, {4112, true}, {4128, true},
		{1<<16 - 16, true}, {1 << 16, true}, {1<<16 + 8, false}, {1<<30 - 32, true}, {1<<30 - 16, true}, {1<<30 - 8, false}, {1<<30 - 4, false}, {1 << 30, false}, {1<<30 + 16, false}, {1<<30 + 4096, false}, {1 << 31, false}, {1<<31 + 4096, false}, {1<<32 - 16, false},
	} {
		word := []int{0x13}
		text := picture{start: c.base, atText: c.base, atFar: 65536 * 2, atData: 65536 * 3, text: word, far: word, data: word}
		wantLoad(t, text.bytes(), c.want)
		far := picture{start: c.base, atText: 65536 * 2, atFar: c.base, atData: 65536 * 3, text: word, far: word, data: word}
		wantLoad(t, far.bytes(), c.want)
		data := picture{start: 65536 * 2, atText: 65536 * 2, atFar: 65536 * 3, atData: c.base, text: word, far: word, data: word}
		wantLoad(t, data.bytes(), c.want)
		data.data, data.noughts = nil, 1
		wantLoad(t, data.bytes(), c.want)
		// A base is one only there, be there words or not.
		text.start, text.text = 65536*2, nil
		wantLoad(t, text.bytes(), c.want)
		far.start, far.far = 65536*2, nil
		wantLoad(t, far.bytes(), c.want)
		data.noughts = 0
		wantLoad(t, data.bytes(), c.want)
	}
}

func TestP10Ends(t *testing.T) {
	for _, c := range []struct {
		base, most int
	}{{1<<30 - 16, 4}, {1<<30 - 32, 8}, {1<<30 - 1024, 256}, {1<<30 - 4*65536 + 16, 65532}} {
		for words := c.most - 3; words <= c.most+3 && words < 65536; words++ {
			want := words <= c.most
			wantLoad(t, picture{start: c.base, atText: c.base, atFar: 4096, atData: 8192, text: repeat(words, 1)}.bytes(), want)
			wantLoad(t, picture{start: c.base, atText: 4096, atFar: c.base, atData: 8192, far: repeat(words, 1)}.bytes(), want)
			p := picture{start: 4096, atText: 4096, atFar: 8192, atData: c.base, text: []int{1}}
			for _, noughts := range []int{0, 1, 2, words - 1, words} {
				if noughts > words {
					continue
				}
				p.data, p.noughts = repeat(words-noughts, 1), noughts
				wantLoad(t, p.bytes(), want)
			}
		}
	}
}

// meeting gives a picture in which region one begins at 65536 with some words, region other ahead or behind, and the third far away.
func meeting(one, other int, a, b spread, noughts int) picture {
	at := [3]int{1 << 20, 1 << 20, 1 << 20}
	at[one], at[other] = a.at, b.at
	var words [3][]int
	words[one], words[other] = repeat(a.words, 1), repeat(b.words, 1)
	third := 3 - one - other
	if third != 2 {
		words[third] = []int{1}
	}
	p := picture{atText: at[0], atFar: at[1], atData: at[2], text: words[0], far: words[1], data: words[2]}
	if n := len(p.data); noughts <= n {
		p.data, p.noughts = p.data[:n-noughts], noughts
	}
	p.start = p.atText
	if len(p.text) == 0 {
		p.start = p.atFar
	}
	return p
}

func TestP10Meeting(t *testing.T) {
	for _, c := range []struct {
		a, b spread
		want bool
	}{
		{spread{65536, 4}, spread{65552, 4}, true}, {spread{65536, 5}, spread{65552, 4}, false}, {spread{65536, 4}, spread{65536, 4}, false}, {spread{65536, 1}, spread{65536, 1}, false},
		{spread{65536, 3}, spread{65552, 1}, true}, {spread{65536, 100}, spread{65552, 1}, false}, {spread{65536, 100}, spread{65920, 1}, false}, {spread{65536, 100}, spread{65936, 1}, true}, {spread{65536, 101}, spread{65936, 1}, false}, {spread{65536, 100}, spread{65520, 100}, false},
		{spread{65536, 0}, spread{65536, 4}, true}, {spread{65552, 0}, spread{65536, 9}, true}, {spread{65536, 0}, spread{65520, 9}, true},
		{spread{65536, 65535}, spread{327680, 1}, true}, {spread{65536, 65533}, spread{327664, 1}, false}, {spread{65536, 65532}, spread{327664, 1}, true},
	} {
		for _, pair := range [][2]int{{0, 1}, {1, 0}, {0, 2}, {2, 0}, {1, 2}, {2, 1}} {
			for _, noughts := range []int{0, 1, c.a.words, c.b.words} {
				p := meeting(pair[0], pair[1], c.a, c.b, noughts)
				if got := p.isImage(); got != c.want {
					t.Fatalf("the test's own words of P10: %+v of %v: %v", c, pair, got)
				}
				wantLoad(t, p.bytes(), c.want)
			}
		}
	}
}

func TestP10Start(t *testing.T) {
	p := picture{atText: 4096, atFar: 4128, atData: 4160, text: repeat(7, 1), far: repeat(8, 1), data: repeat(4, 1), noughts: 4}
	for start := 4080; start < 4256; start++ {
		p.start = start
		want := start%4 == 0 && (start >= 4096 && start < 4096+28 || start >= 4128 && start < 4128+32)
		wantLoad(t, p.bytes(), want)
	}
	for _, start := range []int{0, 4, 1 << 30, 1<<31 + 4096, 1<<32 - 4, 4096 + 1<<16, 4096 + 1<<24} {
		p.start = start
		wantLoad(t, p.bytes(), false)
	}
	none := picture{start: 4096, atText: 4096, atFar: 4096, atData: 4096}
	wantLoad(t, none.bytes(), false)
	none.data, none.noughts = []int{0x13}, 1
	wantLoad(t, none.bytes(), false)
}

func TestP10Words(t *testing.T) {
	for _, w := range []int{0, 1, 0x13, 0x73, 1<<31 - 1, 1 << 31, 1<<32 - 1} { // a word need be no instruction
		p := scene()
		p.text[0], p.far[0], p.data[0] = w, w, w
		wantLoad(t, p.bytes(), true)
	}
}

func TestP10EveryByte(t *testing.T) {
	for _, p := range []picture{scene(), {start: 4096, atText: 4096, atFar: 4112, atData: 4128, text: repeat(4, 1), far: repeat(3, 1), data: repeat(2, 1), noughts: 1}} {
		s := []byte(p.bytes())
		for i := range s {
			old := s[i]
			for n := range 256 {
				s[i] = byte(n)
				q, whole := parsed(string(s))
				wantLoad(t, string(s), whole && q.isImage())
			}
			s[i] = old
		}
	}
}

func TestP10Random(t *testing.T) {
	random := rand.New(rand.NewSource(10))
	count := 0
	for range 30000 {
		base := func() int {
			b := []int{4096, 4096, 8192, 1<<30 - 256}[random.Intn(4)] + 16*random.Intn(20)
			if random.Intn(40) == 0 {
				b += random.Intn(16)
			}
			return b
		}
		p := picture{atText: base(), atFar: base(), atData: base(), text: repeat(random.Intn(12), 1), far: repeat(random.Intn(12), 1), data: repeat(random.Intn(12), 1), noughts: random.Intn(12)}
		p.start = []int{p.atText, p.atFar, p.atData}[random.Intn(3)] + 4*random.Intn(12)
		if random.Intn(40) == 0 {
			p.start += random.Intn(4)
		}
		if p.isImage() {
			count++
		}
		wantLoad(t, p.bytes(), p.isImage())
	}
	if count < 3000 || count > 27000 {
		t.Errorf("%d of 30000 are images: too one-sided", count)
	}
}
