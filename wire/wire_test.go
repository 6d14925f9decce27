package wire

import (
	"slices"
	"testing"
)

func TestWriterLaysLowestByteFirst(t *testing.T) {
	w := Writer{}
	if got := w.Bytes(); got != "" {
		t.Errorf("Bytes of nothing = %x", got)
	}
	w.Text("LK")
	w.Number(0x1234, 2)
	w.Number(7, 1)
	w.Number(0xfedcba98, 4)
	w.Number(-2048, 2)
	want := "LK\x34\x12\x07\x98\xba\xdc\xfe\x00\xf8"
	if got := w.Bytes(); got != want {
		t.Errorf("Bytes = %x, want %x", got, want)
	}
}

func TestWriterLaysLists(t *testing.T) {
	w := Writer{}
	w.Numbers(nil, 4)
	w.Numbers([]int{1, 0x203}, 2)
	w.Numbers([]int{0xfedcba98}, 4)
	want := "\x01\x00\x03\x02\x98\xba\xdc\xfe"
	if got := w.Bytes(); got != want {
		t.Errorf("Bytes = %x, want %x", got, want)
	}
}

func TestReaderGivesWhatWasLaid(t *testing.T) {
	r := NewReader("LK\x34\x12\x07\x98\xba\xdc\xfe")
	if got := r.Text(0); got != "" || r.Short() {
		t.Errorf("Text(0) = %q, Short %v", got, r.Short())
	}
	if got := r.Text(2); got != "LK" {
		t.Errorf("Text = %q", got)
	}
	for _, c := range []struct{ size, want int }{{2, 0x1234}, {1, 7}, {4, 0xfedcba98}} {
		if r.Done() {
			t.Errorf("Done ahead of the end")
		}
		if got := r.Number(c.size); got != c.want {
			t.Errorf("Number(%d) = %x, want %x", c.size, got, c.want)
		}
	}
	if !r.Done() || r.Short() {
		t.Errorf("at the end: Done %v, Short %v", r.Done(), r.Short())
	}
}

func TestReaderThatIsShort(t *testing.T) {
	for _, size := range []int{4, 1 << 62, -1, -1 << 63} {
		r := NewReader("abc")
		if got := r.Text(size); got != "" || !r.Short() {
			t.Errorf("Text(%d) = %q, Short %v", size, got, r.Short())
		}
		if got := r.Text(3); got != "abc" || r.Done() {
			t.Errorf("behind Text(%d): %q, Done %v: a shortage is never made good", size, got, r.Done())
		}
	}
	r := NewReader("ab")
	if got := r.Number(4); got != 0 || !r.Short() {
		t.Errorf("Number = %d, Short %v", got, r.Short())
	}
}

func TestNumbersInARow(t *testing.T) {
	for _, c := range []struct {
		count, size int
		want        []int
		short       bool
	}{
		{0, 2, nil, false}, {-1, 2, nil, false}, {1, 2, []int{0x0201}, false}, {2, 2, []int{0x0201, 0x0403}, false},
		{5, 1, []int{1, 2, 3, 4, 5}, false}, {1, 4, []int{0x04030201}, false}, {3, 2, []int{0x0201, 0x0403, 0}, true}, {1 << 62, 4, []int{0x04030201, 0}, true},
	} {
		r := NewReader("\x01\x02\x03\x04\x05")
		got := r.Numbers(c.count, c.size)
		if !slices.Equal(got, c.want) || r.Short() != c.short {
			t.Errorf("Numbers(%d, %d) = %v, Short %v, want %v, %v", c.count, c.size, got, r.Short(), c.want, c.short)
		}
	}
}
