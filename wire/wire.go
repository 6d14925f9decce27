// Package wire: how numbers and texts lie in the bytes of a file (Numbers in files: the lowest byte first).
package wire

// Writer gathers the bytes of a file. Its zero value has none yet.
type Writer struct {
	bytes []byte
}

// Text lays the bytes of s.
func (w *Writer) Text(s string) {
	for i := 0; i < len(s); i++ {
		w.bytes = append(w.bytes, s[i])
	}
}

// Number lays n in size bytes; one below 0 is laid as the number and 2 to the power of all their bits.
func (w *Writer) Number(n int, size int) {
	for i := 0; i < size; i++ {
		w.bytes = append(w.bytes, byte(n&255))
		n = n >> 8
	}
}

// Numbers lays the numbers of a list, in size bytes each.
func (w *Writer) Numbers(list []int, size int) {
	for _, n := range list {
		w.Number(n, size)
	}
}

// Bytes gives all that was laid.
func (w *Writer) Bytes() string {
	return string(w.bytes)
}

// Reader goes through the bytes of a file. What it gives behind a shortage means nothing: Done tells in the end, so that its users need not ask at each step.
type Reader struct {
	bytes string
	at    int
	short bool
}

// NewReader gives a reader that stands at the first byte of s.
func NewReader(s string) Reader {
	return Reader{bytes: s}
}

// Text gives the next size bytes, or "" if there are not so many.
func (r *Reader) Text(size int) string {
	if size < 0 || size > len(r.bytes)-r.at {
		r.short = true
		return ""
	}
	from := r.at
	r.at = from + size
	return r.bytes[from:r.at]
}

// Number gives the number that the next size bytes are, or 0 if there are not so many.
func (r *Reader) Number(size int) int {
	part := r.Text(size)
	n := 0
	unit := 1
	for i := 0; i < len(part); i++ {
		n += int(part[i]) * unit
		unit *= 256
	}
	return n
}

// Numbers gives count numbers of size bytes each, fewer if the bytes end: no more is built than the bytes hold.
func (r *Reader) Numbers(count int, size int) []int {
	var list []int
	for i := 0; i < count && !r.short; i++ {
		n := r.Number(size)
		list = append(list, n)
	}
	return list
}

// Short tells whether bytes were asked for that were not there.
func (r *Reader) Short() bool {
	return r.short
}

// Done tells whether the file had just the bytes that were asked for.
func (r *Reader) Done() bool {
	return !r.short && r.at == len(r.bytes)
}
