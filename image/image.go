// Package image: what an image is, and its bytes (P10).
package image

import (
	"linker/api"
	"linker/wire"
)

// mark is what an image's bytes begin with.
const mark = "IM"

// Image is what can be run: where it starts, where its regions begin, their words, and how many noughts stand behind the data.
type Image struct {
	Start   int
	Bases   api.Bases
	Text    []int
	Far     []int
	Data    []int
	Noughts int
}

// Write gives an image's bytes.
func Write(m *Image) string {
	w := wire.Writer{}
	w.Text(mark)
	w.Number(m.Start, 4)
	w.Number(m.Bases.Text, 4)
	w.Number(m.Bases.Far, 4)
	w.Number(m.Bases.Data, 4)
	w.Number(len(m.Text), 2)
	w.Number(len(m.Far), 2)
	w.Number(len(m.Data), 2)
	w.Number(m.Noughts, 2)
	w.Numbers(m.Text, 4)
	w.Numbers(m.Far, 4)
	w.Numbers(m.Data, 4)
	return w.Bytes()
}

// Read gives the image that bytes are.
func Read(s string) (*Image, api.Errno) {
	r := wire.NewReader(s)
	m := readImage(&r)
	if m == nil || !r.Done() || !valid(m) {
		return nil, api.ErrImage
	}
	return m, api.OK
}

// readImage reads what stands in the places of an image's parts, be they valid or not; nil if the bytes begin otherwise than an image's.
func readImage(r *wire.Reader) *Image {
	if r.Text(len(mark)) != mark {
		return nil
	}
	m := &Image{}
	m.Start = r.Number(4)
	m.Bases.Text = r.Number(4)
	m.Bases.Far = r.Number(4)
	m.Bases.Data = r.Number(4)
	text := r.Number(2)
	far := r.Number(2)
	data := r.Number(2)
	m.Noughts = r.Number(2)
	m.Text = r.Numbers(text, 4)
	m.Far = r.Numbers(far, 4)
	m.Data = r.Numbers(data, 4)
	return m
}

// Code gives the word of text or far that lies at an address, and whether there is one.
func (m *Image) Code(address int) (int, bool) {
	i := Place(m.Text, m.Bases.Text, address)
	if i >= 0 {
		return m.Text[i], true
	}
	i = Place(m.Far, m.Bases.Far, address)
	if i >= 0 {
		return m.Far[i], true
	}
	return 0, false
}

// Place tells which of the words that begin at base lies at an address; -1, if none does.
func Place(words []int, base int, address int) int {
	if address < base || (address-base)%4 != 0 {
		return -1
	}
	i := (address - base) / 4
	if i >= len(words) {
		return -1
	}
	return i
}
