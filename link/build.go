package link

import (
	"linker/api"
	"linker/image"
	"linker/instr"
	"linker/object"
)

// region gathers the words of a region.
type region struct {
	base   int
	filler int // what stands in gaps
	words  []int
}

// build gives the image of all that is laid (P15).
func (p *program) build() *image.Image {
	text := region{base: p.bases.Text, filler: instr.Nop}
	far := region{base: p.bases.Far, filler: instr.Nop}
	data := region{base: p.bases.Data}
	for _, m := range p.modules {
		text.add(m, api.Text)
		far.add(m, api.Far)
		data.add(m, api.Data)
	}
	made := &image.Image{Start: p.start.address(), Bases: p.bases, Noughts: p.noughts}
	made.Text = text.words
	made.Far = far.words
	made.Data = data.words
	return made
}

// add lays the words of a module's section where they belong, the gap ahead of them filled.
func (r *region) add(m *module, sect int) {
	begin := m.address(sect, 0)
	for r.base+4*len(r.words) < begin {
		r.words = append(r.words, r.filler)
	}
	for i, w := range object.Words(m.obj, sect) {
		if m.address(sect, 4*i) < m.address(sect, 4*i+4) { // else it is left out
			linked := m.linked(sect, 4*i, w)
			r.words = append(r.words, linked)
		}
	}
}

// linked gives what the word w at off of a section becomes.
func (m *module) linked(sect int, off int, w int) int {
	i, rel := m.relocAt(sect, off)
	switch rel.Kind {
	case api.RelWord:
		return (m.target(rel) + rel.Addend) & instr.MaxWord
	case api.RelBranch, api.RelJal:
		return withNumber(w, m.distance(rel))
	case api.RelCall:
		if m.isShort(i) {
			return m.shortCall(rel)
		}
		return withPart(w, off == rel.Off, m.distance(rel))
	case api.RelAddr:
		return withPart(w, off == rel.Off, m.target(rel)+rel.Addend)
	}
	return w
}

// shortCall gives the one word of a call that is short.
func (m *module) shortCall(rel api.Reloc) int {
	about := object.About(m.obj, rel)
	if len(about) < 2 {
		return 0
	}
	second := instr.Decode(about[1])
	return instr.Encode(instr.Instr{Op: instr.Jal, Rd: second.Rd, N: m.distance(rel)})
}

// withPart gives the word w with its part of v: the first of two words has the high one.
func withPart(w int, first bool, v int) int {
	high, low := instr.Parts(v)
	if first {
		return withNumber(w, high)
	}
	return withNumber(w, low)
}

// withNumber gives the instruction w with another number.
func withNumber(w int, n int) int {
	i := instr.Decode(w)
	i.N = n
	return instr.Encode(i)
}
