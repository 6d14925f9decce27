package link

import (
	"linker/api"
	"linker/object"
)

// near is the distance from which on a call is not short. What moves when calls become short moves less than Slack, so that a short call reaches its symbol then, too.
const near = 1<<20 - api.Slack

// layout lays all (P14): first with no call short, for that settles which calls are.
func (p *program) layout() {
	p.lay()
	p.shorten()
	p.lay()
}

func (p *program) lay() {
	text, far, data := p.bases.Text, p.bases.Far, p.bases.Data
	for _, m := range p.modules {
		text = m.layCode(api.Text, text)
		far = m.layCode(api.Far, far)
		m.data = roundUp(data, object.Border(m.obj, api.Data))
		data = m.data + object.Length(m.obj, api.Data)
	}
	bss := data
	for _, m := range p.modules {
		m.bss = roundUp(bss, object.Border(m.obj, api.Bss))
		bss = m.bss + object.Length(m.obj, api.Bss)
	}
	p.noughts = (bss - data) / 4
}

// layCode lays a section of code at its next border from an address on, and gives where it ends.
func (m *module) layCode(sect int, from int) int {
	at := roundUp(from, object.Border(m.obj, sect))
	var places []int
	for i := range object.Words(m.obj, sect) {
		places = append(places, at)
		if m.stays(sect, 4*i, at) {
			at += 4
		}
	}
	places = append(places, at)
	if sect == api.Text {
		m.text = places
	} else {
		m.far = places
	}
	return at
}

// stays tells whether the word at off of a section is not left out, if its address is at.
func (m *module) stays(sect int, off int, at int) bool {
	i, rel := m.relocAt(sect, off)
	switch rel.Kind {
	case api.RelAlign:
		return roundUp(at, rel.Addend+4) != at
	case api.RelCall:
		return off == rel.Off || !m.isShort(i)
	}
	return true
}

// relocAt gives the relocation that is about the word at off of a section, and its number; one of no kind, if there is none.
func (m *module) relocAt(sect int, off int) (int, api.Reloc) {
	for i, rel := range m.obj.Rels {
		if rel.Sect == sect && off >= rel.Off && off < rel.Off+4*object.Span(rel) {
			return i, rel
		}
	}
	return 0, api.Reloc{}
}

// isShort tells whether relocation i is a call that is short; as long as none was told to be, none is.
func (m *module) isShort(i int) bool {
	return i >= 0 && i < len(m.short) && m.short[i]
}

// shorten tells of all calls whether they are short, by the layout at hand.
func (p *program) shorten() {
	for _, m := range p.modules {
		for _, rel := range m.obj.Rels {
			distance := m.distance(rel)
			m.short = append(m.short, rel.Kind == api.RelCall && distance > -near && distance < near)
		}
	}
}

// distance gives how far what a relocation's symbol means lies from the relocation's first word.
func (m *module) distance(rel api.Reloc) int {
	return m.target(rel) - m.address(rel.Sect, rel.Off)
}

// target gives the address of what a relocation's symbol means: 0, if that is nothing.
func (m *module) target(rel api.Reloc) int {
	if rel.Sym < 0 || rel.Sym >= len(m.means) {
		return 0
	}
	return m.means[rel.Sym].address()
}

// address tells where a spot lies.
func (s spot) address() int {
	if s.mod == nil {
		return 0
	}
	return s.mod.address(s.sect, s.off)
}

// address tells where the word at off of a section lies; at the section's end, what lies behind it.
func (m *module) address(sect int, off int) int {
	switch sect {
	case api.Text:
		return placeOf(m.text, off)
	case api.Far:
		return placeOf(m.far, off)
	case api.Data:
		return m.data + off
	case api.Bss:
		return m.bss + off
	}
	return 0
}

func placeOf(places []int, off int) int {
	i := off / 4
	if i < 0 || i >= len(places) {
		return 0
	}
	return places[i]
}

// roundUp gives the next multiple of border, which is a power of two.
func roundUp(address int, border int) int {
	return (address + border - 1) &^ (border - 1)
}
