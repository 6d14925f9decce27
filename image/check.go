package image

import "linker/api"

// region is the room from one address to below another.
type region struct {
	from int
	to   int
}

func valid(m *Image) bool {
	if !IsBase(m.Bases.Text) || !IsBase(m.Bases.Far) || !IsBase(m.Bases.Data) {
		return false
	}
	if !m.Fits() {
		return false
	}
	_, starts := m.Code(m.Start)
	return starts
}

// IsBase tells whether a region may begin at an address.
func IsBase(address int) bool {
	return address >= api.Low && address < api.High && address%16 == 0
}

// Fits tells whether each region ends within the room for addresses and none meets another.
func (m *Image) Fits() bool {
	text := regionOf(m.Bases.Text, len(m.Text))
	far := regionOf(m.Bases.Far, len(m.Far))
	data := regionOf(m.Bases.Data, len(m.Data)+m.Noughts)
	if text.to > api.High || far.to > api.High || data.to > api.High {
		return false
	}
	return !meet(text, far) && !meet(text, data) && !meet(far, data)
}

func regionOf(base int, words int) region {
	return region{from: base, to: base + 4*words}
}

// meet tells whether two regions have a byte in common; one without words has none, even if it begins within the other.
func meet(a region, b region) bool {
	if a.from == a.to || b.from == b.to {
		return false
	}
	return a.from < b.to && b.from < a.to
}
