package linker_test

import (
	"slices"

	"linker/api"
)

// plainRun runs an image by P11's words, taken one by one: words lie in a map by their addresses.
func plainRun(p picture, in []int, fuel int) (r api.Result) {
	code, data := map[uint32]uint32{}, map[uint32]uint32{}
	for i, w := range p.text {
		code[uint32(p.atText+4*i)] = uint32(w)
	}
	for i, w := range p.far {
		code[uint32(p.atFar+4*i)] = uint32(w)
	}
	for i, w := range append(slices.Clone(p.data), make([]int, p.noughts)...) {
		data[uint32(p.atData+4*i)] = uint32(w)
	}
	var x [32]uint32
	pc := uint32(p.start)
	for r.Steps < fuel {
		r.Steps++
		x[0] = 0
		w, there := code[pc]
		if !there {
			r.End = api.TrapFetch
			return r
		}
		rd, one, two := w>>7&31, x[w>>15&31], x[w>>20&31]
		n := uint32(int32(w) >> 20) // of most instructions
		minor := w >> 12 & 7
		next := pc + 4
		switch {
		case w == 0x73:
			switch {
			case x[17] == 0:
				r.End, r.Code = api.Exit, int(int32(x[10]))
				return r
			case x[17] == 1 && len(r.Out) < 16:
				r.Out = append(r.Out, int(int32(x[10])))
			case x[17] == 2 && r.Read < len(in):
				x[10] = uint32(in[r.Read])
				r.Read++
			default:
				r.End = api.TrapCall
				return r
			}
		case w&127 == 0x37:
			x[rd] = w >> 12 << 12
		case w&127 == 0x17:
			x[rd] = w>>12<<12 + pc
		case w&127 == 0x6f:
			far := uint32(int32(w)>>31)<<20 | w>>12&255<<12 | w>>20&1<<11 | w>>21&1023<<1
			x[rd] = next
			next = pc + far
		case w&127 == 0x67 && minor == 0:
			x[rd] = next
			next = (one + n) / 2 * 2
		case w&127 == 0x63 && minor != 2 && minor != 3:
			far := uint32(int32(w)>>31)<<12 | w>>7&1<<11 | w>>25&63<<5 | w>>8&15<<1
			if plainBranch(minor, one, two) {
				next = pc + far
			}
		case w&127 == 0x03 && minor == 2:
			word, there := code[one+n]
			if !there {
				word, there = data[one+n]
			}
			if !there {
				r.End = api.TrapLoad
				return r
			}
			x[rd] = word
		case w&127 == 0x23 && minor == 2:
			to := one + n&^31 + w>>7&31
			if _, there := data[to]; !there {
				r.End = api.TrapStore
				return r
			}
			data[to] = two
		case w&127 == 0x13 && minor != 1 && minor != 3 && minor != 5:
			x[rd] = plainSum(minor, one, n)
		case w&127 == 0x33 && w>>25 == 0 && minor != 1 && minor != 5:
			x[rd] = plainSum(minor, one, two)
		case w&127 == 0x33 && w>>25 == 32 && minor == 0:
			x[rd] = one - two
		default:
			r.End = api.TrapOp
			return r
		}
		pc = next
	}
	r.End = api.OutFuel
	return r
}

func plainBranch(minor, a, b uint32) bool {
	return []bool{a == b, a != b, false, false, int32(a) < int32(b), int32(a) >= int32(b), a < b, a >= b}[minor]
}

func plainSum(minor, a, b uint32) uint32 {
	l := []uint32{a + b, 0, 0, 0, a ^ b, 0, a | b, a & b}
	if int32(a) < int32(b) {
		l[2] = 1
	}
	if a < b {
		l[3] = 1
	}
	return l[minor]
}
