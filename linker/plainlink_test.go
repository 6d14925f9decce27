package linker_test

import (
	"linker/api"
	"linker/linker"
)

// where is a place in a section of an object.
type where struct{ object, sect, off int }

// plainLinker knows of a link what lies in maps: what names mean, which calls are short, where all places of sections lie.
type plainLinker struct {
	b       api.Bases
	objects []*api.Object
	strong  map[string]where
	weak    map[string]where
	short   map[[2]int]bool // by objects and relocations
	places  map[where]int
	ends    [5]int // of sections
}

// plainLink links by the words of P12 to P15, taken one by one.
func plainLink(files []string, b api.Bases) (picture, api.Fault) {
	for i, base := range []int{b.Text, b.Far, b.Data} {
		if base < 4096 || base >= 1<<30 || base%16 != 0 {
			return picture{}, api.Fault{E: api.ErrBase, At: i}
		}
	}
	if len(files) == 0 || len(files) > 8 {
		return picture{}, api.Fault{E: api.ErrFiles}
	}
	for i, s := range files {
		_, one := linker.Read(s)
		_, many := linker.Members(s)
		if one != api.OK && many != api.OK {
			return picture{}, api.Fault{E: api.ErrFile, At: i}
		}
	}
	l := &plainLinker{b: b, strong: map[string]where{}, weak: map[string]where{}, short: map[[2]int]bool{}}
	for _, s := range files {
		l.takePart(s)
	}
	if f := l.findNames(); f.E != api.OK {
		return picture{}, f
	}
	l.lie()
	near := map[[2]int]bool{}
	l.each(func(object, i int, r api.Reloc, distance int) {
		near[[2]int{object, i}] = r.Kind == api.RelCall && distance*distance < (1<<20-1<<15)*(1<<20-1<<15)
	})
	l.short = near
	l.lie()
	return l.picture()
}

func (l *plainLinker) takePart(s string) {
	if o, e := linker.Read(s); e == api.OK {
		l.objects = append(l.objects, o)
		return
	}
	ms, _ := linker.Members(s)
	taken := map[int]bool{}
	for before := -1; before < len(taken); {
		before = len(taken)
		for i, m := range ms {
			wanted := map[string]bool{}
			for _, o := range l.objects {
				for _, s := range o.Syms {
					if s.Bind == 1 && s.Sect == 0 {
						wanted[s.Name] = true
					}
				}
			}
			for _, o := range l.objects {
				for _, s := range o.Syms {
					if s.Bind != 0 && s.Sect != 0 {
						delete(wanted, s.Name)
					}
				}
			}
			o, _ := linker.Read(m)
			for _, s := range o.Syms {
				if !taken[i] && s.Bind != 0 && s.Sect != 0 && wanted[s.Name] {
					taken[i] = true
					l.objects = append(l.objects, o)
				}
			}
		}
	}
}

func (l *plainLinker) findNames() api.Fault {
	for i, o := range l.objects {
		for _, s := range o.Syms {
			_, strong := l.strong[s.Name]
			_, weak := l.weak[s.Name]
			switch {
			case s.Sect == 0 || s.Bind == 0:
			case s.Bind == 1 && strong:
				return api.Fault{E: api.ErrDup, At: i, Name: s.Name}
			case s.Bind == 1:
				l.strong[s.Name] = where{i, s.Sect, s.Off}
			case s.Bind == 2 && !weak:
				l.weak[s.Name] = where{i, s.Sect, s.Off}
			}
		}
	}
	for i, o := range l.objects {
		for _, s := range o.Syms {
			if _, there := l.named(s.Name); !there && s.Bind == 1 && s.Sect == 0 {
				return api.Fault{E: api.ErrUndef, At: i, Name: s.Name}
			}
		}
	}
	if w, _ := l.named("_start"); w.sect != 1 && w.sect != 2 {
		return api.Fault{E: api.ErrStart}
	}
	return api.Fault{}
}

func (l *plainLinker) named(name string) (where, bool) {
	if w, there := l.strong[name]; there {
		return w, true
	}
	w, there := l.weak[name]
	return w, there
}

// target gives the address of what the relocation's symbol means.
func (l *plainLinker) target(object int, r api.Reloc) int {
	s := l.objects[object].Syms[r.Sym]
	if s.Bind == 0 {
		return l.places[where{object, s.Sect, s.Off}]
	}
	w, there := l.named(s.Name)
	if !there {
		return 0
	}
	return l.places[w]
}

// each calls f at every relocation that has a symbol, with its distance.
func (l *plainLinker) each(f func(object, i int, r api.Reloc, distance int)) {
	for object, o := range l.objects {
		for i, r := range o.Rels {
			if r.Kind != api.RelAlign {
				f(object, i, r, l.target(object, r)-l.places[where{object, r.Sect, r.Off}])
			}
		}
	}
}

// lie finds the address of every place of every section.
func (l *plainLinker) lie() {
	l.places = map[where]int{}
	at := []int{0, l.b.Text, l.b.Far, l.b.Data, 0}
	for sect := 1; sect <= 4; sect++ {
		if sect == 4 {
			at[4] = at[3]
		}
		for object, o := range l.objects {
			words := []int{0, len(o.Text), len(o.Far), len(o.Data), o.Bss}[sect]
			for border := []int{0, 0, 4, 8, 16}[o.Align[sect-1]]; at[sect]%border != 0; {
				at[sect] += 4
			}
			for off := 0; off < 4*words; off += 4 {
				l.places[where{object, sect, off}] = at[sect]
				if !l.leftOut(object, sect, off) {
					at[sect] += 4
				}
			}
			l.places[where{object, sect, 4 * words}] = at[sect]
		}
		l.ends[sect] = at[sect]
	}
}

// leftOut tells whether a word is left out, its place being known already.
func (l *plainLinker) leftOut(object, sect, off int) bool {
	for i, r := range l.objects[object].Rels {
		if r.Sect != sect || off < r.Off {
			continue
		}
		if r.Kind == api.RelAlign && off < r.Off+r.Addend && l.places[where{object, sect, off}]%(r.Addend+4) == 0 {
			return true
		}
		if r.Kind == api.RelCall && off == r.Off+4 && l.short[[2]int{object, i}] {
			return true
		}
	}
	return false
}

// picture gives the image, or the faults of where all lies.
func (l *plainLinker) picture() (picture, api.Fault) {
	w, _ := l.named("_start")
	p := picture{start: l.places[w], atText: l.b.Text, atFar: l.b.Far, atData: l.b.Data}
	p.text = repeat((l.ends[1]-p.atText)/4, 0x13)
	p.far = repeat((l.ends[2]-p.atFar)/4, 0x13)
	p.data = repeat((l.ends[3]-p.atData)/4, 0)
	p.noughts = (l.ends[4] - l.ends[3]) / 4
	if p.clashes() {
		return picture{}, api.Fault{E: api.ErrClash}
	}
	var fault api.Fault
	l.each(func(object, i int, r api.Reloc, distance int) {
		bad := r.Kind == api.RelBranch && (distance < -4096 || distance > 4095) || r.Kind == api.RelJal && (distance < -1<<20 || distance > 1<<20-1)
		if bad && fault.E == api.OK {
			fault = api.Fault{E: api.ErrReach, At: object, Name: l.objects[object].Syms[r.Sym].Name}
		}
	})
	if fault.E == api.OK && !p.isImage() { // of that only the start is not asked yet
		fault.E = api.ErrStart
	}
	if fault.E != api.OK {
		return picture{}, fault
	}
	for object, o := range l.objects {
		l.copyWords(p.text, p.atText, object, 1, o.Text)
		l.copyWords(p.far, p.atFar, object, 2, o.Far)
		l.copyWords(p.data, p.atData, object, 3, o.Data)
	}
	l.each(func(object, i int, r api.Reloc, distance int) {
		base := []int{0, p.atText, p.atFar, p.atData}[r.Sect]
		first := [][]int{nil, p.text, p.far, p.data}[r.Sect][(l.places[where{object, r.Sect, r.Off}]-base)/4:]
		second := 0
		if o := l.objects[object]; r.Kind == api.RelCall {
			second = [][]int{nil, o.Text, o.Far}[r.Sect][r.Off/4+1]
		}
		changeWords(first, second, r, l.short[[2]int{object, i}], l.target(object, r), distance)
	})
	return p, api.Fault{}
}

// clashes tells whether regions meet or end above High.
func (p picture) clashes() bool {
	used := p.spreads()
	for i, r := range used {
		if r.at+4*r.words > 1<<30 {
			return true
		}
		for _, q := range used[:i] {
			if r.words > 0 && q.words > 0 && r.at+4*r.words > q.at && q.at+4*q.words > r.at {
				return true
			}
		}
	}
	return false
}

// copyWords lays the words that are not left out.
func (l *plainLinker) copyWords(to []int, base, object, sect int, words []int) {
	for i, w := range words {
		if !l.leftOut(object, sect, 4*i) {
			to[(l.places[where{object, sect, 4 * i}]-base)/4] = w
		}
	}
}

// changeWords changes the words of a relocation, whose number is 0 yet.
func changeWords(w []int, second int, r api.Reloc, short bool, target, distance int) {
	switch {
	case r.Kind == api.RelWord:
		w[0] = int(uint32(target + r.Addend))
	case r.Kind == api.RelBranch:
		w[0] = branchOf(w[0]>>12&7, w[0]>>15&31, w[0]>>20&31, distance)
	case r.Kind == api.RelJal:
		w[0] = jumpWord(w[0]>>7&31, distance)
	case r.Kind == api.RelCall && short:
		w[0] = jumpWord(second>>7&31, distance)
	case r.Kind == api.RelCall:
		changeParts(w, distance)
	case r.Kind == api.RelAddr:
		changeParts(w, target+r.Addend)
	}
}

// changeParts lays the parts of v in two words: whatever the low one is, the high one makes up for its sign.
func changeParts(w []int, v int) {
	low := int(int32(uint32(v)<<20) >> 20)
	w[0] |= int(uint32(v-low) >> 12 << 12)
	if w[1]&127 == 0x23 {
		w[1] |= low>>5&127<<25 | low&31<<7
	} else {
		w[1] |= low & 4095 << 20
	}
}
