package link

import "linker/api"

// startName is the name of what a program starts at.
const startName = "_start"

// resolve finds out what all names mean (P13).
func (p *program) resolve() api.Fault {
	for _, m := range p.modules {
		for _, sym := range m.obj.Syms {
			meant := p.meaning(m, sym)
			m.means = append(m.means, meant)
		}
	}
	p.start = p.named(startName)
	fault := p.checkTwice()
	if fault.E == api.OK {
		fault = p.checkWanted()
	}
	if fault.E == api.OK && p.start.sect != api.Text && p.start.sect != api.Far {
		fault = api.Fault{E: api.ErrStart}
	}
	return fault
}

// meaning tells what a symbol of m means.
func (p *program) meaning(m *module, sym api.Symbol) spot {
	if sym.Bind == api.Local {
		return spot{mod: m, sect: sym.Sect, off: sym.Off}
	}
	return p.named(sym.Name)
}

// named tells what a name means that is not Local.
func (p *program) named(name string) spot {
	global := find(p.modules, name, api.Global)
	if global.mod != nil {
		return global
	}
	return find(p.modules, name, api.Weak)
}

// find gives the first symbol of this name and binding that is defined.
func find(modules []*module, name string, bind int) spot {
	for _, m := range modules {
		for _, sym := range m.obj.Syms {
			if sym.Name == name && sym.Bind == bind && sym.Sect != api.Undef {
				return spot{mod: m, sect: sym.Sect, off: sym.Off}
			}
		}
	}
	return spot{}
}

// checkTwice tells of the first name that is defined Global a second time.
func (p *program) checkTwice() api.Fault {
	for i, m := range p.modules {
		for _, sym := range m.obj.Syms {
			if sym.Bind != api.Global || sym.Sect == api.Undef {
				continue
			}
			ahead := find(p.modules[:i], sym.Name, api.Global)
			if ahead.mod != nil {
				return api.Fault{E: api.ErrDup, At: i, Name: sym.Name}
			}
		}
	}
	return api.Fault{}
}

// checkWanted tells of the first name that is wanted and means nothing.
func (p *program) checkWanted() api.Fault {
	for i, m := range p.modules {
		for _, sym := range m.obj.Syms {
			if !wanted(sym) {
				continue
			}
			meant := p.named(sym.Name)
			if meant.mod == nil {
				return api.Fault{E: api.ErrUndef, At: i, Name: sym.Name}
			}
		}
	}
	return api.Fault{}
}
