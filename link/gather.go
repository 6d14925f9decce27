package link

import (
	"linker/api"
	"linker/archive"
	"linker/image"
	"linker/object"
)

// file is a file that was read: one object, or the members of an archive.
type file struct {
	archive bool
	members []member
}

// member is an object of a file, and whether it takes part.
type member struct {
	obj   *api.Object
	taken bool
}

// gather gives the program of all that takes part (P12). All files are read ahead of the first that takes part, for one that is none is a fault whatever the others want.
func gather(files []string, bases api.Bases) (*program, api.Fault) {
	fault := checkBases(bases)
	if fault.E != api.OK {
		return nil, fault
	}
	if len(files) < 1 || len(files) > api.MaxFiles {
		return nil, api.Fault{E: api.ErrFiles}
	}
	var list []file
	for i, s := range files {
		f, ok := readFile(s)
		if !ok {
			return nil, api.Fault{E: api.ErrFile, At: i}
		}
		list = append(list, f)
	}
	p := &program{bases: bases}
	for _, f := range list {
		p.takeFile(f)
	}
	return p, api.Fault{}
}

func checkBases(bases api.Bases) api.Fault {
	for i, base := range [3]int{bases.Text, bases.Far, bases.Data} {
		if !image.IsBase(base) {
			return api.Fault{E: api.ErrBase, At: i}
		}
	}
	return api.Fault{}
}

// readFile gives the file that bytes are; false, if they are neither an object's nor an archive's.
func readFile(s string) (file, bool) {
	single, e := object.Read(s)
	if e == api.OK {
		return file{members: []member{{obj: single}}}, true
	}
	list, e := archive.Members(s)
	if e != api.OK {
		return file{}, false
	}
	f := file{archive: true}
	for _, bytes := range list {
		o, e := object.Read(bytes)
		if e != api.OK {
			return file{}, false
		}
		f.members = append(f.members, member{obj: o})
	}
	return f, true
}

func (p *program) takeFile(f file) {
	if f.archive {
		p.takeArchive(f.members)
		return
	}
	for _, single := range f.members {
		p.take(single.obj)
	}
}

func (p *program) take(o *api.Object) {
	p.modules = append(p.modules, &module{obj: o})
}

// takeArchive goes through an archive's members again and again. It ends, for each time but the last takes one at least.
func (p *program) takeArchive(members []member) {
	for more := true; more; {
		more = false
		for i := range members {
			if !members[i].taken && p.needs(members[i].obj) {
				members[i].taken = true
				p.take(members[i].obj)
				more = true
			}
		}
	}
}

// needs tells whether o defines a name that is wanted so far and not defined yet.
func (p *program) needs(o *api.Object) bool {
	for _, sym := range o.Syms {
		if defines(sym) && p.wants(sym.Name) && !p.has(sym.Name) {
			return true
		}
	}
	return false
}

// wants tells whether a module wants the name.
func (p *program) wants(name string) bool {
	for _, m := range p.modules {
		for _, sym := range m.obj.Syms {
			if sym.Name == name && wanted(sym) {
				return true
			}
		}
	}
	return false
}

// has tells whether a module defines the name.
func (p *program) has(name string) bool {
	for _, m := range p.modules {
		for _, sym := range m.obj.Syms {
			if sym.Name == name && defines(sym) {
				return true
			}
		}
	}
	return false
}

func defines(sym api.Symbol) bool {
	return sym.Bind != api.Local && sym.Sect != api.Undef
}

func wanted(sym api.Symbol) bool {
	return sym.Bind == api.Global && sym.Sect == api.Undef
}
