package link

import (
	"linker/api"
	"linker/image"
)

// checkPlaces tells the first fault of where all lies (P14).
func (p *program) checkPlaces(made *image.Image) api.Fault {
	if !made.Fits() {
		return api.Fault{E: api.ErrClash}
	}
	fault := p.checkReach()
	if fault.E != api.OK {
		return fault
	}
	_, starts := made.Code(made.Start)
	if !starts {
		return api.Fault{E: api.ErrStart}
	}
	return api.Fault{}
}

// checkReach tells of the first branch or jump that does not reach its symbol.
func (p *program) checkReach() api.Fault {
	for i, m := range p.modules {
		for _, rel := range m.obj.Rels {
			if !reaches(rel.Kind, m.distance(rel)) {
				return api.Fault{E: api.ErrReach, At: i, Name: m.symbolName(rel.Sym)}
			}
		}
	}
	return api.Fault{}
}

// reaches tells whether a relocation's words have room for a distance. Those of calls always have, for all addresses are nearer than 2^31.
func reaches(kind int, distance int) bool {
	switch kind {
	case api.RelBranch:
		return distance >= -4096 && distance <= 4095
	case api.RelJal:
		return distance >= -1<<20 && distance <= 1<<20-1
	}
	return true
}

func (m *module) symbolName(i int) string {
	if i < 0 || i >= len(m.obj.Syms) {
		return ""
	}
	return m.obj.Syms[i].Name
}
