package object

import (
	"linker/api"
	"linker/instr"
)

func validRelocs(o *api.Object) bool {
	for i, rel := range o.Rels {
		if !validReloc(o, rel) {
			return false
		}
		if i > 0 && !follows(o.Rels[i-1], rel) {
			return false
		}
	}
	return true
}

// validReloc tells whether rel is a relocation of o, but for its place among the others.
func validReloc(o *api.Object, rel api.Reloc) bool {
	if !validKind(rel) || !validAddend(rel) || !validSym(o, rel) {
		return false
	}
	if rel.Kind == api.RelAlign && Border(o, rel.Sect) < rel.Addend+4 {
		return false
	}
	return wordsGo(rel.Kind, About(o, rel)) && !symbolWithin(o, rel)
}

func validKind(rel api.Reloc) bool {
	switch rel.Sect {
	case api.Text, api.Far:
		return rel.Kind >= api.RelWord && rel.Kind <= api.RelAlign
	case api.Data:
		return rel.Kind == api.RelWord
	}
	return false
}

func validAddend(rel api.Reloc) bool {
	switch rel.Kind {
	case api.RelWord, api.RelAddr:
		return rel.Addend >= -2048 && rel.Addend <= 2047
	case api.RelAlign:
		return rel.Addend == 4 || rel.Addend == 12
	}
	return rel.Addend == 0
}

func validSym(o *api.Object, rel api.Reloc) bool {
	if rel.Kind == api.RelAlign {
		return rel.Sym == 0
	}
	return rel.Sym >= 0 && rel.Sym < len(o.Syms)
}

// Border gives the number of bytes of which a section begins at a multiple.
func Border(o *api.Object, sect int) int {
	if sect < api.Text || sect > len(o.Align) {
		return 0
	}
	border := o.Align[sect-1]
	return 1 << uint(border)
}

// Span tells how many words a relocation is about.
func Span(rel api.Reloc) int {
	switch rel.Kind {
	case api.RelCall, api.RelAddr:
		return 2
	case api.RelAlign:
		return rel.Addend / 4
	}
	return 1
}

// About gives the words that rel is about, none unless all of them lie in its section. The offset is held against the length ahead of any sum: one that is very great would overflow there.
func About(o *api.Object, rel api.Reloc) []int {
	list := Words(o, rel.Sect)
	count := Span(rel)
	if count < 1 || rel.Off < 0 || rel.Off%4 != 0 {
		return nil
	}
	first := rel.Off / 4
	if first > len(list)-count {
		return nil
	}
	return list[first : first+count]
}

// wordsGo tells whether the words go with a relocation of this kind. No words go with none.
func wordsGo(kind int, about []int) bool {
	if len(about) == 0 {
		return false
	}
	first := instr.Decode(about[0])
	switch kind {
	case api.RelWord:
		return about[0] == 0
	case api.RelBranch:
		return instr.IsBranch(first.Op) && first.N == 0
	case api.RelJal:
		return first.Op == instr.Jal && first.N == 0
	case api.RelCall, api.RelAddr:
		return len(about) == 2 && pairGoes(kind, first, instr.Decode(about[1]))
	case api.RelAlign:
		return allNops(about)
	}
	return false
}

// pairGoes tells whether two instructions are those of RelCall or RelAddr: the second goes on with the register that the first makes.
func pairGoes(kind int, first instr.Instr, second instr.Instr) bool {
	if first.Rd == 0 || second.Rs1 != first.Rd || first.N != 0 || second.N != 0 {
		return false
	}
	if kind == api.RelCall {
		return first.Op == instr.Auipc && second.Op == instr.Jalr
	}
	return first.Op == instr.Lui && (second.Op == instr.Addi || second.Op == instr.Lw || second.Op == instr.Sw)
}

func allNops(list []int) bool {
	for _, w := range list {
		if w != instr.Nop {
			return false
		}
	}
	return true
}

// symbolWithin tells whether a symbol stands between the words of rel, where a link could part or leave out what the symbol stands at.
func symbolWithin(o *api.Object, rel api.Reloc) bool {
	end := rel.Off + 4*Span(rel)
	for _, sym := range o.Syms {
		if sym.Sect == rel.Sect && sym.Off > rel.Off && sym.Off < end {
			return true
		}
	}
	return false
}

// follows tells whether rel may stand behind ahead, each being valid by itself.
func follows(ahead api.Reloc, rel api.Reloc) bool {
	if rel.Sect != ahead.Sect {
		return rel.Sect > ahead.Sect
	}
	return rel.Off >= ahead.Off+4*Span(ahead)
}
