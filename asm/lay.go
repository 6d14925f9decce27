package asm

import (
	"linker/api"
	"linker/instr"
	"linker/object"
)

func (a *assembler) layOne(i instr.Instr) {
	word := instr.Encode(i)
	a.lay([]int{word})
}

// layAddress lays lui of reg, then second, which goes on with reg and has the rest of the symbol's address.
func (a *assembler) layAddress(reg int, second instr.Instr, sym int, addend int) {
	if reg == 0 {
		a.refuse(api.ErrReg, a.op.at)
	}
	first := instr.Encode(instr.Instr{Op: instr.Lui, Rd: reg})
	rest := instr.Encode(second)
	a.layWith(api.RelAddr, sym, addend, []int{first, rest})
}

// layWith lays words with a relocation that is about them.
func (a *assembler) layWith(kind int, sym int, addend int, words []int) {
	if len(a.obj.Rels) >= api.MaxRelocs {
		a.refuse(api.ErrRelocs, a.op.at)
	}
	if a.failed() {
		return
	}
	off := object.Length(a.obj, a.sect)
	a.obj.Rels = append(a.obj.Rels, api.Reloc{Sect: a.sect, Off: off, Kind: kind, Sym: sym, Addend: addend})
	a.lay(words)
}

// lay lays words at the end of the section at hand, if it has the room.
func (a *assembler) lay(words []int) {
	length := object.Length(a.obj, a.sect) + 4*len(words)
	if length > 4*a.limit() {
		a.refuse(api.ErrSize, a.op.at)
	}
	if a.failed() {
		return
	}
	switch a.sect {
	case api.Text:
		a.obj.Text = append(a.obj.Text, words...)
	case api.Far:
		a.obj.Far = append(a.obj.Far, words...)
	case api.Data:
		a.obj.Data = append(a.obj.Data, words...)
	case api.Bss:
		a.obj.Bss += len(words)
	}
}

// limit tells how many words the section at hand may have.
func (a *assembler) limit() int {
	switch a.sect {
	case api.Data:
		return api.MaxData
	case api.Bss:
		return api.MaxBss
	}
	return api.MaxCode
}

// raiseBorder makes the border of the section at hand k, if it was less.
func (a *assembler) raiseBorder(k int) {
	place := a.sect - 1
	if place < 0 || place >= len(a.obj.Align) {
		return
	}
	if a.obj.Align[place] < k {
		a.obj.Align[place] = k
	}
}

func repeated(word int, count int) []int {
	var list []int
	for i := 0; i < count; i++ {
		list = append(list, word)
	}
	return list
}

// orderRelocs brings the relocations of each section together; within one they stay as they came.
func (a *assembler) orderRelocs() {
	var list []api.Reloc
	for sect := api.Text; sect <= api.Data; sect++ {
		for _, rel := range a.obj.Rels {
			if rel.Sect == sect {
				list = append(list, rel)
			}
		}
	}
	a.obj.Rels = list
}
