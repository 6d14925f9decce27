package asm

import (
	"linker/api"
	"linker/instr"
	"linker/object"
)

// section goes to the section that the operation names.
func (a *assembler) section() {
	switch a.op.text {
	case ".text":
		a.sect = api.Text
	case ".far":
		a.sect = api.Far
	case ".data":
		a.sect = api.Data
	case ".bss":
		a.sect = api.Bss
	}
}

// binding says of a name that it is Global or Weak.
func (a *assembler) binding() {
	if a.op.text == ".globl" {
		a.bind(api.Global)
		return
	}
	a.bind(api.Weak)
}

func (a *assembler) word() {
	if a.tok.kind == wordToken {
		sym, addend := a.target()
		a.layWith(api.RelWord, sym, addend, []int{0})
		return
	}
	n := a.number(minSigned, instr.MaxWord)
	a.lay([]int{n & instr.MaxWord})
}

func (a *assembler) space() {
	n := a.number(0, 4*api.MaxCode)
	if n%4 != 0 {
		a.refuse(api.ErrRange, a.op.at)
		return
	}
	a.lay(repeated(0, n/4))
}

// align brings what follows to a border. In code only a link can tell how many words that takes, so that as many are laid as it may take.
func (a *assembler) align() {
	k := a.number(minBorder, maxBorder)
	if a.failed() {
		return
	}
	border := 1 << uint(k)
	if !a.inCode() {
		over := object.Length(a.obj, a.sect) % border
		a.lay(repeated(0, (border-over)%border/4))
	} else if k > minBorder {
		a.layWith(api.RelAlign, 0, border-4, repeated(instr.Nop, border/4-1))
	}
	a.raiseBorder(k)
}
