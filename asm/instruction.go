package asm

import (
	"linker/api"
	"linker/instr"
)

// The registers of call and tail.
const (
	linkReg = 1
	tailReg = 6
)

func (a *assembler) threeRegisters(op int) {
	rd := a.register()
	a.sign(",")
	rs1 := a.register()
	a.sign(",")
	rs2 := a.register()
	a.layOne(instr.Instr{Op: op, Rd: rd, Rs1: rs1, Rs2: rs2})
}

func (a *assembler) twoRegistersNumber(op int) {
	rd := a.register()
	a.sign(",")
	rs1 := a.register()
	a.sign(",")
	n := a.number(minShort, maxShort)
	a.layOne(instr.Instr{Op: op, Rd: rd, Rs1: rs1, N: n})
}

func (a *assembler) upper() {
	rd := a.register()
	a.sign(",")
	n := a.number(0, maxUpper)
	a.layOne(instr.Instr{Op: instr.Lui, Rd: rd, N: n})
}

func (a *assembler) load() {
	rd := a.register()
	a.sign(",")
	if a.tok.kind != wordToken {
		n, rs1 := a.place()
		a.layOne(instr.Instr{Op: instr.Lw, Rd: rd, Rs1: rs1, N: n})
		return
	}
	sym, addend := a.target()
	a.layAddress(rd, instr.Instr{Op: instr.Lw, Rd: rd, Rs1: rd}, sym, addend)
}

func (a *assembler) store() {
	rs := a.register()
	a.sign(",")
	if a.tok.kind != wordToken {
		n, rs1 := a.place()
		a.layOne(instr.Instr{Op: instr.Sw, Rs1: rs1, Rs2: rs, N: n})
		return
	}
	sym, addend := a.target()
	a.sign(",")
	rt := a.register()
	a.layAddress(rt, instr.Instr{Op: instr.Sw, Rs1: rt, Rs2: rs}, sym, addend)
}

func (a *assembler) loadAddress() {
	rd := a.register()
	a.sign(",")
	sym, addend := a.target()
	a.layAddress(rd, instr.Instr{Op: instr.Addi, Rd: rd, Rs1: rd}, sym, addend)
}

func (a *assembler) jumpRegister() {
	rd := a.register()
	a.sign(",")
	n, rs1 := a.place()
	a.layOne(instr.Instr{Op: instr.Jalr, Rd: rd, Rs1: rs1, N: n})
}

func (a *assembler) bare() {
	switch a.op.text {
	case "ecall":
		a.layOne(instr.Instr{Op: instr.Ecall})
	case "ret":
		a.layOne(instr.Instr{Op: instr.Jalr, Rs1: linkReg})
	case "nop":
		a.layOne(instr.Instr{Op: instr.Addi})
	}
}

func (a *assembler) branch(op int) {
	rs1 := a.register()
	a.sign(",")
	rs2 := a.register()
	a.sign(",")
	sym := a.symbol()
	word := instr.Encode(instr.Instr{Op: op, Rs1: rs1, Rs2: rs2})
	a.layWith(api.RelBranch, sym, 0, []int{word})
}

func (a *assembler) jumpLink() {
	rd := a.register()
	a.sign(",")
	a.layJump(rd)
}

func (a *assembler) jump() {
	a.layJump(0)
}

// layJump lays jal of rd to the symbol whose name must be at hand.
func (a *assembler) layJump(rd int) {
	sym := a.symbol()
	word := instr.Encode(instr.Instr{Op: instr.Jal, Rd: rd})
	a.layWith(api.RelJal, sym, 0, []int{word})
}

func (a *assembler) move() {
	rd := a.register()
	a.sign(",")
	rs1 := a.register()
	a.layOne(instr.Instr{Op: instr.Addi, Rd: rd, Rs1: rs1})
}

func (a *assembler) loadNumber() {
	rd := a.register()
	a.sign(",")
	n := a.number(minSigned, maxSigned)
	if n >= minShort && n <= maxShort {
		a.layOne(instr.Instr{Op: instr.Addi, Rd: rd, N: n})
		return
	}
	high, low := instr.Parts(n)
	first := instr.Encode(instr.Instr{Op: instr.Lui, Rd: rd, N: high})
	second := instr.Encode(instr.Instr{Op: instr.Addi, Rd: rd, Rs1: rd, N: low})
	a.lay([]int{first, second})
}

func (a *assembler) call() {
	rd, through := linkReg, linkReg
	if a.op.text == "tail" {
		rd, through = 0, tailReg
	}
	sym := a.symbol()
	first := instr.Encode(instr.Instr{Op: instr.Auipc, Rd: through})
	second := instr.Encode(instr.Instr{Op: instr.Jalr, Rd: rd, Rs1: through})
	a.layWith(api.RelCall, sym, 0, []int{first, second})
}
