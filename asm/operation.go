package asm

import (
	"linker/api"
	"linker/instr"
)

// The shapes of operations: which operands they have and what they lay. Those of code come first.
const (
	noShape      = 0
	regsShape    = 1  // rd,rs1,rs2
	shortShape   = 2  // rd,rs1,n
	upperShape   = 3  // lui rd,n
	loadShape    = 4  // lw, with a name or without
	storeShape   = 5  // sw, with a name or without
	jalrShape    = 6  // jalr rd,n(rs1)
	bareShape    = 7  // ecall, ret, nop
	branchShape  = 8  // rs1,rs2,name
	jalShape     = 9  // jal rd,name
	jumpShape    = 10 // j name
	moveShape    = 11 // mv rd,rs1
	numberShape  = 12 // li rd,n
	callShape    = 13 // call name, tail name
	addressShape = 14 // la rd,name
	lastCode     = 14
	sectionShape = 15 // .text .far .data .bss
	wordShape    = 16 // .word
	spaceShape   = 17 // .space
	alignShape   = 18 // .align
	bindShape    = 19 // .globl .weak
)

// shapeOf gives the shape of the operation of this name, noShape if there is none.
func shapeOf(s string) int {
	switch s {
	case "add", "sub", "slt", "sltu", "xor", "or", "and":
		return regsShape
	case "addi", "slti", "xori", "ori", "andi":
		return shortShape
	case "lui":
		return upperShape
	case "lw":
		return loadShape
	case "sw":
		return storeShape
	case "jalr":
		return jalrShape
	case "ecall", "ret", "nop":
		return bareShape
	case "beq", "bne", "blt", "bge", "bltu", "bgeu":
		return branchShape
	case "jal":
		return jalShape
	case "j":
		return jumpShape
	case "mv":
		return moveShape
	case "li":
		return numberShape
	case "call", "tail":
		return callShape
	case "la":
		return addressShape
	}
	return directiveShape(s)
}

func directiveShape(s string) int {
	switch s {
	case ".text", ".far", ".data", ".bss":
		return sectionShape
	case ".word":
		return wordShape
	case ".space":
		return spaceShape
	case ".align":
		return alignShape
	case ".globl", ".weak":
		return bindShape
	}
	return noShape
}

// operation does what the word says; the token behind it is at hand.
func (a *assembler) operation(word token) {
	shape := shapeOf(word.text)
	if shape == noShape {
		a.refuse(api.ErrOp, word.at)
		return
	}
	if !a.mayStand(shape) {
		a.refuse(api.ErrPlace, word.at)
		return
	}
	a.op = word
	if shape <= lastCode {
		a.instruction(shape, instr.Named(word.text))
		return
	}
	a.directive(shape)
}

// mayStand tells whether operations of this shape may stand in the section at hand.
func (a *assembler) mayStand(shape int) bool {
	if shape <= lastCode {
		return a.inCode()
	}
	return shape != wordShape || a.sect != api.Bss
}

func (a *assembler) inCode() bool {
	return a.sect == api.Text || a.sect == api.Far
}

// instruction reads the operands of an operation of code and lays it; op is the instruction of the same name, if there is one.
func (a *assembler) instruction(shape int, op int) {
	switch shape {
	case regsShape:
		a.threeRegisters(op)
	case shortShape:
		a.twoRegistersNumber(op)
	case upperShape:
		a.upper()
	case loadShape:
		a.load()
	case storeShape:
		a.store()
	case jalrShape:
		a.jumpRegister()
	case bareShape:
		a.bare()
	case branchShape:
		a.branch(op)
	case jalShape:
		a.jumpLink()
	case jumpShape:
		a.jump()
	case moveShape:
		a.move()
	case numberShape:
		a.loadNumber()
	case callShape:
		a.call()
	case addressShape:
		a.loadAddress()
	}
}

// directive reads the operands of an operation that may stand beside code, and does what it says.
func (a *assembler) directive(shape int) {
	switch shape {
	case sectionShape:
		a.section()
	case wordShape:
		a.word()
	case spaceShape:
		a.space()
	case alignShape:
		a.align()
	case bindShape:
		a.binding()
	}
}
