package asm

import (
	"linker/api"
	"linker/name"
)

// The bounds of numbers: minShort and maxShort where nothing else is told.
const (
	minShort  = -2048
	maxShort  = 2047
	maxUpper  = 1<<20 - 1
	minSigned = -1 << 31
	maxSigned = 1<<31 - 1
	minBorder = 2
	maxBorder = 4
)

// sign uses up the sign that must be at hand.
func (a *assembler) sign(sign string) {
	if !a.tok.is(sign) {
		a.refuse(api.ErrSyntax, a.tok.at)
		return
	}
	a.advance()
}

// register gives the register that must be at hand.
func (a *assembler) register() int {
	if a.tok.kind != wordToken {
		a.refuse(api.ErrSyntax, a.tok.at)
		return 0
	}
	reg, ok := registerNamed(a.tok.text)
	if !ok {
		a.refuse(api.ErrReg, a.tok.at)
		return 0
	}
	a.advance()
	return reg
}

// registerNamed gives the register that a word is, x0 to x31, and whether it is one.
func registerNamed(s string) (int, bool) {
	if len(s) < 2 || len(s) > 3 || s[0] != 'x' || s[1] == '0' && len(s) > 2 {
		return 0, false
	}
	reg := 0
	for i := 1; i < len(s); i++ {
		if !name.IsDigit(s[i]) {
			return 0, false
		}
		reg = 10*reg + int(s[i]-'0')
	}
	if reg > 31 {
		return 0, false
	}
	return reg, true
}

// number gives the number that must be at hand, perhaps with a minus ahead. It is held against its bounds ahead of the token behind it.
func (a *assembler) number(low int, high int) int {
	from := a.tok.at
	unit := 1
	if a.tok.is("-") {
		unit = -1
		a.advance()
	}
	if a.tok.kind != numberToken {
		a.refuse(api.ErrSyntax, a.tok.at)
		return 0
	}
	n := unit * a.tok.n
	if n < low || n > high {
		a.refuse(api.ErrRange, from)
		return 0
	}
	a.advance()
	return n
}

// name gives the name that must be at hand.
func (a *assembler) name() token {
	word := a.tok
	if word.kind != wordToken {
		a.refuse(api.ErrSyntax, word.at)
		return token{}
	}
	a.checkName(word)
	a.advance()
	return word
}

// symbol gives the symbol whose name must be at hand.
func (a *assembler) symbol() int {
	word := a.name()
	sym, _ := a.symbolNamed(word)
	return sym
}

// target gives the symbol and the addend of name[+n or -n].
func (a *assembler) target() (int, int) {
	sym := a.symbol()
	addend := 0
	if a.tok.is("+") {
		a.advance()
		addend = a.number(0, maxShort)
	} else if a.tok.is("-") {
		a.advance()
		addend = -a.number(0, -minShort)
	}
	return sym, addend
}

// place gives the number and the register of n(rs1).
func (a *assembler) place() (int, int) {
	n := a.number(minShort, maxShort)
	a.sign("(")
	reg := a.register()
	a.sign(")")
	return n, reg
}
