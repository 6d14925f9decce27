// Package asm: modules of text, assembled to objects (P7 to P9).
package asm

import (
	"linker/api"
	"linker/object"
)

// assembler goes through a text with one token at hand. With the first fault it gives up: no token is at hand from then on, and faults that are met later do not count.
type assembler struct {
	scan  scanner
	tok   token
	fault api.Fault
	op    token // the operation at hand
	sect  int   // the section at hand
	obj   *api.Object
}

// Assemble gives the bytes of a module's object (P7 to P9).
func Assemble(text string) (string, api.Fault) {
	if len(text) > api.MaxText {
		return "", api.Fault{E: api.ErrLong}
	}
	a := assembler{scan: scanner{text: text}, sect: api.Text}
	a.obj = &api.Object{Align: []int{minBorder, minBorder, minBorder, minBorder}}
	for more := true; more; {
		a.line()
		more = a.nextLine()
	}
	if a.failed() {
		return "", a.fault
	}
	a.bindRest()
	a.orderRelocs()
	bytes, e := object.Write(a.obj)
	return bytes, api.Fault{E: e}
}

func (a *assembler) failed() bool {
	return a.fault.E != api.OK
}

// refuse gives the text up, at its first fault.
func (a *assembler) refuse(e api.Errno, at int) {
	if a.failed() {
		return
	}
	a.fault = api.Fault{E: e, At: at}
	a.tok = token{}
}

// advance uses the token at hand up: the next one is looked at.
func (a *assembler) advance() {
	if a.failed() {
		return
	}
	tok, fault := a.scan.next()
	if fault.E != api.OK {
		a.refuse(fault.E, fault.At)
		return
	}
	a.tok = tok
}

// nextLine tells whether there is a line to be read yet.
func (a *assembler) nextLine() bool {
	if a.failed() {
		return false
	}
	return a.scan.nextLine()
}

// line reads a line: perhaps a label, perhaps an operation, the end.
func (a *assembler) line() {
	a.advance()
	word := a.takeWord()
	if word.kind == wordToken && a.tok.is(":") {
		a.label(word)
		a.advance()
		word = a.takeWord()
	}
	if word.kind == wordToken {
		a.operation(word)
	}
	if a.tok.kind != endToken {
		a.refuse(api.ErrSyntax, a.tok.at)
	}
}

// takeWord uses the word at hand up, and gives it; no token, if none is at hand.
func (a *assembler) takeWord() token {
	if a.tok.kind != wordToken {
		return token{}
	}
	word := a.tok
	a.advance()
	return word
}
