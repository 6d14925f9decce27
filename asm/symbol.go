package asm

import (
	"linker/api"
	"linker/object"
)

// checkName refuses a word that is no symbol's name (P8).
func (a *assembler) checkName(word token) {
	if hasPoint(word.text) {
		a.refuse(api.ErrSyntax, word.at)
	}
	if len(word.text) > api.MaxName {
		a.refuse(api.ErrName, word.at)
	}
	if _, ok := registerNamed(word.text); ok {
		a.refuse(api.ErrReg, word.at)
	}
}

func hasPoint(s string) bool {
	for i := 0; i < len(s); i++ {
		if s[i] == '.' {
			return true
		}
	}
	return false
}

// symbolNamed gives the place of the symbol of this name, a new one if the name comes for the first time; false if there is a fault.
func (a *assembler) symbolNamed(word token) (int, bool) {
	if a.failed() {
		return 0, false
	}
	for i, sym := range a.obj.Syms {
		if sym.Name == word.text {
			return i, true
		}
	}
	if len(a.obj.Syms) >= api.MaxSyms {
		a.refuse(api.ErrSyms, word.at)
		return 0, false
	}
	a.obj.Syms = append(a.obj.Syms, api.Symbol{Name: word.text})
	return len(a.obj.Syms) - 1, true
}

// label lets the symbol of this name stand at the end of what was laid so far. A symbol that no label stood for yet is Undef.
func (a *assembler) label(word token) {
	a.checkName(word)
	sym, ok := a.symbolNamed(word)
	if !ok {
		return
	}
	if a.obj.Syms[sym].Sect != api.Undef {
		a.refuse(api.ErrTwice, word.at)
		return
	}
	a.obj.Syms[sym].Sect = a.sect
	a.obj.Syms[sym].Off = object.Length(a.obj, a.sect)
}

// bind says of a symbol that it is Global or Weak. One of which nothing was said yet is Local.
func (a *assembler) bind(binding int) {
	word := a.name()
	sym, ok := a.symbolNamed(word)
	if !ok {
		return
	}
	if a.obj.Syms[sym].Bind != api.Local {
		a.refuse(api.ErrLocal, word.at)
		return
	}
	a.obj.Syms[sym].Bind = binding
}

// bindRest makes the symbols Global that neither a label stands for nor anything was said of.
func (a *assembler) bindRest() {
	for i := range a.obj.Syms {
		if a.obj.Syms[i].Sect == api.Undef && a.obj.Syms[i].Bind == api.Local {
			a.obj.Syms[i].Bind = api.Global
		}
	}
}
