package object

import (
	"linker/api"
	"linker/name"
)

func validSymbols(o *api.Object) bool {
	for i, sym := range o.Syms {
		if !validSymbol(o, sym) || named(o.Syms[:i], sym.Name) {
			return false
		}
	}
	return true
}

func validSymbol(o *api.Object, sym api.Symbol) bool {
	if !name.Is(sym.Name) {
		return false
	}
	if sym.Bind < api.Local || sym.Bind > api.Weak || sym.Sect < api.Undef || sym.Sect > api.Bss {
		return false
	}
	if sym.Sect == api.Undef && sym.Bind == api.Local {
		return false
	}
	return sym.Off >= 0 && sym.Off%4 == 0 && sym.Off <= Length(o, sym.Sect)
}

// named tells whether one of the symbols has this name.
func named(syms []api.Symbol, wanted string) bool {
	for _, sym := range syms {
		if sym.Name == wanted {
			return true
		}
	}
	return false
}
