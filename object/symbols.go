package object

import "linker/api"

func validSymbols(o *api.Object) bool {
	for i, sym := range o.Syms {
		if !validSymbol(o, sym) || named(o.Syms[:i], sym.Name) {
			return false
		}
	}
	return true
}

func validSymbol(o *api.Object, sym api.Symbol) bool {
	if !isName(sym.Name) {
		return false
	}
	if sym.Bind < api.Local || sym.Bind > api.Weak || sym.Sect < api.Undef || sym.Sect > api.Bss {
		return false
	}
	if sym.Sect == api.Undef && sym.Bind == api.Local {
		return false
	}
	return sym.Off >= 0 && sym.Off%4 == 0 && sym.Off <= lengthOf(o, sym.Sect)
}

// named tells whether one of the symbols has this name.
func named(syms []api.Symbol, name string) bool {
	for _, sym := range syms {
		if sym.Name == name {
			return true
		}
	}
	return false
}

func isName(s string) bool {
	if len(s) < 1 || len(s) > api.MaxName || isDigit(s[0]) {
		return false
	}
	for i := 0; i < len(s); i++ {
		c := s[i]
		if c != '_' && !isDigit(c) && (c < 'a' || c > 'z') {
			return false
		}
	}
	return true
}

func isDigit(c byte) bool {
	return c >= '0' && c <= '9'
}
