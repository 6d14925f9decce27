// Package name: what names are (Words).
package name

import "linker/api"

// Is tells whether s is a name.
func Is(s string) bool {
	if len(s) < 1 || len(s) > api.MaxName || IsDigit(s[0]) {
		return false
	}
	for i := 0; i < len(s); i++ {
		if !MayHave(s[i]) {
			return false
		}
	}
	return true
}

// MayHave tells whether a name may have c in it.
func MayHave(c byte) bool {
	return c >= 'a' && c <= 'z' || c == '_' || IsDigit(c)
}

// IsDigit tells whether c is a digit.
func IsDigit(c byte) bool {
	return c >= '0' && c <= '9'
}
