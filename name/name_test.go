package name

import "testing"

func TestIs(t *testing.T) {
	for _, s := range []string{"a", "z", "_", "_9", "abcdef", "a_1_2_", "x31", "_start"} {
		if !Is(s) {
			t.Errorf("Is(%q) = false", s)
		}
	}
	for _, s := range []string{"", "9", "0a", "abcdefg", "A", "aB", "a.", ".a", "a b", "a-", "`", "{", "é", "a\x00"} {
		if Is(s) {
			t.Errorf("Is(%q) = true", s)
		}
	}
}
