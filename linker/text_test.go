package linker_test

import (
	"testing"

	"linker/api"
	"linker/linker"
)

// told is a text and the fault that is told of it; api.OK, if it has none.
type told struct {
	text string
	e    api.Errno
	at   int
}

func tellFaults(t *testing.T, promise string, l []told) {
	t.Helper()
	for _, c := range l {
		s, f := linker.Assemble(c.text)
		want := api.Fault{E: c.e, At: c.at}
		if f != want || (s == "") != (c.e != api.OK) {
			t.Errorf("%s: Assemble(%q) = %x, %v, want %v", promise, c.text, s, f, want)
		}
	}
}

// assembled gives the object of a text that has no fault.
func assembled(t *testing.T, text string) *api.Object {
	t.Helper()
	s, f := linker.Assemble(text)
	if f != (api.Fault{}) {
		t.Fatalf("P9: Assemble(%q) = %v", text, f)
	}
	o, e := linker.Read(s)
	if e != api.OK || !isObject(o) {
		t.Fatalf("P9: Assemble(%q) = %x, which is no object", text, s)
	}
	return o
}
