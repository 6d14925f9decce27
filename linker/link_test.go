package linker_test

import (
	"fmt"
	"strings"
	"testing"

	"linker/api"
	"linker/linker"
)

// At nearby all calls are short; at faraway those from text to far and back are not.
var nearby = api.Bases{Text: 4096, Far: 1 << 16, Data: 1 << 17}
var faraway = api.Bases{Text: 1 << 24, Far: 1 << 26, Data: 1 << 20}

// object gives the bytes of a text's object; for brevity ; stands for a line break.
func object(t *testing.T, text string) string {
	t.Helper()
	s, f := linker.Assemble(strings.ReplaceAll(text, ";", "\n"))
	if f != (api.Fault{}) {
		t.Fatalf("P9: Assemble(%q) = %v", text, f)
	}
	return s
}

func objects(t *testing.T, texts ...string) []string {
	t.Helper()
	var l []string
	for _, text := range texts {
		l = append(l, object(t, text))
	}
	return l
}

// written gives the bytes of an object that no text has.
func written(t *testing.T, o *api.Object) string {
	t.Helper()
	s, e := linker.Write(o)
	if e != api.OK {
		t.Fatalf("P5: Write(%+v) = %d", o, e)
	}
	return s
}

func packed(t *testing.T, ms ...string) string {
	t.Helper()
	s, e := linker.Pack(ms)
	if e != api.OK {
		t.Fatalf("P6: Pack = %d", e)
	}
	return s
}

// part gives an object whose text is the one word n, with symbols there: "f" is defined Global, "~f" Weak, ".f" Local, "?f" is Global and Undef, "?~f" Weak and Undef.
func part(t *testing.T, n int, syms ...string) string {
	t.Helper()
	text := ""
	for _, s := range syms {
		name := strings.TrimLeft(s, "?~.")
		switch {
		case strings.Contains(s, "~"):
			text += ".weak " + name + ";"
		case !strings.HasPrefix(s, "."):
			text += ".globl " + name + ";"
		}
		if !strings.HasPrefix(s, "?") {
			text += name + ":;"
		}
	}
	return object(t, fmt.Sprint(text, ".word ", n))
}

// answer links, and holds what comes out against plainLink's answer and the promises that hold of all links.
func answer(t *testing.T, files []string, b api.Bases) (picture, api.Fault) {
	t.Helper()
	s, f := linker.Link(files, b)
	p, fault := plainLink(files, b)
	if f != fault {
		t.Fatalf("P12 to P14: Link(%x, %v) = %v, want %v", files, b, f, fault)
	}
	if f.E != api.OK {
		if s != "" {
			t.Fatalf("P1: Link(%x, %v) = %x beside %v", files, b, s, f)
		}
		return picture{}, f
	}
	if s != p.bytes() {
		t.Fatalf("P14, P15: Link(%x, %v) =\n%x, want\n%x", files, b, s, p.bytes())
	}
	if m, e := linker.Load(s); m == nil || e != api.OK {
		t.Fatalf("P10: Load of Link(%x, %v) = %d", files, b, e)
	}
	return p, f
}

// wantFault tells which fault a link has.
func wantFault(t *testing.T, files []string, b api.Bases, e api.Errno, at int, name string) {
	t.Helper()
	want := api.Fault{E: e, At: at, Name: name}
	if s, f := linker.Link(files, b); f != want || s != "" && e != api.OK {
		t.Errorf("P12 to P14: Link of %d files at %v = %x, %v, want %v", len(files), b, s, f, want)
	}
	answer(t, files, b)
}

// wantText tells the words of the text that a link gives.
func wantText(t *testing.T, files []string, b api.Bases, want ...int) {
	t.Helper()
	wantWords(t, files, b, want, nil, nil, -1)
}

// wantWords tells what a link gives: the words of text, far and data where they are told, and the noughts unless they are -1.
func wantWords(t *testing.T, files []string, b api.Bases, text, far, data []int, noughts int) {
	t.Helper()
	s, f := linker.Link(files, b)
	p, ok := parsed(s)
	if f != (api.Fault{}) || !ok {
		t.Errorf("P12 to P15: Link of %d files at %v = %x, %v", len(files), b, s, f)
		return
	}
	for i, want := range [][]int{text, far, data} {
		if got := [][]int{p.text, p.far, p.data}[i]; want != nil && !equal(got, want) {
			t.Errorf("P12 to P15: Link of %d files at %v: of region %d %x, want %x", len(files), b, i, got, want)
		}
	}
	if noughts >= 0 && p.noughts != noughts {
		t.Errorf("P14: Link of %d files at %v: %d noughts, want %d", len(files), b, p.noughts, noughts)
	}
	answer(t, files, b)
}

// wantOut links, loads and runs, and tells what is printed ahead of an exit with 0.
func wantOut(t *testing.T, files []string, b api.Bases, in []int, want ...int) {
	t.Helper()
	answer(t, files, b)
	s, f := linker.Link(files, b)
	m, e := linker.Load(s)
	if f.E != api.OK || e != api.OK {
		t.Errorf("P12 to P15: Link at %v = %v, Load = %d", b, f, e)
		return
	}
	r, e := m.Run(in, api.MaxFuel)
	if e != api.OK || r.End != api.Exit || r.Code != 0 || !equal(r.Out, want) {
		t.Errorf("P15: linked at %v it runs to %+v, %d, want %v", b, r, e, want)
	}
}
