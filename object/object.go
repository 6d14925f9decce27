// Package object: what an object is (P4), and its bytes (P5).
package object

import (
	"linker/api"
	"linker/wire"
)

// mark is what an object's bytes begin with.
const mark = "LK"

// Write gives an object's bytes (P5).
func Write(o *api.Object) (string, api.Errno) {
	if o == nil || !valid(o) {
		return "", api.ErrObject
	}
	w := wire.Writer{}
	w.Text(mark)
	w.Number(len(o.Text), 2)
	w.Number(len(o.Far), 2)
	w.Number(len(o.Data), 2)
	w.Number(o.Bss, 2)
	w.Numbers(o.Align, 1)
	w.Number(len(o.Syms), 1)
	w.Number(len(o.Rels), 1)
	for _, sym := range o.Syms {
		writeSymbol(&w, sym)
	}
	for _, rel := range o.Rels {
		writeReloc(&w, rel)
	}
	w.Numbers(o.Text, 4)
	w.Numbers(o.Far, 4)
	w.Numbers(o.Data, 4)
	return w.Bytes(), api.OK
}

func writeSymbol(w *wire.Writer, sym api.Symbol) {
	w.Number(len(sym.Name), 1)
	w.Text(sym.Name)
	w.Number(sym.Bind, 1)
	w.Number(sym.Sect, 1)
	w.Number(sym.Off, 2)
}

func writeReloc(w *wire.Writer, rel api.Reloc) {
	w.Number(rel.Sect, 1)
	w.Number(rel.Kind, 1)
	w.Number(rel.Off, 2)
	w.Number(rel.Sym, 1)
	w.Number(rel.Addend, 2)
}

// Read gives the object that bytes are (P5). Reading to the end loses nothing, so that of a valid object Write gives just these bytes again.
func Read(s string) (*api.Object, api.Errno) {
	r := wire.NewReader(s)
	o := readObject(&r)
	if o == nil || !r.Done() || !valid(o) {
		return nil, api.ErrObject
	}
	return o, api.OK
}

// readObject reads what stands in the places of an object's parts, be they valid or not; nil if the bytes begin otherwise than an object's.
func readObject(r *wire.Reader) *api.Object {
	if r.Text(len(mark)) != mark {
		return nil
	}
	text := r.Number(2)
	far := r.Number(2)
	data := r.Number(2)
	o := &api.Object{}
	o.Bss = r.Number(2)
	o.Align = r.Numbers(4, 1)
	syms := r.Number(1)
	rels := r.Number(1)
	o.Syms = readSymbols(r, syms)
	o.Rels = readRelocs(r, rels)
	o.Text = r.Numbers(text, 4)
	o.Far = r.Numbers(far, 4)
	o.Data = r.Numbers(data, 4)
	return o
}

func readSymbols(r *wire.Reader, count int) []api.Symbol {
	var list []api.Symbol
	for i := 0; i < count && !r.Short(); i++ {
		sym := readSymbol(r)
		list = append(list, sym)
	}
	return list
}

func readSymbol(r *wire.Reader) api.Symbol {
	sym := api.Symbol{}
	length := r.Number(1)
	sym.Name = r.Text(length)
	sym.Bind = r.Number(1)
	sym.Sect = r.Number(1)
	sym.Off = r.Number(2)
	return sym
}

func readRelocs(r *wire.Reader, count int) []api.Reloc {
	var list []api.Reloc
	for i := 0; i < count && !r.Short(); i++ {
		rel := readReloc(r)
		list = append(list, rel)
	}
	return list
}

func readReloc(r *wire.Reader) api.Reloc {
	rel := api.Reloc{}
	rel.Sect = r.Number(1)
	rel.Kind = r.Number(1)
	rel.Off = r.Number(2)
	rel.Sym = r.Number(1)
	rel.Addend = r.Number(2)
	if rel.Addend >= 32768 {
		rel.Addend -= 65536
	}
	return rel
}
