package linker_test

import (
	"reflect"
	"testing"

	"linker/api"
	"linker/linker"
)

// roomy gives a copy of a list with spare room that is full of fill.
func roomy[T any](l []T, fill T) []T {
	c := make([]T, len(l)+9)
	for i := range c {
		c[i] = fill
	}
	copy(c, l)
	return c[:len(l)]
}

// roomySample gives the sample with spare room behind every list.
func roomySample() *api.Object {
	o := sample()
	o.Text, o.Far, o.Data, o.Align = roomy(o.Text, 77), roomy(o.Far, 77), roomy(o.Data, 77), roomy(o.Align, 77)
	o.Syms = roomy(o.Syms, api.Symbol{Name: "spare"})
	o.Rels = roomy(o.Rels, api.Reloc{Sect: 77})
	return o
}

// unfold gives the object with all spare room taken in.
func unfold(o *api.Object) api.Object {
	return api.Object{Text: o.Text[:cap(o.Text)], Far: o.Far[:cap(o.Far)], Data: o.Data[:cap(o.Data)], Bss: o.Bss, Align: o.Align[:cap(o.Align)], Syms: o.Syms[:cap(o.Syms)], Rels: o.Rels[:cap(o.Rels)]}
}

func TestP2WhatIsHandedInIsOnlyRead(t *testing.T) {
	o := roomySample()
	for range 3 {
		if s, e := linker.Write(o); e != api.OK || s != plainBytes(sample()) {
			t.Fatalf("P2: Write = %x, %d", s, e)
		}
		if !reflect.DeepEqual(unfold(o), unfold(roomySample())) {
			t.Fatalf("P2: Write wrote into what it was handed: %+v", unfold(o))
		}
	}
	o.Rels[3].Sym = 99
	if s, e := linker.Write(o); s != "" || e != api.ErrObject {
		t.Fatalf("P2: Write of no object = %x, %d", s, e)
	}
	o.Rels[3].Sym = sample().Rels[3].Sym
	if !reflect.DeepEqual(unfold(o), unfold(roomySample())) {
		t.Errorf("P2: Write wrote into what it refused: %+v", unfold(o))
	}
	good := []string{plainBytes(bare()), plainBytes(sample())}
	for _, ms := range [][]string{good, {good[0], "no object"}} {
		l := roomy(ms, "spare")
		linker.Pack(l)
		if l = l[:cap(l)]; !reflect.DeepEqual(l[:len(ms)], ms) || l[len(ms)] != "spare" || l[len(l)-1] != "spare" {
			t.Errorf("P2: Pack wrote into what it was handed: %q", l)
		}
	}
}

func TestP2WhatIsHandedInIsNotKept(t *testing.T) {
	o := sample()
	s, _ := linker.Write(o)
	o.Text[0], o.Align[0], o.Syms[0].Name, o.Rels[0].Kind = 99, 99, "ZZ", 99
	if s != plainBytes(sample()) {
		t.Errorf("P2: Write's bytes change with the object: %x", s)
	}
	ms := []string{plainBytes(bare()), plainBytes(sample())}
	a, _ := linker.Pack(ms)
	ms[0] = ms[1]
	if want := plainArchive(2, plainBytes(bare()), ms[1]); a != want {
		t.Errorf("P2: Pack's bytes change with the list: %x", a)
	}
}

// scribble fills a list and its spare room.
func scribble[T any](l []T, fill T) {
	l = l[:cap(l)]
	for i := range l {
		l[i] = fill
	}
}

func TestP2ListsOfAnObjectAreApart(t *testing.T) {
	for list := range 6 {
		o, e := linker.Read(plainBytes(sample()))
		if e != api.OK {
			t.Fatalf("P5: Read = %d", e)
		}
		want := sample()
		switch list {
		case 0:
			scribble(o.Text, 77)
			o.Text = want.Text
		case 1:
			scribble(o.Far, 77)
			o.Far = want.Far
		case 2:
			scribble(o.Data, 77)
			o.Data = want.Data
		case 3:
			scribble(o.Align, 77)
			o.Align = want.Align
		case 4:
			scribble(o.Syms, api.Symbol{Name: "mine"})
			o.Syms = want.Syms
		case 5:
			scribble(o.Rels, api.Reloc{Sect: 77})
			o.Rels = want.Rels
		}
		if !same(o, want) {
			t.Errorf("P2: writing into list %d changed another: %+v", list, o)
		}
	}
}

func TestP2WhatComesOutIsTheCallers(t *testing.T) {
	s, a := plainBytes(sample()), plainArchive(3, plainBytes(sample()), plainBytes(bare()), plainBytes(full()))
	first, _ := linker.Read(s)
	second, _ := linker.Read(s)
	members, _ := linker.Members(a)
	others, _ := linker.Members(a)
	scribble(first.Text, 77)
	scribble(first.Far, 77)
	scribble(first.Data, 77)
	scribble(first.Align, 77)
	scribble(first.Syms, api.Symbol{Name: "mine"})
	scribble(first.Rels, api.Reloc{Sect: 77})
	scribble(members, "mine")
	third, e := linker.Read(s)
	if e != api.OK || !same(second, sample()) || !same(third, sample()) {
		t.Errorf("P2: Read behind what the caller wrote = %+v and %+v, %d", second, third, e)
	}
	again, e := linker.Members(a)
	want := []string{plainBytes(sample()), plainBytes(bare()), plainBytes(full())}
	if e != api.OK || !equal(others, want) || !equal(again, want) {
		t.Errorf("P2: Members behind what the caller wrote = %q and %q, %d", others, again, e)
	}
}

func TestP2NoAnswerHangsOnCallsAhead(t *testing.T) {
	calls := func() []string {
		var l []string
		for _, o := range []*api.Object{sample(), {}, full(), bare()} {
			s, _ := linker.Write(o)
			a, _ := linker.Pack([]string{s, s})
			l = append(l, s, a)
		}
		return l
	}
	want := calls()
	linker.Read("LK")
	linker.Members("AR\x06")
	linker.Pack([]string{"no object"})
	linker.Write(&api.Object{Bss: -1})
	if got := calls(); !equal(got, want) {
		t.Errorf("P2: the same calls answer otherwise the second time")
	}
}
