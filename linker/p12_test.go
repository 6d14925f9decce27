package linker_test

import (
	"math"
	"testing"

	"linker/api"
)

// based gives nearby with one of the bases changed.
func based(which, base int) api.Bases {
	b := nearby
	*[]*int{&b.Text, &b.Far, &b.Data}[which] = base
	return b
}

func TestP12Bases(t *testing.T) {
	main := []string{part(t, 1, "_start")}
	for _, c := range []struct {
		base int
		ok   bool
	}{
		{math.MinInt, false}, {-1 << 32, false}, {-4096, false}, {-16, false}, {0, false}, {16, false}, {4080, false}, {4095, false}, {4096, true}, {4097, false}, {4098, false}, {4100, false}, {4104, false}, {4108, false}, {4111, false}, {4112, true}, {1 << 20, true},
		{1<<30 - 32, true}, {1<<30 - 16, true}, {1<<30 - 15, false}, {1<<30 - 8, false}, {1<<30 - 4, false}, {1 << 30, false}, {1<<30 + 16, false}, {1 << 31, false}, {1<<32 + 4096, false}, {1 << 62, false}, {math.MaxInt - 15, false}, {math.MaxInt, false},
	} {
		for which := range 3 {
			if c.ok {
				wantFault(t, main, based(which, c.base), api.OK, 0, "")
				continue
			}
			for _, files := range [][]string{main, nil, {"none"}, {part(t, 1)}} { // ahead of all other faults
				wantFault(t, files, based(which, c.base), api.ErrBase, which, "")
			}
		}
	}
	wantFault(t, main, api.Bases{Text: 8, Far: 8, Data: 8}, api.ErrBase, 0, "")
	wantFault(t, main, api.Bases{Text: 4096, Far: 8, Data: 8}, api.ErrBase, 1, "")
	wantFault(t, main, api.Bases{Text: 8, Far: 4096, Data: 8}, api.ErrBase, 0, "")
	wantFault(t, main, api.Bases{}, api.ErrBase, 0, "")
}

func TestP12HowManyFiles(t *testing.T) {
	for _, n := range []int{0, 1, 2, 7, 8, 9, 10, 255, 256, 257, 264, 1 << 16} {
		e := api.OK
		if n < 1 || n > 8 {
			e = api.ErrFiles
		}
		files := make([]string, n)
		for i := range files {
			files[i] = part(t, 1)
			if i == 0 {
				files[i] = part(t, 1, "_start")
			}
		}
		wantFault(t, files, nearby, e, 0, "")
		if e != api.OK && n > 0 { // ahead of what the files are
			files[0] = "none"
			wantFault(t, files, nearby, e, 0, "")
		}
	}
	wantFault(t, nil, nearby, api.ErrFiles, 0, "")
}

func TestP12NoFiles(t *testing.T) {
	main, other := part(t, 1, "_start"), part(t, 2, "f")
	archive := packed(t, other, main)
	for _, s := range []string{"", "L", "LK", "AR", "AR\x00", "AR\x01", "IM", "nop", main[:len(main)-1], main + "\x00", "\x00" + main, main + main, archive[:len(archive)-1], archive + "\x00", plainArchive(2, other, "LK"), plainArchive(1, archive), plainArchive(7, other, other, other, other, other, other, other), scene().bytes(), "lk" + main[2:]} {
		wantFault(t, []string{s}, nearby, api.ErrFile, 0, "")
		wantFault(t, []string{main, s, other}, nearby, api.ErrFile, 1, "")
		wantFault(t, []string{main, archive, other, s}, nearby, api.ErrFile, 3, "")
		wantFault(t, []string{main, s, other, s, "none"}, nearby, api.ErrFile, 1, "")
		wantFault(t, []string{main, main, part(t, 3, "?none"), s}, nearby, api.ErrFile, 3, "") // ahead of what names mean
		wantFault(t, []string{main, other, other, other, other, other, other, s}, nearby, api.ErrFile, 7, "")
	}
}

func TestP12Objects(t *testing.T) {
	a, b, c := part(t, 1, "_start"), part(t, 2, "f"), part(t, 3)
	wantText(t, []string{a, b, c}, nearby, 1, 2, 3) // wanted or not, in their order
	wantText(t, []string{c, b, a}, nearby, 3, 2, 1)
	wantText(t, []string{c, a, c, c}, nearby, 3, 1, 3, 3) // and again
}

func TestP12WhichMembers(t *testing.T) {
	main := part(t, 1, "_start", "?f", "?~w", ".l", "?g")
	f, g, w := part(t, 2, "f"), part(t, 3, "g"), part(t, 4, "w")
	for _, c := range []struct {
		files []string
		want  []int
	}{
		{[]string{main, packed(t, f, g)}, []int{1, 2, 3}},
		{[]string{main, packed(t, g, f)}, []int{1, 3, 2}},
		{[]string{main, packed(t, w, g, w, f, w)}, []int{1, 3, 2}}, // none wants w: it is Weak
		{[]string{main, packed(t, part(t, 5), f, part(t, 6, "l"), g, part(t, 7, ".f", ".g"), part(t, 8, "?f", "?g"))}, []int{1, 2, 3}},
		{[]string{main, packed(t, part(t, 5, "?~f", "?~g"), part(t, 6, "?f", "?g"), part(t, 7, ".f"), part(t, 8, ".g"), f, g)}, []int{1, 2, 3}}, // to name it is not to define it
		{[]string{main, packed(t, part(t, 5, "~f"), f, g)}, []int{1, 5, 3}},                                                                     // a Weak one defines too
		{[]string{main, packed(t, f, part(t, 5, "~f"), f, g, g)}, []int{1, 2, 3}},                                                               // none that is defined already
		{[]string{main, part(t, 5, "~f"), packed(t, f, g)}, []int{1, 5, 3}},
		{[]string{main, part(t, 5, ".f"), packed(t, f, g)}, []int{1, 5, 2, 3}}, // a Local one defines nothing
		{[]string{main, part(t, 5, "?~f"), packed(t, f, g)}, []int{1, 5, 2, 3}},
		{[]string{main, packed(t, part(t, 5, "z", "g", "f"), f, g)}, []int{1, 5}},
		{[]string{main, packed(t, part(t, 5, "z", "~g"), part(t, 6, "~f", "~g"), g, f)}, []int{1, 5, 6}},
		{[]string{main, packed(t, f), packed(t, f, g)}, []int{1, 2, 3}},
		{[]string{main, packed(t, g), packed(t, g, f), packed(t, g, f)}, []int{1, 3, 2}},
		{[]string{main, f, g, packed(t, f, g, main)}, []int{1, 2, 3}},
		{[]string{packed(t, f, w), main, f, g}, []int{1, 2, 3}}, // nothing is wanted yet
		{[]string{packed(t, f, g), main, packed(t, g, f)}, []int{1, 3, 2}},
		{[]string{part(t, 5, "?_start"), packed(t, w, part(t, 6, "_start"))}, []int{5, 6}},
		{[]string{part(t, 5, "?~f", "?w"), part(t, 6, "_start"), packed(t, f, w)}, []int{5, 6, 4}},
	} {
		wantText(t, c.files, nearby, c.want...)
	}
	wantFault(t, []string{packed(t, part(t, 1, "_start"))}, nearby, api.ErrStart, 0, "") // none wants _start by itself
}

func TestP12AgainAndAgain(t *testing.T) {
	main := part(t, 9, "_start", "?a")
	a, b, c, d, e := part(t, 1, "a", "?b"), part(t, 2, "b", "?c"), part(t, 3, "c", "?d"), part(t, 4, "d", "?e"), part(t, 5, "e", "?a")
	free := part(t, 6, "z", "?y")
	for _, k := range []struct {
		files []string
		want  []int
	}{
		{[]string{main, packed(t, a, b, c, d, e)}, []int{9, 1, 2, 3, 4, 5}},
		{[]string{main, packed(t, e, d, c, b, a)}, []int{9, 1, 2, 3, 4, 5}},
		{[]string{main, packed(t, free, e, d, c, b, a)}, []int{9, 1, 2, 3, 4, 5}},
		{[]string{main, packed(t, b, a, d, free, c, e)}, []int{9, 1, 2, 3, 4, 5}},
		{[]string{main, packed(t, a, b), packed(t, d, c), packed(t, e)}, []int{9, 1, 2, 3, 4, 5}},
		{[]string{main, packed(t, b, a), packed(t, e, c, d)}, []int{9, 1, 2, 3, 4, 5}},
		{[]string{main, packed(t, part(t, 7, "b", "?d", "?c", "?e"), c, a, e, d)}, []int{9, 1, 7, 3, 5, 4}},
		{[]string{part(t, 8, "_start", "?a", "?c"), packed(t, d, c, b, a, e)}, []int{8, 3, 1, 4, 2, 5}},
	} {
		wantText(t, k.files, nearby, k.want...)
	}
	// A member that is taken counts at once: the next is looked at with what it wants, and the first again later.
	wantText(t, []string{main, packed(t, c, a, b, d, e)}, nearby, 9, 1, 2, 3, 4, 5)
	wantText(t, []string{main, packed(t, d, a, c, b, e)}, nearby, 9, 1, 2, 3, 4, 5)
	wantText(t, []string{main, packed(t, a, d, b, e, c)}, nearby, 9, 1, 2, 3, 4, 5)
	// A file is done with when the next is looked at.
	wantFault(t, []string{main, packed(t, a, c), packed(t, b, d, e)}, nearby, api.ErrUndef, 2, "c")
	wantText(t, []string{main, packed(t, a, c), packed(t, b, d), packed(t, c), packed(t, d), packed(t, e)}, nearby, 9, 1, 2, 3, 4, 5)
	wantFault(t, []string{packed(t, a, b, c, d, e), main}, nearby, api.ErrUndef, 0, "a")
}

func TestP12Numbers(t *testing.T) {
	main := part(t, 1, "_start", "?b")
	a, b, c := part(t, 2, "a", "?none"), part(t, 3, "b", "?a"), part(t, 4, "c")
	wantFault(t, []string{main, packed(t, c, a, b)}, nearby, api.ErrUndef, 2, "none") // b is 1, a is 2
	wantFault(t, []string{main, packed(t, c, b, a)}, nearby, api.ErrUndef, 2, "none")
	wantFault(t, []string{c, main, c, packed(t, c, a, b)}, nearby, api.ErrDup, 2, "c")
	wantFault(t, []string{part(t, 5), main, packed(t, c, a), packed(t, b), packed(t, c, c, a)}, nearby, api.ErrUndef, 3, "none")
	wantFault(t, []string{main, packed(t, c, part(t, 6, "b", "_start"))}, nearby, api.ErrDup, 1, "_start")
}
