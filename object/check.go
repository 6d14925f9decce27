package object

import (
	"linker/api"
	"linker/instr"
)

// valid tells whether o is an object by P4. Sizes come first: what follows goes through lists that are short then, and through a list of four borders.
func valid(o *api.Object) bool {
	return validSizes(o) && validBorders(o.Align) && validWords(o) && validSymbols(o) && validRelocs(o)
}

func validSizes(o *api.Object) bool {
	if len(o.Text) > api.MaxCode || len(o.Far) > api.MaxCode || len(o.Data) > api.MaxData {
		return false
	}
	if o.Bss < 0 || o.Bss > api.MaxBss {
		return false
	}
	return len(o.Syms) <= api.MaxSyms && len(o.Rels) <= api.MaxRelocs
}

func validBorders(align []int) bool {
	if len(align) != 4 {
		return false
	}
	for _, border := range align {
		if border < 2 || border > 4 {
			return false
		}
	}
	return true
}

func validWords(o *api.Object) bool {
	return allWords(o.Text) && allWords(o.Far) && allWords(o.Data)
}

func allWords(list []int) bool {
	for _, w := range list {
		if w < 0 || w > instr.MaxWord {
			return false
		}
	}
	return true
}

// Words gives the words of a section, none if it is not one that has words.
func Words(o *api.Object, sect int) []int {
	switch sect {
	case api.Text:
		return o.Text
	case api.Far:
		return o.Far
	case api.Data:
		return o.Data
	}
	return nil
}

// Length gives a section's length in bytes; of Undef it is 0, so that 0 is the one offset there.
func Length(o *api.Object, sect int) int {
	if sect == api.Bss {
		return 4 * o.Bss
	}
	return 4 * len(Words(o, sect))
}
