// Package link: objects and archives, linked to an image (P12 to P15).
package link

import (
	"linker/api"
	"linker/image"
)

// program is what is linked: the modules by their numbers, what _start means, and, once all is laid, how many noughts stand behind the data.
type program struct {
	bases   api.Bases
	modules []*module
	start   spot
	noughts int
}

// module is an object that takes part, and what is known of it so far.
type module struct {
	obj   *api.Object
	means []spot // of each symbol: what it means
	short []bool // of each relocation: whether it is a call that is short
	text  []int  // where each word of text lies, and last where the text ends
	far   []int  // likewise
	data  int    // where the data begins
	bss   int    // where the noughts begin
}

// spot is a place in a section of a module. Without a module it is none: what means nothing.
type spot struct {
	mod  *module
	sect int
	off  int
}

// Link gives the image of files (P12 to P15).
func Link(files []string, bases api.Bases) (string, api.Fault) {
	p, fault := gather(files, bases)
	if fault.E != api.OK {
		return "", fault
	}
	fault = p.resolve()
	if fault.E != api.OK {
		return "", fault
	}
	p.layout()
	made := p.build()
	fault = p.checkPlaces(made)
	if fault.E != api.OK {
		return "", fault
	}
	return image.Write(made), api.Fault{}
}
