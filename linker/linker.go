// Package linker: an assembler, objects, archives, a linker, a loader, a machine: see DOC.md.
package linker

import (
	"linker/api"
	"linker/archive"
	"linker/asm"
	"linker/image"
	"linker/link"
	"linker/machine"
	"linker/object"
)

// Write gives an object's bytes (P5).
func Write(o *api.Object) (string, api.Errno) { return object.Write(o) }

// Read gives the object that bytes are (P5).
func Read(s string) (*api.Object, api.Errno) { return object.Read(s) }

// Pack gives an archive of objects' bytes (P6).
func Pack(ms []string) (string, api.Errno) { return archive.Pack(ms) }

// Members gives an archive's members (P6).
func Members(s string) ([]string, api.Errno) { return archive.Members(s) }

// Assemble gives the bytes of a module's object (P7 to P9).
func Assemble(text string) (string, api.Fault) { return asm.Assemble(text) }

// Machine is an image that was loaded. Runs only read it.
type Machine struct {
	image *image.Image
}

// Load loads an image (P10).
func Load(s string) (*Machine, api.Errno) {
	loaded, e := image.Read(s)
	if e != api.OK {
		return nil, e
	}
	return &Machine{image: loaded}, api.OK
}

// Run runs it (P11).
func (m *Machine) Run(in []int, fuel int) (api.Result, api.Errno) {
	return machine.Run(m.image, in, fuel)
}

// Link gives the image of files (P12 to P15).
func Link(files []string, b api.Bases) (string, api.Fault) { return link.Link(files, b) }
