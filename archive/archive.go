// Package archive: objects' bytes kept in one file (P6).
package archive

import (
	"linker/api"
	"linker/object"
	"linker/wire"
)

// mark is what an archive's bytes begin with.
const mark = "AR"

// Pack gives an archive of objects' bytes (P6).
func Pack(ms []string) (string, api.Errno) {
	if !validCount(len(ms)) {
		return "", api.ErrMembers
	}
	w := wire.Writer{}
	w.Text(mark)
	w.Number(len(ms), 1)
	for _, member := range ms {
		if !isObject(member) {
			return "", api.ErrMembers
		}
		w.Number(len(member), 2)
		w.Text(member)
	}
	return w.Bytes(), api.OK
}

// Members gives an archive's members (P6).
func Members(s string) ([]string, api.Errno) {
	r := wire.NewReader(s)
	begin := r.Text(len(mark))
	count := r.Number(1)
	if begin != mark || !validCount(count) {
		return nil, api.ErrArchive
	}
	var members []string
	for i := 0; i < count; i++ {
		length := r.Number(2)
		member := r.Text(length)
		if !isObject(member) {
			return nil, api.ErrArchive
		}
		members = append(members, member)
	}
	if !r.Done() {
		return nil, api.ErrArchive
	}
	return members, api.OK
}

func validCount(count int) bool {
	return count >= 1 && count <= api.MaxMembers
}

func isObject(s string) bool {
	_, e := object.Read(s)
	return e == api.OK
}
