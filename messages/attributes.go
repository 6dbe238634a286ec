package messages

import (
	"byway/api"
	"byway/routes"
)

// Which attributes there are.
const (
	pathKind  = 2
	medKind   = 4
	prefKind  = 5
	marksKind = 8
)

type kindFlags struct {
	kind, flags byte
}

var flagsTable = [...]kindFlags{
	{pathKind, 64},
	{medKind, 128},
	{prefKind, 64},
	{marksKind, 192},
}

// flagsOf tells the flags of a kind, and whether there is such a kind.
func flagsOf(kind byte) (byte, bool) {
	for _, row := range flagsTable {
		if row.kind == kind {
			return row.flags, true
		}
	}
	return 0, false
}

// headSize is how many bytes an attribute has ahead of its value.
const headSize = 3

// systemRow is the byte that a path with systems begins with.
const systemRow = 2

type attribute struct {
	flags, kind byte
	value       []byte
}

// known tells whether there is such an attribute, with these flags.
func (a attribute) known() bool {
	flags, ok := flagsOf(a.kind)
	return ok && flags == a.flags
}

// put puts what a says into u; false, if its value may not be.
func (a attribute) put(u *api.Update) bool {
	ok := false
	switch a.kind {
	case pathKind:
		u.Path, ok = readPath(a.value)
	case medKind:
		u.Med, ok = readWord(a.value)
		ok = ok && u.Med > 0
	case prefKind:
		u.Pref, ok = readWord(a.value)
	case marksKind:
		u.Marks, ok = readMarks(a.value)
	}
	return ok
}

func readPath(value []byte) ([]int, bool) {
	if len(value) == 0 {
		return nil, true
	}
	if len(value) < 2 || value[0] != systemRow || value[1] == 0 {
		return nil, false
	}
	path, ok := readPairs(value[2:])
	return path, ok && len(path) == int(value[1]) && routes.ValidPath(path)
}

func readMarks(value []byte) ([]int, bool) {
	marks, ok := readPairs(value)
	return marks, ok && len(marks) > 0 && routes.ValidMarks(marks)
}

// attributesOf gives the attributes of a message, as they rise.
func attributesOf(u api.Update) []attribute {
	if len(u.Nets) == 0 {
		return nil
	}
	list := []attribute{attributeOf(pathKind, pathValue(u.Path))}
	if u.Med > 0 {
		list = append(list, attributeOf(medKind, putWord(nil, u.Med)))
	}
	list = append(list, attributeOf(prefKind, putWord(nil, u.Pref)))
	if len(u.Marks) > 0 {
		list = append(list, attributeOf(marksKind, putPairs(nil, u.Marks)))
	}
	return list
}

func attributeOf(kind byte, value []byte) attribute {
	flags, _ := flagsOf(kind)
	return attribute{flags: flags, kind: kind, value: value}
}

func pathValue(path []int) []byte {
	if len(path) == 0 {
		return nil
	}
	return putPairs([]byte{systemRow, byte(len(path))}, path)
}
