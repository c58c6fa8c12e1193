package asm

import (
	"maps"
	"slices"

	"hartix/api"
)

// Where a symbol is: in a section, or it is a constant, or (while its own line is looked at) not yet anywhere.
const (
	nowhere = iota
	constants
	inText
	inData
	inBss
	wheres // one more than the last
)

// symbol is a label, with its place in its section, or a constant, with its value.
type symbol struct {
	where int
	value uint64
}

// table keeps a value for each of its names, and has room for so many.
type table[V any] struct {
	room   int
	values map[string]V
}

func newTable[V any](room int) table[V] {
	return table[V]{room: room, values: map[string]V{}}
}

// add tells whether the name is new and there was room for it; else nothing is changed.
func (t table[V]) add(name string, v V) bool {
	if _, there := t.values[name]; there || len(t.values) == t.room {
		return false
	}
	t.values[name] = v
	return true
}

// put gives a name that is there another value.
func (t table[V]) put(name string, v V) { t.values[name] = v }

func (t table[V]) find(name string) (V, bool) {
	v, ok := t.values[name]
	return v, ok
}

// names tells them, rising byte by byte.
func (t table[V]) names() []string { return slices.Sorted(maps.Keys(t.values)) }

// constant tells the value of a constant of a line ahead.
func (a *assembler) constant(name string) uint64 {
	s, _ := a.symbols.find(name)
	if s.where != constants {
		giveUp(api.ErrAsmConstant)
	}
	return s.value
}

// address tells the value of any symbol; the sections' begins are known by then.
func (a *assembler) address(name string) uint64 {
	s, ok := a.symbols.find(name)
	if !ok {
		giveUp(api.ErrAsmUnknown)
	}
	return a.begins[s.where] + s.value
}
