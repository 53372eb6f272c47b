package shell

import (
	"iter"
	"maps"
	"slices"

	"coffer/api"
	"coffer/volume"
)

// shelf holds the things of one kind by their names. One that is gone stays a thing, but another one may take its name.
type shelf[T any] struct {
	things map[string]T
	gone   func(T) bool
}

func newShelf[T any](gone func(T) bool) *shelf[T] {
	return &shelf[T]{things: make(map[string]T), gone: gone}
}

// stays is of things that are never gone.
func stays[T any](T) bool { return false }

func (h *shelf[T]) has(name string) bool {
	_, is := h.things[name]
	return is
}

// taken tells whether no other thing may take that name.
func (h *shelf[T]) taken(name string) bool {
	thing, is := h.things[name]
	return is && !h.gone(thing)
}

// full tells whether there is no room for a thing of that name.
func (h *shelf[T]) full(name string) bool {
	return len(h.things) >= api.MaxShellThings && !h.has(name)
}

func (h *shelf[T]) get(name string) T { return h.things[name] }

func (h *shelf[T]) put(name string, thing T) { h.things[name] = thing }

// all gives the things that are not gone, in the order of their names.
func (h *shelf[T]) all() iter.Seq2[string, T] {
	return func(yield func(string, T) bool) {
		for _, name := range slices.Sorted(maps.Keys(h.things)) {
			if h.taken(name) && !yield(name, h.things[name]) {
				return
			}
		}
	}
}

// names is a shelf of any kind, as far as names go.
type names interface {
	has(name string) bool
	taken(name string) bool
	full(name string) bool
}

// mount is a volume and the name of the slab that it is over.
type mount struct {
	*volume.Volume
	on string
}

func (m mount) closed() bool { return m.Status().State == api.Closed }

// unit is that of its sectors; a closed one, which tells none, counts as one of the least.
func (m mount) unit() int {
	if m.closed() {
		return api.MinUnit
	}
	return m.Status().Unit
}

// holder tells the volume that is not closed over a slab; "" if there is none.
func (s *Shell) holder(slab string) string {
	for name, m := range s.volumes.all() {
		if m.on == slab {
			return name
		}
	}
	return ""
}
