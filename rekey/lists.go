package rekey

import (
	"iter"

	"coffer/api"
)

// list gives a list of its own that has the same items.
func list[T any](items []T) []T { return append([]T(nil), items...) }

// listed gives a list of what comes out of an iterator.
func listed[T any](items iter.Seq[T]) []T {
	var out []T
	for item := range items {
		out = append(out, item)
	}
	return out
}

// isJust tells whether a list has what comes out of an iterator, and nothing else.
func isJust[T comparable](items []T, want iter.Seq[T]) bool {
	for item := range want {
		if len(items) == 0 || items[0] != item {
			return false
		}
		items = items[1:]
	}
	return len(items) == 0
}

// copied gives metadata that share no list with those.
func copied(m api.Meta) api.Meta {
	m.Slots = list(m.Slots)
	m.Epochs = list(m.Epochs)
	m.Segments = list(m.Segments)
	m.Tokens = list(m.Tokens)
	for i, t := range m.Tokens {
		m.Tokens[i].Slots = list(t.Slots)
	}
	return m
}
