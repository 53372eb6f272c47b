package keyring

import (
	"cmp"
	"slices"

	"coffer/api"
)

// list gives a list of its own that has the same items.
func list[T any](items []T) []T { return append([]T(nil), items...) }

// each gives a list of what is made of each item.
func each[T any](items []T, made func(T) T) []T {
	var out []T
	for _, item := range items {
		out = append(out, made(item))
	}
	return out
}

// copied gives metadata that share no list with those.
func copied(m api.Meta) api.Meta {
	m.Slots = list(m.Slots)
	m.Epochs = list(m.Epochs)
	m.Segments = list(m.Segments)
	m.Tokens = each(m.Tokens, ownToken)
	return m
}

func ownToken(t api.Token) api.Token {
	t.Slots = list(t.Slots)
	return t
}

// The numbers by which lists of metadata rise.

func slotNumber(s api.Slot) int      { return s.Number }
func epochNumber(p api.Epoch) uint64 { return p.Number }
func tokenNumber(t api.Token) int    { return t.Number }
func itself(n int) int               { return n }

// place tells where in a list that rises by number the item of that number is, or would be.
func place[T any, N cmp.Ordered](items []T, n N, number func(T) N) (int, bool) {
	return slices.BinarySearchFunc(items, n, func(item T, n N) int { return cmp.Compare(number(item), n) })
}

// numbered gives the item of that number, if there is one.
func numbered[T any, N cmp.Ordered](items []T, n N, number func(T) N) (T, bool) {
	at, there := place(items, n, number)
	if !there {
		var none T
		return none, false
	}
	return items[at], true
}

// with puts an item in its place in a list, or in the place of the one that had its number.
func with[T any, N cmp.Ordered](items []T, item T, number func(T) N) []T {
	at, there := place(items, number(item), number)
	if there {
		items[at] = item
		return items
	}
	return slices.Insert(items, at, item)
}

// without takes the item of a number out of a list, if there is one.
func without[T any, N cmp.Ordered](items []T, n N, number func(T) N) []T {
	at, there := place(items, n, number)
	if !there {
		return items
	}
	return slices.Delete(items, at, at+1)
}
