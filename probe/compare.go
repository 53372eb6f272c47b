package probe

import (
	"slices"

	"coffer/api"
)

// unlikeFields names what stands in metadata once, and is not the same in both.
func unlikeFields(a, b api.Meta) []string {
	var names []string
	for _, field := range []struct {
		name string
		same bool
	}{
		{"label", a.Label == b.Label},
		{"subsystem", a.Subsystem == b.Subsystem},
		{"uuid", a.UUID == b.UUID},
		{"salt", a.HeadSalt == b.HeadSalt},
		{"shape", a.Shape == b.Shape},
		{"digest", a.Digest == b.Digest},
		{"segments", slices.Equal(a.Segments, b.Segments)},
		{"rotation", a.Rotation == b.Rotation},
	} {
		if !field.same {
			names = append(names, field.name)
		}
	}
	return names
}

// unlikeLists tells what the one has that the other has not, kind by kind.
func unlikeLists(a, b api.Meta) []string {
	var told []string
	add := func(sign, kind, number string) { told = append(told, words(sign, kind, number)) }
	unlike(a.Slots, b.Slots,
		func(s api.Slot) api.Slot { return s },
		func(sign string, s api.Slot) { add(sign, "slot", decimal(s.Number)) })
	unlike(a.Epochs, b.Epochs,
		func(p api.Epoch) api.Epoch { return p },
		func(sign string, p api.Epoch) { add(sign, "epoch", decimal(p.Number)) })
	unlike(a.Tokens, b.Tokens,
		func(t api.Token) plainToken { return plainToken{t.Number, t.Kind, list(t.Slots), t.Note} },
		func(sign string, t api.Token) { add(sign, "token", decimal(t.Number)) })
	return told
}

// plainToken is a token that can be held against another one by ==.
type plainToken struct {
	number int
	kind   string
	slots  string
	note   string
}

// unlike tells the items that are in the first list alone, then those that are in the second one alone. Two items are the same, if same gives the same of them; so the lists may be long, and none is gone through for each item of the other.
func unlike[T any, K comparable](a, b []T, same func(T) K, tell func(sign string, item T)) {
	for _, item := range without(a, b, same) {
		tell("-", item)
	}
	for _, item := range without(b, a, same) {
		tell("+", item)
	}
}

// without gives the items of a list that are not in the other one.
func without[T any, K comparable](items, other []T, same func(T) K) []T {
	there := map[K]int{}
	for _, item := range other {
		there[same(item)]++
	}
	var left []T
	for _, item := range items {
		if there[same(item)] == 0 {
			left = append(left, item)
		}
	}
	return left
}
