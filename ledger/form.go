package ledger

import (
	"maps"
	"slices"
	"strconv"

	"coffer/api"
	"coffer/digest"
	"coffer/scroll"
)

// form is how something of an O stands in a text: how it is written, and how it is read into an O. Read tells whether the value has that form.
type form[O any] struct {
	write func(o *O) api.Json
	read  func(o *O, v api.Json) bool
}

// member is what an object that tells of an O has under a key.
type member[O any] struct {
	key string
	form[O]
}

// whole is a kind of numbers that a text tells.
type whole interface{ int | int64 | uint64 }

// name is the word that stands for a number.
type name struct {
	number int
	word   string
}

// object is the form of an O that is told by just these members.
func object[O any](members []member[O]) form[O] {
	write := func(o *O) api.Json {
		v := api.Json{Kind: api.JObject}
		for _, m := range members {
			v.Keys = append(v.Keys, m.key)
			v.Items = append(v.Items, m.write(o))
		}
		return v
	}
	read := func(o *O, v api.Json) bool {
		if v.Kind != api.JObject || len(v.Keys) != len(members) {
			return false
		}
		met := make(map[string]api.Json, len(v.Keys))
		for i, key := range v.Keys {
			met[key] = v.Items[i]
		}
		for _, m := range members {
			x, there := met[m.key]
			if !there || !m.read(o, x) {
				return false
			}
		}
		return true
	}
	return form[O]{write: write, read: read}
}

// within is the form of a part of an O.
func within[O, P any](part func(*O) *P, f form[P]) form[O] {
	return form[O]{
		write: func(o *O) api.Json { return f.write(part(o)) },
		read:  func(o *O, v api.Json) bool { return f.read(part(o), v) },
	}
}

// perhaps is the form of what is null where it is not on.
func perhaps[O any](on func(*O) *bool, f form[O]) form[O] {
	write := func(o *O) api.Json {
		if !*on(o) {
			return api.Json{Kind: api.JNull}
		}
		return f.write(o)
	}
	read := func(o *O, v api.Json) bool {
		if v.Kind == api.JNull {
			return true
		}
		*on(o) = true
		return f.read(o, v)
	}
	return form[O]{write: write, read: read}
}

// list is the form of items one behind the other.
func list[O, P any](items func(*O) *[]P, f form[P]) form[O] {
	write := func(o *O) api.Json {
		v := api.Json{Kind: api.JList}
		for _, p := range *items(o) {
			v.Items = append(v.Items, f.write(&p))
		}
		return v
	}
	read := func(o *O, v api.Json) bool {
		if v.Kind != api.JList {
			return false
		}
		for _, x := range v.Items {
			var p P
			if !f.read(&p, x) {
				return false
			}
			*items(o) = append(*items(o), p)
		}
		return true
	}
	return form[O]{write: write, read: read}
}

// numbered is the form of items whose keys are their numbers.
func numbered[O, P any, N whole](items func(*O) *[]P, at func(*P) *N, f form[P]) form[O] {
	write := func(o *O) api.Json {
		v := api.Json{Kind: api.JObject}
		for _, p := range *items(o) {
			v.Keys = append(v.Keys, strconv.FormatUint(uint64(*at(&p)), 10))
			v.Items = append(v.Items, f.write(&p))
		}
		return v
	}
	read := func(o *O, v api.Json) bool {
		if v.Kind != api.JObject {
			return false
		}
		met := make(map[uint64]P, len(v.Keys))
		for i, key := range v.Keys {
			n, good := numberOf(key)
			var p P
			if !good || !f.read(&p, v.Items[i]) {
				return false
			}
			*at(&p) = N(n)
			met[n] = p
		}
		for _, n := range slices.Sorted(maps.Keys(met)) {
			*items(o) = append(*items(o), met[n])
		}
		return true
	}
	return form[O]{write: write, read: read}
}

// numberOf tells the number that a key is: of its one way to be written, that it may have no other name.
func numberOf(key string) (uint64, bool) {
	n, err := strconv.ParseUint(key, 10, 64)
	return n, err == nil && n <= api.MaxWhole && strconv.FormatUint(n, 10) == key
}

// number is the form of a number.
func number[O any, N whole](at func(*O) *N) form[O] {
	return form[O]{
		write: func(o *O) api.Json { return scroll.OfUint(uint64(*at(o))) },
		read: func(o *O, v api.Json) bool {
			n, e := scroll.Uint(v)
			*at(o) = N(n)
			return e == api.OK && n <= api.MaxWhole
		},
	}
}

// plain is the form of a text that stands as it is.
func plain[O any](at func(*O) *string) form[O] {
	return form[O]{
		write: func(o *O) api.Json { return ofText(*at(o)) },
		read: func(o *O, v api.Json) bool {
			*at(o) = v.Text
			return v.Kind == api.JText
		},
	}
}

// base64 is the form of bytes.
func base64[O any](at func(*O) *string) form[O] {
	return form[O]{
		write: func(o *O) api.Json { return ofText(digest.Base64([]byte(*at(o)))) },
		read: func(o *O, v api.Json) bool {
			b, e, _ := digest.FromBase64(v.Text)
			*at(o) = string(b)
			return v.Kind == api.JText && e == api.OK
		},
	}
}

// flag is the form of what is true or false.
func flag[O any](at func(*O) *bool) form[O] {
	write := func(o *O) api.Json {
		if *at(o) {
			return api.Json{Kind: api.JTrue}
		}
		return api.Json{Kind: api.JFalse}
	}
	read := func(o *O, v api.Json) bool {
		*at(o) = v.Kind == api.JTrue
		return v.Kind == api.JTrue || v.Kind == api.JFalse
	}
	return form[O]{write: write, read: read}
}

// word is the form of a number for which one of some names stands.
func word[O any](at func(*O) *int, names ...name) form[O] {
	write := func(o *O) api.Json {
		i := slices.IndexFunc(names, func(n name) bool { return n.number == *at(o) })
		return ofText(names[i].word)
	}
	read := func(o *O, v api.Json) bool {
		i := slices.IndexFunc(names, func(n name) bool { return n.word == v.Text })
		if v.Kind != api.JText || i < 0 {
			return false
		}
		*at(o) = names[i].number
		return true
	}
	return form[O]{write: write, read: read}
}

// ofText is the value of a text.
func ofText(text string) api.Json { return api.Json{Kind: api.JText, Text: text} }
