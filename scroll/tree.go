package scroll

import (
	"cmp"
	"iter"
	"slices"
	"unicode/utf8"

	"coffer/api"
)

// within ranges over the values in v, each with how many lists and objects it stands in.
func within(v api.Json) iter.Seq2[int, api.Json] {
	return func(yield func(int, api.Json) bool) { visit(v, 0, yield) }
}

// visit goes down into all that has items: whoever ranges breaks off at a value that may have none, so a value that holds itself ends too.
func visit(v api.Json, nested int, yield func(int, api.Json) bool) bool {
	if !yield(nested, v) {
		return false
	}
	for _, item := range v.Items {
		if !visit(item, nested+1, yield) {
			return false
		}
	}
	return true
}

// fits tells the first fault at a value itself, but for how many there are.
func fits(v api.Json, nested int) api.Errno {
	if (v.Kind == api.JList || v.Kind == api.JObject) && nested >= api.MaxNested {
		return api.ErrScrollDeep
	}
	if !hasItsOwn(v) {
		return api.ErrScrollKind
	}
	switch v.Kind {
	case api.JNumber:
		_, e := Normal(v.Text)
		return e
	case api.JText:
		if !utf8.ValidString(v.Text) {
			return api.ErrScrollText
		}
	case api.JObject:
		return keysFit(v.Keys)
	}
	return api.OK
}

// hasItsOwn tells whether a value has a kind, and nothing that its kind has not.
func hasItsOwn(v api.Json) bool {
	text, items, keys := v.Text != "", len(v.Items) > 0, len(v.Keys) > 0
	switch v.Kind {
	case api.JNull, api.JFalse, api.JTrue:
		return !text && !items && !keys
	case api.JNumber, api.JText:
		return !items && !keys
	case api.JList:
		return !text && !keys
	case api.JObject:
		return !text && len(v.Keys) == len(v.Items)
	}
	return false
}

// keysFit goes through the keys twice: one that is no text counts ahead of two that are the same, wherever they stand.
func keysFit(keys []string) api.Errno {
	for _, k := range keys {
		if !utf8.ValidString(k) {
			return api.ErrScrollText
		}
	}
	if len(places(keys)) < len(keys) {
		return api.ErrScrollTwice
	}
	return api.OK
}

// places tells where each key stands.
func places(keys []string) map[string]int {
	at := make(map[string]int, len(keys))
	for i, k := range keys {
		at[k] = i
	}
	return at
}

// copied gives v in new memory; of a v that may be, as all below.
func copied(v api.Json) api.Json {
	out := api.Json{Kind: v.Kind, Text: v.Text, Keys: slices.Clone(v.Keys)}
	for _, item := range v.Items {
		out.Items = append(out.Items, copied(item))
	}
	return out
}

func canonical(v api.Json) api.Json {
	switch v.Kind {
	case api.JNumber:
		form, _ := Normal(v.Text)
		return api.Json{Kind: api.JNumber, Text: form}
	case api.JObject:
		return sorted(v)
	}
	out := api.Json{Kind: v.Kind, Text: v.Text}
	for _, item := range v.Items {
		out.Items = append(out.Items, canonical(item))
	}
	return out
}

// sorted gives an object with its members, each in its one form, in the order of their keys.
func sorted(v api.Json) api.Json {
	order := make([]int, len(v.Keys))
	for i := range order {
		order[i] = i
	}
	slices.SortFunc(order, func(a, b int) int { return cmp.Compare(v.Keys[a], v.Keys[b]) })
	out := api.Json{Kind: api.JObject}
	for _, i := range order {
		add(&out, v.Keys[i], canonical(v.Items[i]))
	}
	return out
}

func add(object *api.Json, key string, x api.Json) {
	object.Keys = append(object.Keys, key)
	object.Items = append(object.Items, x)
}

func equal(a, b api.Json) bool {
	return a.Kind == b.Kind && a.Text == b.Text && slices.Equal(a.Keys, b.Keys) && slices.EqualFunc(a.Items, b.Items, equal)
}

// merged lays patch over v, which has no keys if it is no object. As no key stands twice in patch, the order of its members tells in what is added alone.
func merged(v, patch api.Json) api.Json {
	if patch.Kind != api.JObject {
		return copied(patch)
	}
	out := api.Json{Kind: api.JObject}
	laid, had := places(patch.Keys), places(v.Keys)
	for i, key := range v.Keys {
		at, meant := laid[key]
		if !meant {
			add(&out, key, copied(v.Items[i]))
		} else if patch.Items[at].Kind != api.JNull {
			add(&out, key, merged(v.Items[i], patch.Items[at]))
		}
	}
	for i, key := range patch.Keys {
		if _, there := had[key]; !there && patch.Items[i].Kind != api.JNull {
			add(&out, key, merged(api.Json{Kind: api.JNull}, patch.Items[i]))
		}
	}
	return out
}
