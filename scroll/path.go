package scroll

import (
	"slices"
	"strconv"
	"strings"

	"coffer/api"
)

// steps cuts a path into its names; false if it is none.
func steps(path string) ([]string, bool) {
	if path == "" {
		return nil, true
	}
	if path[0] != '/' {
		return nil, false
	}
	names := strings.Split(path[1:], "/")
	for i, raw := range names {
		name, good := meant(raw)
		if !good {
			return nil, false
		}
		names[i] = name
	}
	return names, true
}

// meant tells a name without its ~0 and ~1; false if it has another ~.
func meant(raw string) (string, bool) {
	var name strings.Builder
	for i, piece := range strings.Split(raw, "~") {
		switch {
		case i == 0:
			name.WriteString(piece)
		case strings.HasPrefix(piece, "0"):
			name.WriteString("~" + piece[1:])
		case strings.HasPrefix(piece, "1"):
			name.WriteString("/" + piece[1:])
		default:
			return "", false
		}
	}
	return name.String(), true
}

// written undoes meant; the ~ first, as it stands in what the / becomes.
func written(name string) string {
	return strings.ReplaceAll(strings.ReplaceAll(name, "~", "~0"), "/", "~1")
}

// follow goes along names into v; nil if they lead nowhere.
func follow(v *api.Json, names []string) *api.Json {
	for _, name := range names {
		i := place(*v, name)
		if i < 0 {
			return nil
		}
		v = &v.Items[i]
	}
	return v
}

// place tells which item of v a name leads to; -1 if it leads nowhere.
func place(v api.Json, name string) int {
	switch v.Kind {
	case api.JObject:
		return slices.Index(v.Keys, name)
	case api.JList:
		if i := number(name); i < len(v.Items) {
			return i
		}
	}
	return -1
}

// number tells a name's number; -1 if it is none, or beyond all lists.
func number(name string) int {
	i, err := strconv.Atoi(name)
	if err != nil || i < 0 || strconv.Itoa(i) != name {
		return -1
	}
	return i
}

// put lays x down in holder by a name; false if it may not be there.
func put(holder *api.Json, name string, x api.Json) bool {
	if i := place(*holder, name); i >= 0 {
		holder.Items[i] = x
		return true
	}
	switch holder.Kind {
	case api.JObject:
		add(holder, name, x)
		return true
	case api.JList:
		if name == "-" || number(name) == len(holder.Items) {
			holder.Items = append(holder.Items, x)
			return true
		}
	}
	return false
}

// tell yields v and all values in it with their paths; each is a copy, so that whoever ranges may change it.
func tell(v api.Json, path string, yield func(string, api.Json) bool) bool {
	if !yield(path, copied(v)) {
		return false
	}
	for i, item := range v.Items {
		name := strconv.Itoa(i)
		if v.Kind == api.JObject {
			name = written(v.Keys[i])
		}
		if !tell(item, path+"/"+name, yield) {
			return false
		}
	}
	return true
}
