package shell

import (
	"slices"
	"strconv"

	"coffer/api"
)

// task is a line that is played.
type task struct {
	*Shell
	row  row
	said api.ShellLine
	of   map[string]value // by the options' keys; what is missing, and has nothing that stands for it, is not there
}

// refusal is the line that a task gives up with.
type refusal struct {
	line string
}

// refuse gives up.
func refuse(e api.Errno, more ...string) { panic(refusal{line: errorLine(e, more...)}) }

// check goes on only where there is no error.
func check(e api.Errno) {
	if e != api.OK {
		refuse(e)
	}
}

// caught plays, and tells what was given up with in the answer's place.
func caught(play func() []string) (answer []string) {
	defer func() {
		switch r := recover().(type) {
		case nil:
		case refusal:
			answer = []string{r.line}
		default:
			answer = []string{errorLine(api.ErrPanic)}
		}
	}()
	return play()
}

// play plays a line, or gives up with the first thing that is wrong.
func (s *Shell) play(line string) []string {
	said, e, at := Parse(line)
	if e != api.OK {
		refuse(e, "at", strconv.Itoa(at))
	}
	if said.Command == "" {
		return nil
	}
	t := &task{Shell: s, row: find(said.Command), said: said, of: make(map[string]value)}
	t.keys()
	t.lacking()
	t.values()
	t.things()
	return t.row.play(t)
}

// given tells the value that the line gives an option.
func (t *task) given(key string) (string, bool) {
	for _, o := range t.said.Options {
		if o.Key == key {
			return o.Value, true
		}
	}
	return "", false
}

func (t *task) gives(key string) bool {
	_, is := t.given(key)
	return is
}

// keys looks whether the command has each option of the line, and the line none twice.
func (t *task) keys() {
	for i, o := range t.said.Options {
		known := slices.ContainsFunc(t.row.options, func(x option) bool { return x.key == o.Key })
		twice := slices.ContainsFunc(t.said.Options[:i], func(x api.ShellOption) bool { return x.Key == o.Key })
		if !known || twice {
			refuse(api.ErrShellOption, o.Key)
		}
	}
}

// lacking looks whether all is there that must be.
func (t *task) lacking() {
	for _, o := range t.row.options {
		lacks := false
		switch o.need {
		case mustBe:
			lacks = !t.gives(o.key)
		case isFill:
			lacks = t.sources() != 1
		}
		if lacks {
			refuse(api.ErrShellOption, o.key)
		}
	}
}

// sources counts the options that say what is written.
func (t *task) sources() int {
	n := 0
	for _, key := range []string{"fill", "hex", "text"} {
		if t.gives(key) {
			n++
		}
	}
	return n
}

// values reads the options, each by its kind.
func (t *task) values() {
	for _, o := range t.row.options {
		text, given := t.given(o.key)
		if !given {
			if o.need == isFill || o.need == orFill {
				continue
			}
			text = o.missing
		}
		v, is := o.read(text)
		if !is || given && o.need == byFill && !t.gives("fill") {
			refuse(api.ErrShellOption, o.key)
		}
		t.of[o.key] = v
	}
}

// named is a thing that the line names.
type named struct {
	part
	name string
}

// parts are all that the line names: what it is about, and what its options name.
func (t *task) parts() []named {
	all := []named{{t.row.about, t.said.Name}}
	for _, o := range t.row.options {
		if o.names.kind != noThing {
			all = append(all, named{o.names, t.of[o.key].text})
		}
	}
	return all
}

// shelf tells where the things of a kind are.
func (s *Shell) shelf(k kind) names {
	switch k {
	case aSlab:
		return s.slabs
	case aSpring:
		return s.springs
	case aVolume:
		return s.volumes
	}
	return s.backups
}

// things looks whether what is named is there, or can be made.
func (t *task) things() {
	if t.said.Name == "" {
		refuse(api.ErrShellName)
	}
	parts := t.parts()
	for _, p := range parts {
		if p.role != isMade && !t.shelf(p.kind).has(p.name) {
			refuse(api.ErrShellName, p.name)
		}
	}
	for _, p := range parts {
		if p.role == isMade && t.shelf(p.kind).taken(p.name) {
			refuse(api.ErrShellTaken, p.name)
		}
	}
	for _, p := range parts {
		if p.role == isIdle && t.holder(p.name) != "" {
			refuse(api.ErrShellTaken, t.holder(p.name))
		}
	}
	for _, p := range parts {
		if p.role == isMade && t.shelf(p.kind).full(p.name) {
			refuse(api.ErrShellCrowd)
		}
	}
}
