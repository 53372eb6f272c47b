package keyring_test

import (
	"bytes"
	"fmt"
	"go/parser"
	"go/token"
	"path/filepath"
	"slices"
	"strconv"
	"strings"
	"sync"
	"testing"

	"coffer/api"
	"coffer/keyring"
)

// roomy gives a list in memory of its own, with spare room that holds something.
func roomy[T any](list []T, spare T) []T {
	return append(slices.Clone(list), spare, spare, spare)[:len(list)]
}

// room gives metadata whose lists all have spare room.
func room(m api.Meta) api.Meta {
	m.Slots = roomy(m.Slots, api.Slot{Number: 77})
	m.Epochs = roomy(m.Epochs, api.Epoch{Number: 77})
	m.Segments = roomy(m.Segments, api.Segment{Count: 77})
	m.Tokens = roomy(m.Tokens, api.Token{Number: 77})
	for i, t := range m.Tokens {
		m.Tokens[i].Slots = roomy(t.Slots, 77)
	}
	return m
}

// allOf gives all that metadata hold, their lists' spare room too, as one text.
func allOf(m api.Meta) string {
	s := fmt.Sprint(m, m.Slots[:cap(m.Slots)], m.Epochs[:cap(m.Epochs)], m.Segments[:cap(m.Segments)], m.Tokens[:cap(m.Tokens)])
	for _, t := range m.Tokens {
		s += fmt.Sprint(t.Slots[:cap(t.Slots)])
	}
	return s
}

func fill[T any](list []T, with T) {
	list = list[:cap(list)]
	for i := range list {
		list[i] = with
	}
}

// spoil overwrites all lists, their spare room too: whoever shares memory with them shows it.
func spoil(m api.Meta) {
	for _, t := range m.Tokens {
		fill(t.Slots, -7)
	}
	fill(m.Slots, api.Slot{Number: -7})
	fill(m.Epochs, api.Epoch{Cipher: "spoilt"})
	fill(m.Segments, api.Segment{Count: 1 << 60})
	fill(m.Tokens, api.Token{Kind: "spoilt", Slots: []int{-7}})
}

// P10.3, P10.19: each Meta is new memory, behind every call; no two lists of one share any.
func TestMetaApart(t *testing.T) {
	v := scene(t, 512)
	expect(t, "Note", v.Note(api.Token{Number: 9, Kind: "k", Slots: []int{5, 9}}), api.OK)
	expect(t, "Commit", v.Commit(changed(turning(t, v, api.Area{Offset: 65536, Size: 4096}), func(m *api.Meta) { m.Label = "z" })), api.OK)
	for name, call := range map[string]func() *keyring.Ring{
		"Load":   func() *keyring.Ring { return ready(t, v, v.tape.again()) },
		"Prefer": func() *keyring.Ring { v.Prefer(0, 1); return v.Ring },
		"Kill":   func() *keyring.Ring { v.Kill(9); return v.Ring },
	} {
		r := call()
		want := r.Meta()
		spoil(r.Meta())
		if got := r.Meta(); !same(got, want) {
			t.Errorf("%s: what Meta tells is kept: %s", name, brief(got))
		}
		expect(t, name, r.Commit(want), api.OK)
		for i, x := range want.Tokens {
			fill(x.Slots, i)
		}
		for i, x := range want.Tokens {
			if slices.ContainsFunc(x.Slots[:cap(x.Slots)], func(n int) bool { return n != i }) {
				t.Errorf("%s: two tokens share memory", name)
			}
		}
	}
}

// P10.19: what Commit, Note and Free are handed is neither changed nor kept.
func TestArgumentsApart(t *testing.T) {
	v := scene(t, 512)
	want := changed(v.Meta(), func(m *api.Meta) { m.Tokens = append(m.Tokens, api.Token{Number: 8, Kind: "k", Slots: []int{0, 5, 9}}) })
	m := room(want)
	kept := allOf(m)
	expect(t, "Commit", v.Commit(m), api.OK)
	if _, e := keyring.Free(m, 4096); e != api.OK || allOf(m) != kept {
		t.Errorf("Commit or Free changes what it is handed: error %d", e)
	}
	spoil(m)
	stands(t, "Commit", v.Ring, want, v.Seq(), false, false)
	token := api.Token{Number: 4, Kind: "k", Slots: roomy([]int{0, 9}, 77)}
	expect(t, "Note", v.Note(token), api.OK)
	want = v.Meta()
	if fmt.Sprint(token.Slots[:5]) != "[0 9 77 77 77]" {
		t.Errorf("Note changes what it is handed")
	}
	fill(token.Slots, -7)
	stands(t, "Note", v.Ring, want, v.Seq(), false, false)
	expect(t, "Kill", v.Kill(9), api.OK)
	if fmt.Sprint(token.Slots[:5]) != "[-7 -7 -7 -7 -7]" {
		t.Errorf("Kill changes what Note was handed")
	}
	stands(t, "all of it", v.load(), v.Meta(), v.Seq(), true, false)
}

// P10.19: passphrases and the master key are neither changed nor kept; keys are told in new memory.
func TestKeysApart(t *testing.T) {
	pass := roomy([]byte("pass"), 'z')
	kept := func(name string) {
		t.Helper()
		if string(pass[:7]) != "passzzz" {
			t.Errorf("%s changes what it is handed", name)
		}
	}
	d := newTape(t, 512, 65536)
	s := fresh(t, 100)
	r, e := keyring.Make(d, s, format(), pass)
	expect(t, "Make", e, api.OK)
	kept("Make")
	_, e = r.Add(s, pass, 3, opts())
	expect(t, "Add", e, api.OK)
	kept("Add")
	expect(t, "Change", r.Change(s, pass, 0, opts()), api.OK)
	kept("Change")
	opens(t, "Open", r, "pass", 0, 0, api.OK)
	_, e = r.Open(pass, -1)
	expect(t, "Open", e, api.OK)
	kept("Open")
	fill(pass, 0xff)
	opens(t, "behind it", r, "pass", 3, 3, api.OK)

	one, _ := r.Master()
	two, _ := r.Master()
	key, _ := r.Key(0)
	master := bytes.Clone(one)
	fill(one, 0xff)
	fill(key, 0xff)
	if got, e := r.Master(); !bytes.Equal(got, master) || !bytes.Equal(two, master) || e != api.OK {
		t.Errorf("what Master tells is kept: error %d", e)
	}
	if got, e := r.Key(0); bytes.Equal(got, key) || e != api.OK {
		t.Errorf("what Key tells is kept: error %d", e)
	}
	handed := roomy(master, 'z')
	r, _ = keyring.Load(d)
	expect(t, "Unlock", r.Unlock(handed), api.OK)
	if string(handed[:35]) != string(master)+"zzz" {
		t.Errorf("Unlock changes what it is handed")
	}
	fill(handed, 0xff)
	if got, _ := r.Master(); !bytes.Equal(got, master) {
		t.Errorf("Unlock keeps what it is handed")
	}
	told, _ := r.Master()
	expect(t, "Lock", r.Lock(), api.OK)
	if !bytes.Equal(told, master) || handed[0] != 0xff {
		t.Errorf("Lock changes what was told, or handed in")
	}
}

// keeper is a device that changes what it is handed to write, and keeps what it is handed to read into.
type keeper struct {
	*tape
	kept [][]byte
}

func (k *keeper) Read(at uint64, into []byte) api.Errno {
	k.kept = append(k.kept, into)
	return k.tape.Read(at, into)
}

func (k *keeper) Write(at uint64, data []byte) api.Errno {
	k.kept = append(k.kept, data)
	return k.tape.Write(at, data)
}

// What a device has been handed is nothing that the ring still needs.
func TestDeviceApart(t *testing.T) {
	k := &keeper{tape: newTape(t, 512, 65536)}
	s := fresh(t, 100)
	r, e := keyring.Make(k, s, format(), []byte("a"))
	expect(t, "Make", e, api.OK)
	for range 3 {
		for _, b := range k.kept {
			fill(b, 0xff)
		}
		m, e := r.Master()
		expect(t, "Master", e, api.OK)
		again, e := keyring.Load(k)
		expect(t, "Load", e, api.OK)
		expect(t, "Unlock", again.Unlock(m), api.OK)
		stands(t, "as it was", again, r.Meta(), r.Seq(), false, false)
		_, e = r.Add(s, []byte("b"), -1, opts())
		expect(t, "Add", e, api.OK)
		opens(t, "as it was", r, "a", -1, 0, api.OK)
	}
}

// Rule 3: an empty list and nil are the same.
func TestEmptyLists(t *testing.T) {
	v := newVolume(t, 512, format())
	expect(t, "Note", v.Note(api.Token{Kind: "k", Slots: []int{}}), api.OK)
	m := changed(v.Meta(), func(m *api.Meta) { m.Tokens[0].Slots = []int{} })
	commits(t, "no slots", v, m)
	m.Tokens = []api.Token{}
	commits(t, "no tokens", v, m)
	_, e := v.Add(v.spring, []byte{}, -1, opts())
	expect(t, "Add", e, api.OK)
	opens(t, "no passphrase", v.Ring, "", 1, 1, api.OK)
	if n, e := v.Open(nil, 1); n != 1 || e != api.OK {
		t.Errorf("nil: %d, error %d", n, e)
	}
}

// Rule 4: rings over unlike devices have nothing in common, at the same time too.
func TestManyGoroutines(t *testing.T) {
	var all sync.WaitGroup
	for i := range 8 {
		v := scene(t, units[i%4])
		want := scene(t, units[i%4])
		for _, x := range deeds() {
			expect(t, x.name, x.call(want.Ring, want.spring), api.OK)
		}
		all.Go(func() {
			for _, x := range deeds() {
				expect(t, x.name, x.call(v.Ring, v.spring), api.OK)
			}
			if !bytes.Equal(v.tape.disk, want.tape.disk) || !same(v.Meta(), want.Meta()) {
				t.Errorf("goroutine %d: another device", i)
			}
		})
	}
	all.Wait()
}

// The chapter: package keyring leans on api, digest, rijndael, tweak, shred, spring, header and ledger; LANGUAGE.md's packages alone.
func TestImports(t *testing.T) {
	may := []string{"bytes", "cmp", "errors", "slices", "strings", "coffer/api", "coffer/digest", "coffer/rijndael", "coffer/tweak", "coffer/shred", "coffer/spring", "coffer/header", "coffer/ledger"}
	files, err := filepath.Glob("*.go")
	if err != nil || len(files) == 0 {
		t.Fatal(err)
	}
	for _, f := range files {
		if strings.HasSuffix(f, "_test.go") {
			continue
		}
		parsed, err := parser.ParseFile(token.NewFileSet(), f, nil, parser.ImportsOnly)
		if err != nil {
			t.Fatal(err)
		}
		for _, i := range parsed.Imports {
			if path, _ := strconv.Unquote(i.Path.Value); !slices.Contains(may, path) {
				t.Errorf("%s imports %s", f, path)
			}
		}
	}
}
