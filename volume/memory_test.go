package volume_test

import (
	"bytes"
	"go/parser"
	"go/token"
	"path/filepath"
	"reflect"
	"runtime"
	"slices"
	"strconv"
	"strings"
	"testing"
	"time"

	"coffer/api"
	"coffer/volume"
)

// roomy gives a list in memory of its own, with spare room that holds the first item once more.
func roomy[T any](list []T) []T {
	out := slices.Clone(list)
	return append(out, slices.Repeat(list[:1], 3)...)[:len(list)]
}

// spoil overwrites a list, its spare room too: whoever shares memory with it shows it.
func spoil[T any](list []T, with T) {
	list = list[:cap(list)]
	for i := range list {
		list[i] = with
	}
}

// P14.3, rule 2: Status and Tokens are new memory, each list for itself.
func TestTold(t *testing.T) {
	st := newStage(t, 512, "null")
	v := st.open(st.tape.again())
	m := st.meta(st.tape)
	spoil(v.Status().Slots, 77)
	tokens := v.Tokens()
	for _, x := range tokens[:cap(tokens)] {
		spoil(x.Slots, 77)
	}
	stands(t, "spoilt", v, m, api.Opened, 0)
	spoil(tokens, api.Token{Number: 77})
	stands(t, "spoilt", v, m, api.Opened, 0)
	tokens = v.Tokens()
	for i, x := range tokens {
		spoil(x.Slots, 77)
		for j, y := range tokens {
			if j > i && !reflect.DeepEqual(y, m.Tokens[j]) {
				t.Errorf("token %d shares memory with token %d", j, i)
			}
		}
	}
}

// handed is a list that was handed in, and what it held, its spare room too.
type handed struct {
	list, kept []byte
}

func hand(text string) handed {
	b := roomy([]byte(text))
	return handed{b, bytes.Clone(b[:cap(b)])}
}

// spoilt: it has not changed; from now on it holds something else.
func (h handed) spoilt(t *testing.T, name string) {
	t.Helper()
	if !bytes.Equal(h.list[:cap(h.list)], h.kept) {
		t.Errorf("%s: what is handed in is changed", name)
	}
	spoil(h.list, 0x77)
}

// P14.13: what is handed in is not changed and not kept.
func TestHandedIn(t *testing.T) {
	d := newStage(t, 512, "null").tape.again()
	s := fresh(t, 1000)
	pass := hand("first")
	f := format()
	f.Cipher = "null"
	expect(t, "Format", volume.Format(d, s, f, pass.list), api.OK)
	pass.spoilt(t, "Format")
	pass = hand("first")
	v, e := volume.Open(d, pass.list, -1, 2)
	must(t, "Open", e)
	pass.spoilt(t, "Open")
	other := hand("second")
	_, e = v.AddSlot(s, other.list, 1, opts())
	expect(t, "AddSlot", e, api.OK)
	other.spoilt(t, "AddSlot")
	other = hand("third")
	expect(t, "ChangeSlot", v.ChangeSlot(s, other.list, 0, opts()), api.OK)
	other.spoilt(t, "ChangeSlot")
	slots := roomy([]int{0, 1})
	kept := slices.Clone(slots[:cap(slots)])
	expect(t, "Note", v.Note(api.Token{Number: 4, Kind: "k", Slots: slots}), api.OK)
	if !slices.Equal(slots[:cap(slots)], kept) {
		t.Error("Note: what is handed in is changed")
	}
	spoil(slots, 77)
	if got := v.Tokens(); !sameTokens(got, []api.Token{{Number: 4, Kind: "k", Slots: []int{0, 1}}}) {
		t.Errorf("Note: %v", got)
	}
	data := hand(string(contents(512, 0, 4, 1)))
	expect(t, "Write", v.Write(2, data.list), api.OK)
	data.spoilt(t, "Write")
	into := make([]byte, 2048)
	expect(t, "Read", v.Read(2, into), api.OK)
	if !bytes.Equal(into, contents(512, 0, 4, 1)) {
		t.Error("Read: other bytes")
	}
	spoil(into, 0x77)
	holds(t, "Read", v, slices.Concat(d.disk[int(first(512))*512:][:1024], contents(512, 0, 4, 1), d.disk[int(first(512)+6)*512:]))
	expect(t, "Suspend", v.Suspend(), api.OK)
	other = hand("second")
	expect(t, "Resume", v.Resume(other.list, -1), api.OK)
	other.spoilt(t, "Resume")
	key := hand(string(mustMaster(t, v)))
	expect(t, "Close", v.Close(), api.OK)
	v, e = volume.Reopen(d, key.list, 2)
	expect(t, "Reopen", e, api.OK)
	key.spoilt(t, "Reopen")
	if got := mustMaster(t, v); string(got) == string(key.list) {
		t.Error("Reopen: the key is kept")
	}
}

// P14.13: all goroutines that a call began have ended when it answers.
func TestGoroutines(t *testing.T) {
	st := newStage(t, 512, "aes128-ecb").turning(api.Turn{Cipher: "null", Mode: 2, Hot: 8}, 0, true)
	ahead := runtime.NumGoroutine()
	v, e := volume.Open(st.tape.again(), []byte("a"), -1, 16)
	must(t, "Open", e)
	holds(t, "Open", v, contents(512, 0, many, 0))
	must(t, "Write", v.Write(0, contents(512, 0, many, 1)))
	for over := false; !over; {
		over, e = v.RotateStep()
		must(t, "RotateStep", e)
	}
	for range 100 { // one that has ended may be counted for a moment
		if runtime.NumGoroutine() <= ahead {
			return
		}
		time.Sleep(time.Millisecond)
	}
	t.Errorf("%d goroutines, not %d", runtime.NumGoroutine(), ahead)
}

// The chapter's list of calls is whole: the ring that a volume stands over gives nobody its own.
func TestCalls(t *testing.T) {
	want := strings.Fields("AddSlot ChangeSlot Close Flush KillSlot Master Note PreferSlot Read Resume RotateStart RotateStep Status Suspend Tokens Unnote Write")
	var got []string
	x := reflect.TypeFor[*volume.Volume]()
	for i := range x.NumMethod() {
		got = append(got, x.Method(i).Name)
	}
	if !slices.Equal(got, want) {
		t.Errorf("%v", got)
	}
}

// The chapter: package volume leans on api, spring, tweak, convoy, keyring and rekey; LANGUAGE.md's packages alone.
func TestImports(t *testing.T) {
	may := []string{"errors", "iter", "coffer/api", "coffer/spring", "coffer/tweak", "coffer/convoy", "coffer/keyring", "coffer/rekey"}
	files, err := filepath.Glob("*.go")
	if err != nil || len(files) == 0 {
		t.Fatal(err)
	}
	for _, f := range files {
		if strings.HasSuffix(f, "_test.go") {
			continue
		}
		parsed, err := parser.ParseFile(token.NewFileSet(), f, nil, parser.ImportsOnly)
		if err != nil {
			t.Fatal(err)
		}
		for _, i := range parsed.Imports {
			if path, _ := strconv.Unquote(i.Path.Value); !slices.Contains(may, path) {
				t.Errorf("%s imports %s", f, path)
			}
		}
	}
}
