package shell_test

import (
	"fmt"
	"slices"
	"strings"
	"sync"
	"testing"

	"coffer/shell"
)

func TestDo(t *testing.T) {
	t.Parallel()
	for _, c := range []struct {
		script string
		want   []string
	}{
		{"", nil},
		{"\n", nil},
		{" \n\t\n# x\n", nil},
		{"slab d count=9", []string{"1: ok"}},
		{"slab d count=9\n", []string{"1: ok"}},
		{"\nslab d count=9\n\n", []string{"2: ok"}},
		{"x\nslab d count=9\n\x01\npeek d at=7 sectors=2\nused d", []string{"1: error 161", "2: ok", "3: error 160 at 1", "4: ok", "  7 fill 00", "  8 fill 00", "5: ok 0"}},
		{"slab d count=9\r\nused d\r", []string{"1: error 160 at 15", "2: error 160 at 7"}},
		{strings.Repeat(" ", 4097) + "\nx", []string{"1: error 160 at 4097", "2: error 161"}},
	} {
		same(t, c.script, shell.New().Do(c.script), c.want)
		same(t, c.script, newPlain().do(c.script), c.want)
	}
}

func TestDoBounds(t *testing.T) {
	t.Parallel()
	full := strings.Repeat(strings.Repeat(" ", 4095)+"\n", 64) // 2^18 bytes
	long := []string{"error 4"}
	for _, c := range []struct {
		name, script string
		want         []string
	}{
		{"bytes", full, nil},
		{"bytes and one", full + "\n", long},
		{"bytes and one", full + " ", long},
		{"bytes, the last one of which says something", full[:1<<18-1] + "x", []string{"64: error 161"}},
		{"lines", strings.Repeat("\n", 4096), nil},
		{"lines and one", strings.Repeat("\n", 4097), long},
		{"lines, and one that has a byte", strings.Repeat("\n", 4096) + " ", long},
		{"lines, the last one of which has no line feed", strings.Repeat("\n", 4095) + "x", []string{"4096: error 161"}},
		{"many lines", strings.Repeat("x\n", 4097), long},
		{"many bytes", strings.Repeat("x", 1<<20), long},
	} {
		same(t, c.name, shell.New().Do(c.script), c.want)
	}
	s := shell.New()
	s.Line("slab d count=1")
	same(t, "too long", s.Do("slab e count=1\n"+strings.Repeat("\n", 4096)), long)
	same(t, "nothing was played", s.Do("used e\nused d"), []string{"1: error 163 e", "2: ok 0"})
}

func TestNil(t *testing.T) {
	var s *shell.Shell
	for _, script := range []string{"", "x", "slab d count=1", strings.Repeat("\n", 5000), strings.Repeat("x", 1<<19)} {
		same(t, "Line", s.Line(script), nil)
		same(t, "Do", s.Do(script), nil)
	}
	if shell.New() == nil {
		t.Error("New")
	}
}

// A line that says nothing is answered nothing; one that is none is told by its place.
func TestLines(t *testing.T) {
	s := shell.New()
	for _, line := range []string{"", " \t", "# slab d count=1", "  #"} {
		same(t, line, s.Line(line), nil)
	}
	same(t, "d", s.Line("used d"), []string{"error 163 d"})
	same(t, "two lines", s.Line("slab d count=1\n"), []string{"error 160 at 15"})
	same(t, "long", s.Line(strings.Repeat("#", 4097)), []string{"error 160 at 4097"})
}

const story = `slab d count=200
spring s entropy=` + entropy + `
format d spring=s pass=a keys=16384 digest=1 turns=1 stripes=2
open v on=d pass=a workers=2
write v at=3 text=hello
rotate v spring=s cipher=aes128-xts-plain64 mode=digests hot=9
step v times=5
nosuch
share v spring=s need=2 of=3
status v
close v
dump d
open w on=d pass=a
read w at=0 sectors=9
step w times=99
pending d`

// numberless takes the lines' numbers away.
func numberless(answers []string) []string {
	var all []string
	for _, l := range answers {
		if _, behind, is := strings.Cut(l, ": "); is && !strings.HasPrefix(l, "  ") {
			l = behind
		}
		all = append(all, l)
	}
	return all
}

// P16.5: wherever a script is cut in two, the answers are those of the whole, line numbers apart.
func TestCut(t *testing.T) {
	t.Parallel()
	whole := numberless(shell.New().Do(story))
	lines := strings.Split(story, "\n")
	for i := range lines {
		s := shell.New()
		first := s.Do(strings.Join(lines[:i], "\n"))
		second := s.Do(strings.Join(lines[i:], "\n"))
		same(t, fmt.Sprintf("cut at %d", i), numberless(slices.Concat(first, second)), whole)
	}
	s := shell.New()
	var each []string
	for _, l := range lines {
		each = append(each, s.Line(l)...)
	}
	same(t, "line by line", each, whole)
}

// P16.5: shells have nothing in common, and may be used at the same time.
func TestApart(t *testing.T) {
	t.Parallel()
	want := shell.New().Do(story)
	var all [6][]string
	var wait sync.WaitGroup
	for i := range all {
		wait.Go(func() { all[i] = shell.New().Do(story) })
	}
	wait.Wait()
	for _, got := range all {
		same(t, "beside others", got, want)
	}
	a, b := shell.New(), shell.New()
	var gotA, gotB []string
	for _, l := range strings.Split(story, "\n") {
		gotA = append(gotA, a.Line(l)...)
		gotB = append(gotB, b.Line(l)...)
	}
	same(t, "by turns", gotA, numberless(want))
	same(t, "by turns", gotB, numberless(want))
}
