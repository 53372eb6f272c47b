package shell_test

import (
	"fmt"
	"math/rand/v2"
	"reflect"
	"strings"
	"testing"

	"coffer/api"
	"coffer/shell"
)

// reads holds Parse against the second reckoning.
func reads(t *testing.T, line string) {
	t.Helper()
	said, e, at := shell.Parse(line)
	wantSaid, wantE, wantAt := parsed(line)
	if e != wantE || at != wantAt || said.Command != wantSaid.Command || said.Name != wantSaid.Name || fmt.Sprintf("%q", said.Options) != fmt.Sprintf("%q", wantSaid.Options) {
		t.Errorf("%.80q: got %q %d %d, want %q %d %d", line, said, e, at, wantSaid, wantE, wantAt)
	}
}

func TestParse(t *testing.T) {
	long := strings.Repeat("a", 16)
	for _, c := range []struct {
		line string
		want api.ShellLine
	}{
		{"", api.ShellLine{}},
		{"\t \t", api.ShellLine{}},
		{"#", api.ShellLine{}},
		{"\t# a=\" \\ ~", api.ShellLine{}},
		{"a", api.ShellLine{Command: "a"}},
		{" \ta\t ", api.ShellLine{Command: "a"}},
		{"a #", api.ShellLine{Command: "a"}},
		{"a b", api.ShellLine{Command: "a", Name: "b"}},
		{"a b_9z", api.ShellLine{Command: "a", Name: "b_9z"}},
		{"a b\t#c", api.ShellLine{Command: "a", Name: "b"}},
		{long + " " + long + " " + long + "=1", api.ShellLine{Command: long, Name: long, Options: []api.ShellOption{{Key: long, Value: "1"}}}},
		{"a " + long + "=1", api.ShellLine{Command: "a", Options: []api.ShellOption{{Key: long, Value: "1"}}}},
		{"a b12345678901234_", api.ShellLine{Command: "a", Name: "b12345678901234_"}},
		{"a b=", api.ShellLine{Command: "a", Options: []api.ShellOption{{Key: "b"}}}},
		{"a b=\"\" c=#d", api.ShellLine{Command: "a", Options: []api.ShellOption{{Key: "b"}, {Key: "c", Value: "#d"}}}},
		{"a b==\"!~", api.ShellLine{Command: "a", Options: []api.ShellOption{{Key: "b", Value: "=\"!~"}}}},
		{"a b=\"\t #\\\"\\\\\\x00\\xaF\\x5c\"", api.ShellLine{Command: "a", Options: []api.ShellOption{{Key: "b", Value: "\t #\"\\\x00\xaf\\"}}}},
		{"a b=\\x41", api.ShellLine{Command: "a", Options: []api.ShellOption{{Key: "b", Value: "\\x41"}}}},
		{"a c=2 b=1 c=3", api.ShellLine{Command: "a", Options: []api.ShellOption{{Key: "c", Value: "2"}, {Key: "b", Value: "1"}, {Key: "c", Value: "3"}}}},
	} {
		said, e, at := shell.Parse(c.line)
		if !reflect.DeepEqual(said, c.want) || e != api.OK || at != 0 {
			t.Errorf("%q: %q %d %d", c.line, said, e, at)
		}
		reads(t, c.line)
	}
}

func TestParseFaults(t *testing.T) {
	long := strings.Repeat("z", 16)
	for _, c := range []struct {
		line string
		at   int
	}{
		{"A", 1}, {" 1", 2}, {"_", 1}, {"=", 1}, {"\"", 1}, {"a1", 2}, {"a=", 2}, {"a#", 2}, {"a_", 2}, {"\x00", 1}, {"\n", 1}, {"a\r", 2},
		{long + "a", 17}, {long + "1", 17}, {long + "=", 17},
		{"a 1", 3}, {"a _b", 3}, {"a B", 3}, {"a b#", 4}, {"a b-", 4}, {"a b1=", 5}, {"a b_=", 5}, {"a bC", 4}, {"a \"b\"", 3},
		{"a " + long + "z", 19}, {"a " + long + "1", 19}, {"a " + long + "_", 19}, {"a " + long + "z=1", 19}, {"a b" + long[1:] + "\"", 19},
		{"a b c", 6}, {"a b c d=1", 6}, {"a b c #", 6}, {"a b c1=2", 6}, {"a b c_=2", 6}, {"a b =", 5}, {"a b " + long + "z=", 21}, {"a b " + long, 21},
		{"a b=1 c", 8}, {"a b=1 c2", 8}, {"a b=1 2", 7},
		{"a b=\"", 6}, {"a b=\"c", 7}, {"a b=\"\\", 7}, {"a b=\"\\x", 8}, {"a b=\"\\x0", 9}, {"a b=\"\\x00", 10},
		{"a b=\"\"c", 7}, {"a b=\"\"#", 7}, {"a b=\"\"\"", 7}, {"a b=\"\\n\"", 7}, {"a b=\"\\X41\"", 7}, {"a b=\"\\xg0\"", 8}, {"a b=\"\\x0G\"", 9}, {"a b=\"\\x 0\"", 8},
		{"a b=\"\x7f\"", 6}, {"a b=\"\n\"", 6}, {"a b=\"\x1f\"", 6}, {"a b=\x7f", 5}, {"a b=c\x80", 6}, {"a b=\x08", 5}, {"a\x0bb", 2}, {"# \x7f", 3}, {"#\x00", 2}, {"a # \xff", 5}, {"a #\n", 4},
	} {
		said, e, at := shell.Parse(c.line)
		if !reflect.DeepEqual(said, api.ShellLine{}) || e != api.ErrShellLine || at != c.at {
			t.Errorf("%q: %q %d %d, want %d", c.line, said, e, at, c.at)
		}
		reads(t, c.line)
	}
}

// The length is looked at ahead of all else, and not where a line ends too early.
func TestParseLength(t *testing.T) {
	for _, c := range []struct {
		line string
		e    api.Errno
		at   int
	}{
		{strings.Repeat(" ", 4096), 0, 0},
		{strings.Repeat(" ", 4097), 160, 4097},
		{"\x00" + strings.Repeat(" ", 4096), 160, 4097},
		{"\x00" + strings.Repeat(" ", 4095), 160, 1},
		{"#" + strings.Repeat("x", 1<<20), 160, 4097},
		{"a b=\"" + strings.Repeat("x", 4091), 160, 4097},
		{"a b=" + strings.Repeat("x", 4092), 0, 0},
		{"a b=\"" + strings.Repeat("x", 4090) + "\"", 0, 0},
		{"a b c=1 " + strings.Repeat("d=1 ", 1022), 0, 0},
	} {
		said, e, at := shell.Parse(c.line)
		if e != c.e || at != c.at || e != api.OK && !reflect.DeepEqual(said, api.ShellLine{}) {
			t.Errorf("%.20q of %d bytes: %d %d", c.line, len(c.line), e, at)
		}
		reads(t, c.line)
	}
}

// Every byte at every place of a line with all there is in one.
func TestParseEachByte(t *testing.T) {
	t.Parallel()
	whole := " ab c_1\td=e ef=\"g\\\"\\\\\\x4fh\"  #i"
	for i := range len(whole) + 1 {
		for b := range 256 {
			reads(t, whole[:i]+string([]byte{byte(b)}))
			reads(t, whole[:i]+string([]byte{byte(b)})+whole[i:])
			if i < len(whole) {
				reads(t, whole[:i]+string([]byte{byte(b)})+whole[i+1:])
			}
		}
	}
}

// All short lines of the bytes that mean something.
func TestParseShort(t *testing.T) {
	t.Parallel()
	const letters = "ax1_=\"\\# \x01"
	var all func(line string, more int)
	all = func(line string, more int) {
		reads(t, line)
		if more > 0 {
			for _, c := range []byte(letters) {
				all(line+string([]byte{c}), more-1)
			}
		}
	}
	all("", 4)
	all("a b", 3)
	all("a b c=", 4)
	all("a b c=\"", 4)
	all("a aaaaaaaaaaaaaaa", 3)
	all("aaaaaaaaaaaaaaa", 3)
	all("a b aaaaaaaaaaaaaaa", 3)
}

func TestParseRandom(t *testing.T) {
	t.Parallel()
	r := rand.New(rand.NewPCG(16, 1))
	pieces := []string{"a", "slab", "b9", "_", "=", "\"", "\\", "\\x", "4", "f", "F", " ", "\t", "#", "abcdefgh", "12345678", "\\\"", "\\\\", "~", "!", "A", "\x7f", "\x00"}
	for range 20000 {
		var line strings.Builder
		for range r.IntN(14) {
			line.WriteString(pieces[min(r.IntN(len(pieces)), r.IntN(len(pieces)+6))])
		}
		reads(t, line.String())
	}
}

func TestQuote(t *testing.T) {
	var all []byte
	for b := range 256 {
		all = append(all, byte(b))
		text := string([]byte{byte(b)})
		expect(t, "Quote", shell.Quote(text), quoted(text))
	}
	for _, text := range []string{"", "a b", "\"\\", "\\x41", string(all), strings.Repeat("\xff", 1000)} {
		expect(t, "Quote", shell.Quote(text), quoted(text))
		said, e, _ := shell.Parse("a b=" + shell.Quote(text))
		if e != api.OK || len(said.Options) != 1 || said.Options[0].Value != text {
			t.Errorf("%q is read as %q, %d", text, said, e)
		}
	}
}
