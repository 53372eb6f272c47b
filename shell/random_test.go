package shell_test

import (
	"fmt"
	"math/rand/v2"
	"slices"
	"strconv"
	"strings"
	"testing"

	"coffer/api"
	"coffer/shell"
)

const entropy = "000102030405060708090a0b0c0d0e0f"

// writer makes lines that often say something that can be done, and often not.
type writer struct {
	*rand.Rand
	p      *plain
	shares []string // that were told
	master string
}

// of takes one, the first ones most often.
func (w *writer) of(list ...string) string {
	return list[min(w.IntN(len(list)), w.IntN(len(list)), w.IntN(len(list)))]
}

func (w *writer) one(n int) bool { return w.IntN(n) == 0 }

// values of an option: those that the command takes gladly, some that it refuses, some that are of no such kind.
func (w *writer) value(c command, e entry) string {
	if w.one(40) {
		return w.of("", "x", "-1", "0", "1x", "yes", "99999999999999999999", "18446744073709551615", "-9223372036854775808", "9223372036854775808", "000000000000000000001", "+1", "A", "0g", "012", "1,,2", "1:off:", "a b")
	}
	switch e.key {
	case "unit":
		return w.of("512", "512", "512", "1024", "4096", "513")
	case "count":
		return w.of("200", "400", "100", "1", "0", "4294967296", "4294967297")
	case "plan":
		return w.of("", "60:off:1", fmt.Sprintf("%d:off:%d", 20+w.IntN(200), w.IntN(4)), "30:flush,90:part:2,140:write", "9:turn:7:5,12:read", "1:turn:0:9999", "0:off", "-5:read", "40:off:-1", "1:boom", "2:off:1:0:0", "7:turn:1:-1")
	case "as", "on", "from":
		if strings.HasSuffix(e.thing, "backup") {
			return w.of("b", "c", "b1", "b2", "b3", "b4", "b5", "b6", "b7", "b8")
		}
		return w.of("d", "e", "f", "g", "h", "i", "j", "k", "l")
	case "spring":
		return w.of("s", "r", "q")
	case "pass":
		return w.of("a", "b", "c", "", strings.Repeat("p", 512), strings.Repeat("p", 513))
	case "at":
		return w.of("0", "3", "50", "103", "104", "199", "200", "18446744073709551615")
	case "sectors":
		return w.of("2", "8", "64", "65", "0", "4096", "4097")
	case "fill":
		return w.of("0", "5", "255", "256")
	case "hex":
		return w.of("", "0aFf", strings.Repeat("ab", 513), "abc")
	case "text":
		return w.of("", "hello", strings.Repeat("t", 1025), "\x00\xff\"\\")
	case "turns", "digest":
		return w.of("1", "2", "0")
	case "stripes":
		return w.of("2", "1", "5", "0", "600")
	case "keys":
		return w.of("16384", "8192", "4095")
	case "head":
		return w.of("16384", "32768", "5")
	case "slot":
		return w.of("0", "-1", "1", "2", "7", "32", "-2")
	case "workers":
		return w.of("1", "4", "16", "0", "17")
	case "hash":
		return w.of("256", "512", "224", "255")
	case "cipher", "slotcipher":
		return w.of("aes256-xts-plain64", "aes128-xts-plain64", "aes256-cbc-plain64", "null", "aes")
	case "mode":
		return w.of("journal", "digests", "what")
	case "hot":
		return w.of("8", "13", "1", "50", "0", "18446744073709551615")
	case "times":
		return w.of("1", "2", "3", "20", "4096", "4097", "0")
	case "size":
		return w.of("49152", "4096", "0", "4095", "16777216", "33554432")
	case "entropy":
		return w.of(entropy, "0f", "")
	case "limit":
		return w.of("16777216", "9", "2", "0")
	case "need":
		return w.of("1", "2", "3", "0", "17")
	case "of":
		return w.of("3", "2", "255", "256")
	case "number":
		return w.of("0", "1", "3", "31", "32", "-1")
	case "slots":
		return w.of("", "0", "0,1", "1,0", "-1", "0,0", "0,", "x")
	case "kind", "note", "label", "subsystem", "uuid", "personal", "nonce":
		return w.of("ab", "", "a \"b\"\t", strings.Repeat("n", 50), "\x00")
	case "prio":
		return w.of("1", "2", "0", "3")
	case "master":
		return w.of(w.master, entropy, "")
	case "shares":
		return strings.Join(slices.Repeat([]string{w.share()}, 1+w.IntN(2)), "\n") + w.of("", "\n"+w.share(), "\n"+w.share()+"\n"+w.share())
	case "keep":
		return w.of("", "1", "0101", strings.Repeat("1", 200), "012")
	}
	return w.of("yes", "no", "Yes")
}

func (w *writer) share() string {
	if len(w.shares) == 0 {
		return w.of("babab", "x", "")
	}
	return w.of(w.shares...)
}

// name of what a command is about.
func (w *writer) name(c command) string {
	if w.one(50) {
		return w.of("", "zz", "d_1")
	}
	switch strings.TrimPrefix(c.about, "new ") {
	case "slab":
		return w.of("d", "e", "f", "g", "h", "i", "j", "k", "l")
	case "spring":
		return w.of("s", "r", "q", "q1", "q2", "q3", "q4", "q5", "q6")
	}
	var open []string
	for name, v := range w.p.volumes {
		if v.Status().State != api.Closed {
			open = append(open, name)
		}
	}
	if len(open) > 0 && !w.one(8) {
		slices.Sort(open)
		return w.of(open...)
	}
	return w.of("v", "w", "v1", "v2", "v3", "v4", "v5", "v6", "v7")
}

// has: whether the option stands in the line.
func (w *writer) has(c command, e entry) bool {
	switch e.key {
	case "fill", "hex", "text":
		return w.one(3)
	case "turns", "digest", "keys", "stripes":
		return !w.one(30) // else it takes long
	case "plan", "slotcipher", "hash", "prio", "label", "subsystem", "uuid", "head":
		return w.one(8)
	}
	return e.must && !w.one(50) || !e.must && w.one(3)
}

// command takes one; seldom one behind which others are refused.
func (w *writer) command() command {
	c := w.p.commands[w.IntN(len(w.p.commands))]
	for slices.Contains([]string{"off", "suspend", "close", "format"}, c.name) && !w.one(4) {
		c = w.p.commands[w.IntN(len(w.p.commands))]
	}
	return c
}

func (w *writer) line() string {
	c := w.command()
	line := c.name
	if name := w.name(c); name != "" {
		line += " " + name
	}
	var options []string
	for _, e := range c.entries {
		if w.has(c, e) {
			text := e.key + "=" + shell.Quote(w.value(c, e))
			options = append(options, text)
			if w.one(100) {
				options = append(options, text)
			}
		}
	}
	if w.one(100) {
		options = append(options, w.of("size=1", "nosuch=", "fill=1"))
	}
	w.Shuffle(len(options), func(i, k int) { options[i], options[k] = options[k], options[i] })
	line = strings.Join(append([]string{line}, options...), " ")
	if w.one(60) {
		at := w.IntN(len(line) + 1)
		line = line[:at] + w.of("#", "\x00", " ", "\"", "=", "x", "") + line[min(at+w.IntN(2), len(line)):]
	}
	return line
}

// heard keeps what later lines may be made of.
func (w *writer) heard(line string, answer []string) {
	if strings.HasPrefix(line, "master ") && len(answer) == 1 && len(answer[0]) == 67 {
		w.master = answer[0][3:]
	}
	if strings.HasPrefix(line, "share ") && len(answer) > 1 {
		w.shares = nil
		for _, l := range answer[1:min(len(answer), 4)] {
			w.shares = append(w.shares, l[2:])
		}
	}
}

// begins with what makes most commands play.
const begun = "slab d count=200\nslab e count=200 plan=\"150:off:1,300:turn:3:5\"\nspring s entropy=" + entropy + "\nspring r entropy=" + entropy + " nonce=01 limit=60\nformat d spring=s pass=a keys=16384 digest=1 turns=1 stripes=2\nformat e spring=s pass=b keys=16384 digest=1 turns=1 stripes=2\nopen v on=d pass=a\nmaster v\nshare v spring=s need=2 of=3\nbackup e as=b size=49152"

// Any lines, one behind the other, are answered as the second shell answers them, and as one script too.
func TestRandomLines(t *testing.T) {
	t.Parallel()
	const shells = 120
	var heard [shells]map[string]bool
	t.Run("shells", func(t *testing.T) {
		for seed := range shells {
			heard[seed] = map[string]bool{}
			t.Run(strconv.Itoa(seed), func(t *testing.T) {
				t.Parallel()
				playRandom(t, seed, heard[seed])
			})
		}
	})
	for _, c := range commands() {
		if !slices.ContainsFunc(heard[:], func(h map[string]bool) bool { return h[c.name+" ok"] }) {
			t.Errorf("%s was never answered ok", c.name)
		}
	}
}

func playRandom(t *testing.T, seed int, heard map[string]bool) {
	w := &writer{Rand: rand.New(rand.NewPCG(uint64(seed), 16)), p: newPlain()}
	s := shell.New()
	lines := append(strings.Split(begun, "\n"), make([]string, 70)...)
	var answers []string
	for i, line := range lines {
		if i > strings.Count(begun, "\n") {
			line = w.line()
			lines[i] = line
		}
		got, want := s.Line(line), w.p.line(line)
		if !slices.Equal(got, want) {
			t.Fatalf("line %d: %q\n got %q\nwant %q", i, line, got, want)
		}
		w.heard(line, want)
		if len(want) > 0 {
			word, _, _ := strings.Cut(line, " ")
			heard[word+" "+want[0][:2]] = true
			want[0] = fmt.Sprintf("%d: %s", i+1, want[0])
		}
		answers = append(answers, want...)
	}
	same(t, "as one script", shell.New().Do(strings.Join(lines, "\n")), answers)
}
