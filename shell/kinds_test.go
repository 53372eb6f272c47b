package shell_test

import (
	"strings"
	"testing"

	"coffer/shell"
)

// kindCases: of each kind a line up to the value, and values that are of it, and that are not.
var kindCases = []struct {
	kind, line, key string
	right, wrong    []string
}{
	{"number(0, 2^64 - 1)", "slab f", "count",
		[]string{"0", "1", "007", "00000000000000000001", "18446744073709551615"},
		[]string{"", "-1", "-0", "+1", "1 ", " 1", "1_0", "0x1", "1e3", "1.0", "x", "18446744073709551616", "99999999999999999999", "000000000000000000001", "\xd9\xa1"}},
	{"number(1, 64)", "peek d at=0", "sectors",
		[]string{"1", "64", "00000000000000000064"},
		[]string{"0", "65", "-1", "", "18446744073709551615", "000000000000000000064"}},
	{"number(1, 64)", "read v at=0", "sectors", []string{"1", "64"}, []string{"0", "65"}},
	{"number(1, 4096)", "poke d at=0 fill=1", "sectors", []string{"1", "4096"}, []string{"0", "4097", ""}},
	{"number(1, 4096)", "write v at=0 fill=1", "sectors", []string{"1", "4096"}, []string{"0", "4097", ""}},
	{"number(0, 255)", "poke d at=0", "fill", []string{"0", "255", "0255"}, []string{"256", "-1", "", "ff"}},
	{"number(0, 255)", "write v at=0", "fill", []string{"0", "255"}, []string{"256", "-1"}},
	{"number(1, 4096)", "step v", "times", []string{"1", "4096"}, []string{"0", "4097", "-1", ""}},
	{"whole", "slab f count=1", "unit",
		[]string{"0", "-0", "-1", "00000000000000000512", "-00000000000000000512", "9223372036854775807", "-9223372036854775808"},
		[]string{"", "-", "--1", "+1", "-+1", "1-", "1_0", "0x1", " 1", "9223372036854775808", "-9223372036854775809", "18446744073709551615", "000000000000000000512", "-000000000000000000512"}},
	{"bytes", "feed s", "entropy",
		[]string{"", "00", "aF", entropy},
		[]string{"0", "0g", " 00", "0x00", "00 ", "000"}},
	{"text", "resume v", "pass", []string{"", " ", "\x00\xff\n", "x=\"#"}, nil},
	{"bits", "restart d", "keep",
		[]string{"", "0", "1", "0101", strings.Repeat("1", 4000)},
		[]string{"2", "012", " ", "0,1", "-1", "o"}},
	{"numbers", "note v number=1 kind=k", "slots",
		[]string{"", "0", "-1", "1,2,3", "00000000000000000001,-9223372036854775808"},
		[]string{",", "1,", ",1", "1,,2", "1, 2", "x", "1,x", "+1", "9223372036854775808", "1;2"}},
	{"word", "copy d", "as",
		[]string{"a", "abcdefghijklmnop", "a_1", "z9"},
		[]string{"", "A", "1a", "_a", "a-b", "abcdefghijklmnopq", "a b", "a\x00", "\xc3\xa4", "aB"}},
	{"yes", "peek d at=0", "medium", []string{"yes", "no"}, []string{"", "y", "Yes", "YES", "true", "1", "yes ", "nein"}},
	{"mode", "rotate v spring=s cipher=null hot=8", "mode", []string{"journal", "digests"}, []string{"", "digest", "Journal", "1", "journal,digests"}},
	{"plan", "slab f count=9", "plan",
		[]string{"", "1:read", "1:write,2:part:1,3:flush,4:off:2,5:turn:3:4", "-1:read", "1:read:-5", "1:turn:0:18446744073709551615", "00000000000000000001:off:0:0", "1:read,1:read"},
		[]string{"1", "1:", ":read", "read", "1:boom", "1:Read", "1:read:", "1:read:0:", "1:read:0:0:0", "1:read:0:-1", "1:read:x", "x:read", "1:read,", ",1:read", "1:read,,2:off", "1 :read", "1:read:0:18446744073709551616", "9223372036854775808:off", "1:turn:9223372036854775808:0"}},
}

func TestKinds(t *testing.T) {
	t.Parallel()
	s := shell.New()
	s.Do("slab d count=200\nspring s entropy=" + entropy + "\nformat d spring=s pass=a keys=16384 digest=1 turns=1 stripes=2\nopen v on=d pass=a")
	for _, c := range kindCases {
		for is, values := range map[bool][]string{true: c.right, false: c.wrong} {
			for _, value := range values {
				expect(t, c.kind+" "+value, isOfKind(c.kind, value), is)
				line := c.line + " " + c.key + "=" + shell.Quote(value)
				got := s.Line(line)
				if len(got) == 0 || (got[0] != "error 162 "+c.key) != is {
					t.Errorf("%s: %q", line, got)
				}
				if is && value == "" && strings.HasPrefix(got[0], "error 163") {
					t.Errorf("%s: %q", line, got)
				}
			}
		}
	}
}

// Each option of each command has its kind: values of it are taken, others refused by the option's key.
func TestKindOfEachOption(t *testing.T) {
	t.Parallel()
	any := []string{"", "0", "1", "-1", "256", "65", "4097", "00", "0a", "x", "yes", "journal", "1:off", "1,2", "9223372036854775808", "18446744073709551616", "A b"}
	for _, c := range commands() {
		line := c.name
		for _, e := range c.entries {
			if e.must {
				line += " " + e.key + "=" + map[string]string{"whole": "1", "bytes": "00", "text": "x", "word": "w", "mode": "journal", "number(0, 2^64 - 1)": "1"}[e.kind]
			}
		}
		for _, e := range c.entries {
			ahead := strings.Fields(line)
			for i, f := range ahead {
				if strings.HasPrefix(f, e.key+"=") {
					ahead = append(ahead[:i:i], ahead[i+1:]...)
				}
			}
			if c.writes && e.key != "hex" && e.key != "text" && e.key != "fill" {
				ahead = append(ahead, "fill=1")
			}
			for _, value := range any {
				full := strings.Join(ahead, " ") + " " + e.key + "=" + shell.Quote(value)
				want := "error 163"
				if !isOfKind(e.kind, value) {
					want = "error 162 " + e.key
				}
				same(t, full, shell.New().Line(full), []string{want})
			}
		}
	}
}
