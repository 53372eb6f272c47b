package shell_test

import (
	"fmt"
	"strings"
	"testing"

	"coffer/api"
	"coffer/shell"
)

func TestExample1(t *testing.T) {
	said, e, at := shell.Parse(`write v at=5 text="a \"b\"\x0a" # c`)
	expect(t, "write", fmt.Sprintf("%q %d %d", said, e, at), `{"write" "v" [{"at" "5"} {"text" "a \"b\"\n"}]} 0 0`)
	said, e, at = shell.Parse("slab s count=")
	expect(t, "slab", fmt.Sprintf("%q %d %d", said, e, at), `{"slab" "s" [{"count" ""}]} 0 0`)
	_, e, at = shell.Parse("slab S")
	expect(t, "S", e, api.ErrShellLine)
	expect(t, "S", at, 6)
	_, e, at = shell.Parse(`read v at="1"2`)
	expect(t, "read", e, api.ErrShellLine)
	expect(t, "read", at, 14)
}

const example2 = `slab d count=200
spring s entropy=000102030405060708090a0b0c0d0e0f
format d spring=s pass=a keys=16384 digest=1 turns=1 stripes=2
open v on=d pass=a
write v at=3 text=hello
read v at=104
read v at=3
`

func TestExample2(t *testing.T) {
	got := shell.New().Do(example2)
	same(t, "answers", got[:7], []string{"1: ok", "2: ok", "3: ok", "4: ok slot 0", "5: ok", "6: error 142", "7: ok"})
	expect(t, "how many", len(got), 8)
	if !strings.HasPrefix(got[7], "  3 68656c6c6f0000000000000000000000 ") {
		t.Error(got[7])
	}
}

// lineOf plays a line that is answered by one.
func lineOf(t *testing.T, s *shell.Shell, line, want string) {
	t.Helper()
	same(t, line, s.Line(line), []string{want})
}

func TestExample3(t *testing.T) {
	s := shell.New()
	s.Do(example2)
	lineOf(t, s, "open w on=d pass=a", "error 164 v")
	lineOf(t, s, "close v", "ok")
	lineOf(t, s, "status v", "ok closed")
	lineOf(t, s, "open v on=d pass=b", "error 101")
}

func TestExample4(t *testing.T) {
	s := shell.New()
	s.Do(example2)
	lineOf(t, s, "rotate v spring=s cipher=aes128-xts-plain64 mode=journal hot=8", "ok")
	lineOf(t, s, "step v times=20", "ok over 14")
	lineOf(t, s, "step v", "error 131 behind 0")
}

func TestExample5(t *testing.T) {
	s := shell.New()
	lineOf(t, s, "slab e count=200 plan=300:off:3,40:turn:7:5", "ok")
	lineOf(t, s, "slab f count=200 plan=1:boom", "error 162 plan")
	lineOf(t, s, "slab f", "error 162 count")
	lineOf(t, s, "slab f count=1 count=2", "error 162 count")
	lineOf(t, s, "slab f count=0", "error 2")
}

func TestExample6(t *testing.T) {
	s := shell.New()
	s.Do(example2)
	lineOf(t, s, "off d", "ok")
	lineOf(t, s, "restart d keep=0101", "ok")
	lineOf(t, s, "peek d at=0 sectors=65", "error 162 sectors")
	lineOf(t, s, "write v at=0", "error 162 fill")
}
