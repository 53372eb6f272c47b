package escrow_test

import (
	"bytes"
	"strings"
	"testing"

	"coffer/api"
	"coffer/escrow"
)

func TestExample1(t *testing.T) {
	for text, b := range map[string][]byte{"babab": {0, 0}, "lusab babad": {0x7f, 0, 0, 1}, "": {1}} {
		if got := escrow.Words(b); got != text {
			t.Errorf("%x: %q", b, got)
		}
	}
}

func TestExample2(t *testing.T) {
	for _, x := range [][3]int{{1, 32, 0}, {3, 32, 72}, {17, 1, 0}, {2, 65, 0}} {
		if got := escrow.Random(x[0], x[1]); got != x[2] {
			t.Errorf("Random(%d, %d): %d", x[0], x[1], got)
		}
	}
}

func TestExample3(t *testing.T) {
	secret := some(1, 32)
	lines, e := escrow.Deal(1, secret, 2, 3, some(2, 36))
	if e != api.OK || len(lines) != 3 {
		t.Fatalf("%d lines, error %d", len(lines), e)
	}
	for _, line := range lines {
		if n := len(strings.Split(line, " ")); n != 23 {
			t.Errorf("%d words", n)
		}
	}
	lines, e = escrow.Deal(1, secret, 1, 255, nil)
	expect(t, "need 1", e, api.OK)
	for i, line := range lines {
		row := rowOf(line)
		if !bytes.Equal(row[5:37], secret) || !bytes.Equal(row[37:41], modelCheck(1, secret)) || row[3] != byte(i+1) {
			t.Errorf("share %d has other values than the row", i+1)
		}
	}
}

func TestExample4(t *testing.T) {
	secret := some(1, 32)
	for _, x := range []struct {
		secret              []byte
		need, count, random int
		e                   api.Errno
	}{
		{secret, 0, 3, 0, api.ErrEscrowNeed},
		{secret, 2, 1, 36, api.ErrEscrowNeed},
		{secret, 17, 17, 16 * 36, api.ErrEscrowNeed},
		{nil, 2, 3, 4, api.ErrEscrowSecret},
		{secret, 2, 3, 37, api.ErrShort},
	} {
		if lines, e := escrow.Deal(1, x.secret, x.need, x.count, make([]byte, x.random)); len(lines) != 0 || e != x.e {
			t.Errorf("need %d, count %d: %d lines, error %d", x.need, x.count, len(lines), e)
		}
	}
}

func TestExample5(t *testing.T) {
	_, lines := dealt(t, 1, 32, 2, 3)
	parts(t, "Join()", api.ErrEscrowFew)
	parts(t, "one of a need of 2", api.ErrEscrowFew, lines[0])
	parts(t, "the same twice", api.ErrEscrowFew, lines[0], lines[0])
	refuses(t, "babab", "babab", api.ErrEscrowShare)
	refuses(t, "baba", "baba", api.ErrEscrowWord)
	line, n, e := escrow.Mend("xxxxx" + lines[0][5:])
	if line != lines[0] || n > 2 || e != api.OK {
		t.Errorf("%q, %d wrong, error %d", line, n, e)
	}
}
