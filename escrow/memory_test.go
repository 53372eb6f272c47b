package escrow_test

import (
	"bytes"
	"go/parser"
	"go/token"
	"path/filepath"
	"slices"
	"strconv"
	"strings"
	"sync"
	"testing"

	"coffer/api"
	"coffer/escrow"
)

// roomy gives a list in memory of its own, with spare room that holds something.
func roomy[T any](list []T, spare T) []T {
	return append(slices.Clone(list), spare, spare, spare)[:len(list)]
}

// whole gives a copy of a list and of its spare room.
func whole[T any](list []T) []T { return slices.Clone(list[:cap(list)]) }

// fill overwrites a list, its spare room too: whoever shares memory with it shows it.
func fill[T any](list []T, with T) {
	list = list[:cap(list)]
	for i := range list {
		list[i] = with
	}
}

// Rule 2: the secret and the random bytes are neither changed nor kept, and the lines are new memory.
func TestDealApart(t *testing.T) {
	for _, need := range []int{1, 2, 3, 16} {
		for _, size := range sizes {
			want := modelDeal(3, some(1, size), need, need+2, some(2, randomSize(need, size)))
			secret, random := roomy(some(1, size), 77), roomy(some(2, randomSize(need, size)), 78)
			keptSecret, keptRandom := whole(secret), whole(random)
			one, e := escrow.Deal(3, secret, need, need+2, random)
			expect(t, "Deal", e, api.OK)
			two, e := escrow.Deal(3, secret, need, need+2, random)
			expect(t, "Deal", e, api.OK)
			if !slices.Equal(whole(secret), keptSecret) || !slices.Equal(whole(random), keptRandom) {
				t.Errorf("need %d, %d bytes: what is handed in is changed", need, size)
			}
			fill(secret, 1)
			fill(random, 1)
			fill(one, "spoilt")
			if !slices.Equal(two, want) {
				t.Errorf("need %d, %d bytes: two answers share memory, or one with what is handed in", need, size)
			}
		}
	}
}

// Rule 2: Split's secret too; a refused call changes nothing either.
func TestSplitApart(t *testing.T) {
	secret := roomy(some(1, 32), 77)
	kept := whole(secret)
	s := newSpring(t, 256, 2)
	one, e := escrow.Split(s, secret, 3, 4)
	expect(t, "Split", e, api.OK)
	want := slices.Clone(one)
	two, e := escrow.Split(s, secret, 3, 4)
	expect(t, "Split", e, api.OK)
	fill(two, "spoilt")
	escrow.Split(s, secret, 3, 4)
	escrow.Split(nil, secret, 3, 4)
	escrow.Split(s, secret, 0, 4)
	escrow.Deal(1, secret, 3, 4, secret)
	if !slices.Equal(whole(secret), kept) || !slices.Equal(one, want) {
		t.Errorf("what is handed in is changed, or two answers share memory")
	}
}

// Rule 2: the secret and the random bytes may lie in one memory, as neither is written to.
func TestDealOneMemory(t *testing.T) {
	list := some(3, 40)
	kept := bytes.Clone(list)
	lines, e := escrow.Deal(1, list[4:20], 3, 5, list)
	if e != api.OK || !slices.Equal(lines, modelDeal(1, kept[4:20], 3, 5, kept)) || !bytes.Equal(list, kept) {
		t.Errorf("error %d, other lines, or the list is changed", e)
	}
}

// Rule 2: the shares' list is neither changed nor kept; each secret is new memory.
func TestJoinApart(t *testing.T) {
	for _, need := range []int{1, 2, 16} {
		for _, size := range sizes {
			secret, lines := dealt(t, int64(size), size, need, need+3)
			shares := roomy(append(slices.Clone(lines), strings.ToUpper(lines[0]), "xxxxx"+lines[1][5:]), "spare")
			kept := whole(shares)
			one, e := escrow.Join(shares...)
			expect(t, "Join", e, api.OK)
			two, e := escrow.Join(shares...)
			expect(t, "Join", e, api.OK)
			line, e := escrow.Extend(9, shares...)
			expect(t, "Extend", e, api.OK)
			if !slices.Equal(whole(shares), kept) {
				t.Errorf("need %d, %d bytes: what is handed in is changed", need, size)
			}
			fill(one, 0xee)
			fill(shares, "spoilt")
			if !bytes.Equal(two, secret) {
				t.Errorf("need %d, %d bytes: two answers share memory", need, size)
			}
			if again, e := escrow.Extend(9, lines...); again != line || e != api.OK {
				t.Errorf("need %d, %d bytes: Extend again: error %d", need, size, e)
			}
			joins(t, "again", secret, lines...)
		}
	}
}

// Rule 2: Words does not change its bytes.
func TestWordsApart(t *testing.T) {
	for n := range 9 {
		b := roomy(some(5, n), 77)
		kept := whole(b)
		text := escrow.Words(b)
		if !slices.Equal(whole(b), kept) {
			t.Errorf("%d bytes: changed", n)
		}
		want := modelWords(b)
		fill(b, 1)
		if text != want {
			t.Errorf("%d bytes: the answer changes with its argument", n)
		}
	}
}

// Rule 4: calls of several goroutines at one time, with the same arguments.
func TestTogether(t *testing.T) {
	secret, random := some(6, 32), some(7, randomSize(3, 32))
	want := modelDeal(8, secret, 3, 5, random)
	hurt := "xxxxx" + want[4][5:]
	var all sync.WaitGroup
	for range 8 {
		all.Go(func() {
			for range 10 {
				lines, e := escrow.Deal(8, secret, 3, 5, random)
				line, n, f := escrow.Mend(hurt)
				got, g := escrow.Join(want[0], hurt, want[2])
				more, h := escrow.Extend(2, want[0], hurt, want[2])
				if e != api.OK || f != api.OK || g != api.OK || h != api.OK {
					t.Errorf("errors %d, %d, %d, %d", e, f, g, h)
				}
				if !slices.Equal(lines, want) || line != want[4] || n > 2 || !bytes.Equal(got, secret) || more != want[1] {
					t.Errorf("another answer")
				}
			}
		})
	}
	all.Wait()
}

// The chapter: package escrow calls digest, rijndael and spring; LANGUAGE.md's packages alone.
func TestImports(t *testing.T) {
	may := []string{"bytes", "slices", "strings", "coffer/api", "coffer/digest", "coffer/rijndael", "coffer/spring"}
	files, err := filepath.Glob("*.go")
	if err != nil || len(files) == 0 {
		t.Fatal(err)
	}
	for _, f := range files {
		if strings.HasSuffix(f, "_test.go") {
			continue
		}
		parsed, err := parser.ParseFile(token.NewFileSet(), f, nil, parser.ImportsOnly)
		if err != nil {
			t.Fatal(err)
		}
		for _, i := range parsed.Imports {
			if path, _ := strconv.Unquote(i.Path.Value); !slices.Contains(may, path) {
				t.Errorf("%s imports %s", f, path)
			}
		}
	}
}
