package tweak_test

import (
	"testing"

	"coffer/api"
	"coffer/tweak"
)

// edgeBlocks: every block with one bit, zeros, ones, and some others.
func edgeBlocks() []api.Block {
	list := []api.Block{{}, api.Block(unhex("ffffffffffffffffffffffffffffffff"))}
	for i := range 128 {
		var b api.Block
		b[i/8] = 1 << (i % 8)
		list = append(list, b)
	}
	for i := range 40 {
		list = append(list, api.Block(some(500+i, 16)))
	}
	return list
}

// P3.14
func TestDouble(t *testing.T) {
	for _, b := range edgeBlocks() {
		if got := tweak.Double(b); got != api.Block(modelDouble(b[:])) {
			t.Errorf("Double(%x): %x", b, got)
		}
	}
	b := api.Block{1}
	for range 300 {
		next := tweak.Double(b)
		if next != api.Block(modelDouble(b[:])) {
			t.Fatalf("Double(%x): %x", b, next)
		}
		b = next
	}
}

// P3.15
func TestTimes(t *testing.T) {
	for _, a := range edgeBlocks() {
		for _, b := range edgeBlocks() {
			if got := tweak.Times(a, b); got != api.Block(modelTimes(a[:], b[:])) {
				t.Fatalf("Times(%x, %x): %x", a, b, got)
			}
		}
	}
}

// P3.16: the product, and that the model's x^-128 is one.
func TestDot(t *testing.T) {
	if got := polyModulo(polyTimes(powers(128), powers(127, 124, 121, 114, 0)), fieldPolyval()); got.Cmp(powers(0)) != 0 {
		t.Fatalf("the model's x^-128: %x", got)
	}
	for _, a := range edgeBlocks() {
		for _, b := range edgeBlocks() {
			if got := tweak.Dot(a, b); got != api.Block(modelDot(a[:], b[:])) {
				t.Fatalf("Dot(%x, %x): %x", a, b, got)
			}
		}
	}
	a, b := api.Block(unhex("66e94bd4ef8a2c3b884cfa59ca342b2e")), api.Block(unhex("ff000000000000000000000000000000"))
	if got := tweak.Dot(a, b); got != api.Block(unhex("ebe563401e7e91ea3ad6426b8140c394")) {
		t.Errorf("the published product: %x", got)
	}
}

// P3.16: no block, one, many; the list that is handed in stays.
func TestPolyval(t *testing.T) {
	for _, h := range edgeBlocks()[:40] {
		if got := tweak.Polyval(h); got != (api.Block{}) {
			t.Errorf("Polyval(%x): %x", h, got)
		}
		for n := range 9 {
			text := some(600+n, 16*n)
			var blocks []api.Block
			for j := range n {
				blocks = append(blocks, api.Block(text[16*j:16*j+16]))
			}
			if got := tweak.Polyval(h, blocks...); got != api.Block(modelPolyval(h[:], text)) {
				t.Errorf("Polyval(%x) of %d blocks: %x", h, n, got)
			}
			for j := range n {
				if blocks[j] != api.Block(text[16*j:16*j+16]) {
					t.Errorf("block %d is changed", j)
				}
			}
		}
	}
	if tweak.Polyval(api.Block{7}, nil...) != (api.Block{}) {
		t.Error("no list of blocks")
	}
}

// P3.14 to P3.16: what holds of any products.
func TestLawsOfFields(t *testing.T) {
	for i := range 50 {
		a, b, c := api.Block(some(700+i, 16)), api.Block(some(800+i, 16)), api.Block(some(900+i, 16))
		bc := api.Block(sum(b[:], c[:]))
		for _, times := range []func(a, b api.Block) api.Block{tweak.Times, tweak.Dot} {
			if times(a, b) != times(b, a) {
				t.Error("the order of factors counts")
			}
			ab, ac := times(a, b), times(a, c)
			if times(a, bc) != api.Block(sum(ab[:], ac[:])) {
				t.Error("a sum is not multiplied part by part")
			}
			if times(times(a, b), c) != times(a, times(b, c)) {
				t.Error("brackets count")
			}
		}
		if tweak.Double(bc) != api.Block(sum(bytesOf(tweak.Double(b)), bytesOf(tweak.Double(c)))) {
			t.Error("a sum is not doubled part by part")
		}
	}
}

func bytesOf(b api.Block) []byte { return b[:] }
