package probe

import (
	"iter"
	"strconv"
	"strings"

	"coffer/api"
)

// lines gives what was seen, line by line. A part of it may have no line.
func lines(s api.Seen) iter.Seq[string] {
	parts := []func(api.Seen) []string{headLines}
	if s.Takes == 1 || s.Takes == 2 {
		parts = append(parts, otherLines, nameLines, slotLines, epochLines, rotationLines, tokenLines, areaLines, stepLines)
	}
	return func(yield func(string) bool) {
		for _, part := range parts {
			for _, line := range part(s) {
				if !yield(line) {
					return
				}
			}
		}
	}
}

// headLines tells of the device and its two copies.
func headLines(s api.Seen) []string {
	return []string{
		words("device", decimal(s.Unit), decimal(s.Count)),
		words("first", copyText(s.First)),
		words("second", copyText(s.Second)),
		words("takes", takenText(s.Takes)) + where(s.Mends, " mends"),
	}
}

func copyText(c api.SeenCopy) string {
	if c.Why != api.OK {
		return words("error", decimal(c.Why))
	}
	text := words("good seq", decimal(c.Seq), "head", decimal(c.Head), "text", decimal(c.Long))
	if c.Text != api.OK {
		text = words(text, "error", decimal(c.Text), "at", decimal(c.Place))
	}
	return text
}

func takenText(takes int) string {
	switch takes {
	case 1:
		return "first"
	case 2:
		return "second"
	}
	return "none"
}

// otherLines tells what was changed from the other copy to the one that counts.
func otherLines(s api.Seen) []string {
	if !s.Both {
		return nil
	}
	return each(Compare(s.Other, s.Meta), func(line string) string { return words("other", line) })
}

func nameLines(s api.Seen) []string {
	m, shape := s.Meta, s.Meta.Shape
	return []string{
		words("name", Quote(m.Label), Quote(m.Subsystem), Quote(m.UUID)),
		words("shape", decimal(shape.Unit), decimal(shape.Count), decimal(shape.Head), decimal(shape.Keys)) + where(!s.Fits, " unlike"),
		words("digest turns", decimal(m.Digest.Turns)),
	}
}

func slotLines(s api.Seen) []string {
	told := each(s.Meta.Slots, func(s api.Slot) string {
		return words("slot", decimal(s.Number), "priority", decimal(s.Priority), "hash", decimal(s.Hash), "turns", decimal(s.Turns),
			"cipher", Quote(s.Cipher), "stripes", decimal(s.Stripes), placeText(s.Area))
	})
	return append(told, words("asked", list(Order(s.Meta))))
}

func epochLines(s api.Seen) []string {
	epochs := each(s.Meta.Epochs, func(p api.Epoch) string {
		return words("epoch", decimal(p.Number), "cipher", Quote(p.Cipher))
	})
	segments := each(s.Meta.Segments, func(g api.Segment) string {
		return words("segment", decimal(g.Start), decimal(g.Count), "epoch", decimal(g.Epoch))
	})
	return append(epochs, segments...)
}

func rotationLines(s api.Seen) []string {
	r := s.Meta.Rotation
	if !r.On {
		return []string{"rotation off"}
	}
	way := "up"
	if r.Back {
		way = "down"
	}
	line := words("rotation", decimal(r.From), "to", decimal(r.To), way, modeText(r.Mode), "hot", decimal(r.Hot), "done", decimal(r.Done), placeText(r.Area))
	return []string{line + where(r.Active, words(" active", decimal(r.Count)))}
}

func modeText(mode int) string {
	switch mode {
	case api.ByJournal:
		return "journal"
	case api.ByDigests:
		return "digests"
	}
	return words("mode", decimal(mode))
}

func tokenLines(s api.Seen) []string {
	return each(s.Meta.Tokens, func(t api.Token) string {
		return words("token", decimal(t.Number), "kind", Quote(t.Kind), "slots", list(t.Slots), "note", decimal(len(t.Note)))
	})
}

func areaLines(s api.Seen) []string {
	told := each(s.Areas, func(a api.SeenArea) string { return words("area", areaName(a.Slot), areaText(a)) })
	if s.Fits {
		told = append(told, words("dirty", decimal(s.Dirty)))
	}
	return told
}

func areaName(slot int) string {
	if slot == journalSlot {
		return "journal"
	}
	return decimal(slot)
}

func areaText(a api.SeenArea) string {
	switch {
	case a.Zero:
		return "zeros"
	case a.Judge == api.OK:
		return "random"
	}
	return words("odd", decimal(a.Judge))
}

// stepLines tells how a step stands that is in the midst.
func stepLines(s api.Seen) []string {
	r := s.Meta.Rotation
	switch {
	case !s.Fits || !r.On || !r.Active:
		return nil
	case s.Journal != api.OK:
		return []string{words("step error", decimal(s.Journal))}
	}
	return []string{words("step right moved", decimal(s.Moved))}
}

// placeText tells where an area lies.
func placeText(a api.Area) string {
	return words("at", decimal(a.Offset), "size", decimal(a.Size))
}

// each gives what is told of each item.
func each[T any](items []T, tell func(T) string) []string {
	var told []string
	for _, item := range items {
		told = append(told, tell(item))
	}
	return told
}

// words puts a blank between.
func words(all ...string) string { return strings.Join(all, " ") }

// where gives the text, or nothing.
func where(holds bool, text string) string {
	if holds {
		return text
	}
	return ""
}

// list tells numbers.
func list(numbers []int) string {
	if len(numbers) == 0 {
		return "none"
	}
	return strings.Join(each(numbers, decimal[int]), ",")
}

// decimal tells a number. The lowest one is its own negative, and as one without a sign it is right.
func decimal[N ~int | ~int64 | ~uint64](n N) string {
	if n < 0 {
		return "-" + strconv.FormatUint(uint64(-n), 10)
	}
	return strconv.FormatUint(uint64(n), 10)
}
