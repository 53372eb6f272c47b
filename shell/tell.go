package shell

import (
	"strconv"
	"strings"

	"coffer/api"
	"coffer/digest"
)

const (
	headShown = 16 // bytes of a sector that are shown as they are
	sumShown  = 8  // bytes of its digest
)

// errorLine tells an error, and what there is to say of it.
func errorLine(e api.Errno, more ...string) string {
	return strings.Join(append([]string{"error", strconv.Itoa(int(e))}, more...), " ")
}

// ok is the answer of one line.
func ok(words ...string) []string {
	return []string{strings.Join(append([]string{"ok"}, words...), " ")}
}

// okLines is the answer that tells how many lines are behind it.
func okLines(lines []string) []string { return under(ok(strconv.Itoa(len(lines))), lines) }

// under sets lines behind a first one.
func under(answer, lines []string) []string {
	for _, line := range lines {
		answer = append(answer, "  "+line)
	}
	return answer
}

func decimal(n uint64) string { return strconv.FormatUint(n, 10) }

func signed(n int64) string { return strconv.FormatInt(n, 10) }

func yesNo(is bool) string {
	if is {
		return "yes"
	}
	return "no"
}

// commas tells a list of numbers.
func commas(list []int) string {
	if len(list) == 0 {
		return "-"
	}
	words := make([]string, len(list))
	for i, n := range list {
		words[i] = strconv.Itoa(n)
	}
	return strings.Join(words, ",")
}

// firstOf tells how many sectors there are, and the first of them.
func firstOf(sectors []uint64) []string {
	words := []string{strconv.Itoa(len(sectors))}
	for _, n := range sectors[:min(len(sectors), api.MaxShellShown)] {
		words = append(words, decimal(n))
	}
	return ok(words...)
}

// sectorLine shows a sector.
func sectorLine(number uint64, sector []byte) string {
	if isFilled(sector) {
		return decimal(number) + " fill " + digest.Hex(sector[:1])
	}
	sum, e := digest.Sum(api.Hash256, sector)
	check(e)
	return decimal(number) + " " + digest.Hex(sector[:headShown]) + " " + digest.Hex(sum[:sumShown])
}

// isFilled tells whether all bytes are the same.
func isFilled(sector []byte) bool {
	for _, b := range sector {
		if b != sector[0] {
			return false
		}
	}
	return true
}

// standing tells how a volume stands.
func standing(s api.Status) []string {
	var state string
	switch s.State {
	case api.Closed:
		return []string{"closed"}
	case api.Opened:
		state = "opened"
	case api.Suspended:
		state = "suspended"
	default:
		state = "stuck"
	}
	words := []string{state, "slot", strconv.Itoa(s.Slot), "unit", strconv.Itoa(s.Unit), "count", decimal(s.Count), "cipher", s.Cipher, "epoch", decimal(s.Epoch), "slots", commas(s.Slots), "rotation"}
	return append(words, turning(s.Rotation)...)
}

func turning(r api.Rotation) []string {
	if !r.On {
		return []string{"off"}
	}
	mode := "journal"
	if r.Mode == api.ByDigests {
		mode = "digests"
	}
	words := []string{"from", decimal(r.From), "to", decimal(r.To), "mode", mode, "hot", decimal(r.Hot), "done", decimal(r.Done)}
	if r.Back {
		words = append(words, "back")
	}
	if r.Active {
		words = append(words, "active")
	}
	return words
}

func tokenLine(t api.Token) string {
	return strings.Join([]string{strconv.Itoa(t.Number), Quote(t.Kind), commas(t.Slots), Quote(t.Note)}, " ")
}
