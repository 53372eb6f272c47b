package shell_test

import (
	"bytes"
	"crypto/sha256"
	"encoding/hex"
	"fmt"
	"math/big"
	"regexp"
	"slices"
	"strconv"
	"strings"
	"testing"

	"coffer/api"
	"coffer/escrow"
	"coffer/header"
	"coffer/probe"
	"coffer/slab"
	"coffer/spring"
	"coffer/volume"
)

// A second reckoning of the chapter's words: a line is what an expression says, the commands stand in the chapter's own table, and a plain shell plays them.

func expect[T comparable](t *testing.T, name string, got, want T) {
	t.Helper()
	if got != want {
		t.Errorf("%s: got %v, want %v", name, got, want)
	}
}

func same(t *testing.T, name string, got, want []string) {
	t.Helper()
	if !slices.Equal(got, want) {
		t.Errorf("%s:\n got %q\nwant %q", name, got, want)
	}
}

const (
	aValue  = `(?:[!#-~][!-~]*|"(?:[\t !#-\[\]-~]|\\["\\]|\\x[0-9a-fA-F]{2})*")?`
	anOther = `[ \t]+([a-z]{1,16})=(` + aValue + `)`
)

var (
	silent  = regexp.MustCompile(`^[ \t]*(?:#[\t -~]*)?$`)
	saying  = regexp.MustCompile(`^[ \t]*([a-z]{1,16})(?:[ \t]+([a-z][a-z0-9_]{0,15}))?((?:[ \t]+[a-z]{1,16}=` + aValue + `)*)(?:[ \t]*|[ \t]+#[\t -~]*)$`)
	others  = regexp.MustCompile(anOther)
	escapes = regexp.MustCompile(`\\x..|\\.`)
)

func isLine(line string) bool { return silent.MatchString(line) || saying.MatchString(line) }

// goesOn: some line begins so. What is in the midst is ended by one of these.
func goesOn(beginning string) bool {
	return slices.ContainsFunc([]string{"", `=`, `"`, `""`, `00"`, `0"`}, func(end string) bool { return isLine(beginning + end) })
}

// placeOf reckons where a line that is none goes wrong.
func placeOf(line string) int {
	if len(line) > 4096 {
		return 4097
	}
	low, high := 0, len(line)+1 // of the bytes up to low a line goes on, up to high not
	for high-low > 1 {
		if mid := (low + high) / 2; goesOn(line[:mid]) {
			low = mid
		} else {
			high = mid
		}
	}
	return high
}

func unquoted(value string) string {
	if !strings.HasPrefix(value, `"`) {
		return value
	}
	return escapes.ReplaceAllStringFunc(value[1:len(value)-1], func(x string) string {
		if n, err := strconv.ParseUint(x[2:], 16, 8); err == nil {
			return string([]byte{byte(n)})
		}
		return x[1:]
	})
}

// parsed reckons what Parse answers.
func parsed(line string) (api.ShellLine, api.Errno, int) {
	if len(line) > 4096 || !isLine(line) {
		return api.ShellLine{}, 160, placeOf(line)
	}
	var said api.ShellLine
	if m := saying.FindStringSubmatch(line); m != nil {
		said.Command, said.Name = m[1], m[2]
		for _, o := range others.FindAllStringSubmatch(m[3], -1) {
			said.Options = append(said.Options, api.ShellOption{Key: o[1], Value: unquoted(o[2])})
		}
	}
	return said, 0, 0
}

// table: of each command what it is about, and its options, in the chapter's words.
const table = `slab | new slab | unit whole 512; count number(0, 2^64 - 1); plan plan ""
copy | slab | as word (a new slab)
off | slab |
restart | slab | keep bits ""
sync | slab |
ops | slab |
pending | slab |
used | slab |
peek | slab | at number(0, 2^64 - 1); sectors number(1, 64) 1; medium yes no
poke | slab | at number(0, 2^64 - 1); what is written
spring | new spring | entropy bytes; hash whole 256; limit whole 16777216; nonce bytes ""; personal text ""
feed | spring | entropy bytes
left | spring |
format | slab | spring word; pass text; head whole 16384; keys whole 131072; cipher text aes256-xts-plain64; label text ""; subsystem text ""; uuid text ""; digest whole 1000; those of a keyslot
open | new volume | on word (a slab); pass text; slot whole -1; workers whole 1
reopen | new volume | on word; master bytes; workers whole 1
rejoin | new volume | on word; shares text; workers whole 1
status | volume |
read | volume | at number(0, 2^64 - 1); sectors number(1, 64) 1
write | volume | at number(0, 2^64 - 1); what is written
flush | volume |
suspend | volume |
resume | volume | pass text; slot whole -1
close | volume |
add | volume | spring word; pass text; slot whole -1; those of a keyslot
change | volume | spring word; pass text; slot whole; those of a keyslot
kill | volume | slot whole
prefer | volume | slot whole; prio whole
note | volume | number whole; kind text; slots numbers ""; note text ""
unnote | volume | number whole
tokens | volume |
master | volume |
rotate | volume | spring word; cipher text; mode mode; back yes no; hot number(0, 2^64 - 1)
step | volume | times number(1, 4096) 1
share | volume | spring word; need whole; of whole
dump | slab |
backup | slab | as word (a new backup); size whole
restore | slab | from word (a backup); head whole`

const (
	ofKeyslot = `prio whole 1; hash whole 256; turns whole 1000; slotcipher text aes256-xts-plain64; stripes whole 4`
	ofWriting = `fill number(0, 255) ""; hex bytes ""; text text ""; sectors number(1, 4096) 1`
)

// entry is an option of the table.
type entry struct {
	key, kind, missing string
	must               bool
	thing              string // what it names, as the table says it: "new slab", "backup"; "" if nothing
}

// command is a row of the table.
type command struct {
	name, about string
	writes      bool
	entries     []entry
}

var anEntry = regexp.MustCompile(`^([a-z]+) (number\([^)]*\)|[a-z]+)(?: \(a ([a-z ]+)\))?(?: (.+))?$`)

func entries(text string) []entry {
	var all []entry
	text = strings.Replace(text, "those of a keyslot", ofKeyslot, 1)
	text = strings.Replace(text, "what is written", ofWriting, 1)
	for _, one := range strings.Split(text, "; ") {
		m := anEntry.FindStringSubmatch(one)
		if m == nil {
			continue // a row without options
		}
		e := entry{key: m[1], kind: m[2], thing: m[3], missing: m[4], must: m[4] == ""}
		if e.missing == `""` {
			e.missing = ""
		}
		switch {
		case e.key == "on":
			e.thing = "slab"
		case e.key == "spring":
			e.thing = "spring"
		}
		all = append(all, e)
	}
	return all
}

func commands() []command {
	var all []command
	for _, line := range strings.Split(table, "\n") {
		cells := strings.Split(line+" ", " | ")
		all = append(all, command{name: cells[0], about: cells[1], writes: strings.Contains(line, "what is written"), entries: entries(strings.TrimSpace(cells[2]))})
	}
	return all
}

func between(text, least, most string) bool {
	big := func(s string) *big.Int {
		n, ok := new(big.Int).SetString(s, 10)
		if !ok {
			panic(s)
		}
		return n
	}
	return big(least).Cmp(big(text)) <= 0 && big(text).Cmp(big(most)) <= 0
}

var (
	digitsForm = regexp.MustCompile(`^[0-9]{1,20}$`)
	wholeForm  = regexp.MustCompile(`^-?[0-9]{1,20}$`)
	bitsForm   = regexp.MustCompile(`^[01]*$`)
	nameForm   = regexp.MustCompile(`^[a-z][a-z0-9_]{0,15}$`)
	glitchForm = regexp.MustCompile(`^([^:]*):(read|write|part|flush|off|turn)(?::([^:]*)(?::([^:]*))?)?$`)
	boundsForm = regexp.MustCompile(`^number\((.*), (.*)\)$`)
)

const biggest = "18446744073709551615"

func isWhole(text string) bool {
	return wholeForm.MatchString(text) && between(text, "-9223372036854775808", "9223372036854775807")
}

func eachPart(text string, is func(string) bool) bool {
	return text == "" || !slices.ContainsFunc(strings.Split(text, ","), func(x string) bool { return !is(x) })
}

func isGlitch(text string) bool {
	m := glitchForm.FindStringSubmatch(text)
	if m == nil || !isWhole(m[1]) {
		return false
	}
	switch strings.Count(text, ":") {
	case 1:
		return true
	case 2:
		return isWhole(m[3])
	}
	return isWhole(m[3]) && digitsForm.MatchString(m[4]) && between(m[4], "0", biggest)
}

// isOfKind: a value is one of its kind.
func isOfKind(kind, text string) bool {
	switch kind {
	case "whole":
		return isWhole(text)
	case "bytes":
		_, err := hex.DecodeString(text)
		return err == nil
	case "text":
		return true
	case "bits":
		return bitsForm.MatchString(text) && len(text) <= 65536
	case "numbers":
		return eachPart(text, isWhole)
	case "word":
		return nameForm.MatchString(text)
	case "yes":
		return text == "yes" || text == "no"
	case "mode":
		return text == "journal" || text == "digests"
	case "plan":
		return eachPart(text, isGlitch)
	}
	m := boundsForm.FindStringSubmatch(kind)
	return digitsForm.MatchString(text) && between(text, m[1], strings.Replace(m[2], "2^64 - 1", biggest, 1))
}

// plain is the second shell.
type plain struct {
	commands []command
	slabs    map[string]*slab.Slab
	springs  map[string]*spring.Spring
	volumes  map[string]*volume.Volume
	over     map[string]string // of a volume, the slab
	backups  map[string][]byte
}

func newPlain() *plain {
	return &plain{commands(), map[string]*slab.Slab{}, map[string]*spring.Spring{}, map[string]*volume.Volume{}, map[string]string{}, map[string][]byte{}}
}

func (p *plain) there(kind, name string) bool {
	var is bool
	switch kind {
	case "slab":
		_, is = p.slabs[name]
	case "spring":
		_, is = p.springs[name]
	case "volume":
		_, is = p.volumes[name]
	case "backup":
		_, is = p.backups[name]
	}
	return is
}

func (p *plain) many(kind string) int {
	return map[string]int{"slab": len(p.slabs), "spring": len(p.springs), "volume": len(p.volumes), "backup": len(p.backups)}[kind]
}

// line reckons what Line answers.
func (p *plain) line(line string) []string {
	said, e, at := parsed(line)
	if e != 0 {
		return []string{fmt.Sprintf("error 160 at %d", at)}
	}
	if said.Command == "" {
		return nil
	}
	i := slices.IndexFunc(p.commands, func(c command) bool { return c.name == said.Command })
	if i < 0 {
		return []string{"error 161"}
	}
	c := p.commands[i]
	given := map[string]string{}
	if key := wrongOption(c, said.Options, given); key != "" {
		return []string{"error 162 " + key}
	}
	if said.Name == "" {
		return []string{"error 163"}
	}
	if wrong := p.wrongThing(c, said.Name, given); wrong != "" {
		return []string{wrong}
	}
	answer, e := p.run(c.name, said.Name, given)
	if e != 0 && answer == nil {
		return []string{fmt.Sprintf("error %d", e)}
	}
	return answer
}

// wrongOption tells the key of error 162, and gathers what is given, and what stands for the rest.
func wrongOption(c command, options []api.ShellOption, given map[string]string) string {
	for _, o := range options {
		_, twice := given[o.Key]
		if twice || !slices.ContainsFunc(c.entries, func(e entry) bool { return e.key == o.Key }) {
			return o.Key
		}
		given[o.Key] = o.Value
	}
	_, fill := given["fill"]
	_, hexed := given["hex"]
	_, text := given["text"]
	for _, e := range c.entries {
		if _, is := given[e.key]; !is && e.must {
			return e.key
		}
		if c.writes && e.key == "fill" && (fill && hexed || fill && text || hexed && text || !fill && !hexed && !text) {
			return "fill"
		}
	}
	for _, e := range c.entries {
		value, is := given[e.key]
		if is && (!isOfKind(e.kind, value) || c.writes && e.key == "sectors" && !fill) {
			return e.key
		}
	}
	for _, e := range c.entries {
		if _, is := given[e.key]; !is && !(c.writes && e.key != "sectors") {
			given[e.key] = e.missing
		}
	}
	return ""
}

// wrongThing tells errors 163 with a name, 164 and 165.
func (p *plain) wrongThing(c command, name string, given map[string]string) string {
	type thing struct{ what, name string }
	things := []thing{{c.about, name}}
	for _, e := range c.entries {
		if e.thing != "" {
			things = append(things, thing{e.thing, given[e.key]})
		}
	}
	made := thing{}
	for _, x := range things {
		if kind, isNew := strings.CutPrefix(x.what, "new "); isNew {
			made = thing{kind, x.name}
		} else if !p.there(x.what, x.name) {
			return "error 163 " + x.name
		}
	}
	if p.there(made.what, made.name) && !(made.what == "volume" && p.volumes[made.name].Status().State == api.Closed) {
		return "error 164 " + made.name
	}
	on := ""
	switch c.name {
	case "open", "reopen", "rejoin":
		on = given["on"]
	case "format", "restore":
		on = name
	}
	least := ""
	for v, s := range p.over {
		if s == on && p.volumes[v].Status().State != api.Closed && (least == "" || v < least) {
			least = v
		}
	}
	if least != "" {
		return "error 164 " + least
	}
	if p.many(made.what) == 8 && !p.there(made.what, made.name) {
		return "error 165"
	}
	return ""
}

// args are the values that a command is played with.
type args map[string]string

func (a args) int(key string) int {
	n, err := strconv.ParseInt(a[key], 10, 64)
	if err != nil {
		panic(key)
	}
	return int(n)
}

func (a args) uint(key string) uint64 {
	n, err := strconv.ParseUint(a[key], 10, 64)
	if err != nil {
		panic(key)
	}
	return n
}

func (a args) bytes(key string) []byte {
	b, err := hex.DecodeString(a[key])
	if err != nil {
		panic(key)
	}
	return b
}

func (a args) pass() []byte { return []byte(a["pass"]) }

func (a args) slotOpts() api.SlotOpts {
	return api.SlotOpts{Priority: a.int("prio"), Hash: a.int("hash"), Turns: a.int("turns"), Cipher: a["slotcipher"], Stripes: a.int("stripes")}
}

func (a args) plan() []api.Glitch {
	var all []api.Glitch
	for _, one := range strings.Split(a["plan"], ",") {
		if one == "" {
			continue
		}
		parts := strings.Split(one+":0:0", ":")
		g := args{"op": parts[0], "n": parts[2], "at": parts[3]}
		kind := slices.Index([]string{"", "read", "write", "part", "flush", "off", "turn"}, parts[1])
		all = append(all, api.Glitch{Op: int64(g.int("op")), Kind: kind, N: g.int("n"), At: g.uint("at")})
	}
	return all
}

func (a args) wholes(key string) []int {
	var all []int
	for _, one := range strings.Split(a[key], ",") {
		if one != "" {
			all = append(all, args{"n": one}.int("n"))
		}
	}
	return all
}

// contents are the bytes that are written.
func (a args) contents(unit int) []byte {
	var b []byte
	if _, is := a["fill"]; is {
		for range a.uint("sectors") * uint64(unit) {
			b = append(b, byte(a.uint("fill")))
		}
		return b
	}
	b = append(a.bytes("hex"), a["text"]...)
	for len(b) == 0 || len(b)%unit != 0 {
		b = append(b, 0)
	}
	return b
}

func shownSector(number uint64, b []byte) string {
	if bytes.Equal(b, bytes.Repeat(b[:1], len(b))) {
		return fmt.Sprintf("  %d fill %02x", number, b[0])
	}
	sum := sha256.Sum256(b)
	return fmt.Sprintf("  %d %x %x", number, b[:16], sum[:8])
}

func shownFirst(list []uint64) []string {
	text := fmt.Sprintf("ok %d", len(list))
	for i, n := range list {
		if i < 64 {
			text += fmt.Sprintf(" %d", n)
		}
	}
	return []string{text}
}

func joined(list []int) string {
	if len(list) == 0 {
		return "-"
	}
	return strings.Trim(strings.ReplaceAll(fmt.Sprint(list), " ", ","), "[]")
}

// quoted reckons what Quote answers.
func quoted(text string) string {
	out := `"`
	for _, b := range []byte(text) {
		switch {
		case b == '"':
			out += `\"`
		case b == '\\':
			out += `\\`
		case b < 32 || b > 126:
			out += fmt.Sprintf(`\x%02x`, b)
		default:
			out += string(rune(b))
		}
	}
	return out + `"`
}

func standing(s api.Status) string {
	if s.State == api.Closed {
		return "closed"
	}
	rotation := "off"
	if r := s.Rotation; r.On {
		mode := map[int]string{api.ByJournal: "journal", api.ByDigests: "digests"}[r.Mode]
		rotation = fmt.Sprintf("from %d to %d mode %s hot %d done %d", r.From, r.To, mode, r.Hot, r.Done)
		if r.Back {
			rotation += " back"
		}
		if r.Active {
			rotation += " active"
		}
	}
	state := map[int]string{api.Opened: "opened", api.Suspended: "suspended", api.Stuck: "stuck"}[s.State]
	return fmt.Sprintf("%s slot %d unit %d count %d cipher %s epoch %d slots %s rotation %s", state, s.Slot, s.Unit, s.Count, s.Cipher, s.Epoch, joined(s.Slots), rotation)
}

var done = []string{"ok"}

// run plays a command that was not refused: its answer, or the call's error.
func (p *plain) run(name, thing string, a args) ([]string, api.Errno) {
	if v, is := p.volumes[thing]; is && slices.ContainsFunc(p.commands, func(c command) bool { return c.name == name && c.about == "volume" }) {
		return p.onVolume(v, name, a)
	}
	if slices.Contains([]string{"spring", "feed", "left"}, name) {
		return p.onSpring(name, thing, a)
	}
	if slices.Contains([]string{"open", "reopen", "rejoin"}, name) {
		return p.opened(name, thing, a)
	}
	return p.onSlab(p.slabs[thing], name, thing, a)
}

func (p *plain) onSpring(name, thing string, a args) ([]string, api.Errno) {
	switch name {
	case "spring":
		s, e := spring.New(a.int("hash"), a.int("limit"), a.bytes("entropy"), a.bytes("nonce"), []byte(a["personal"]))
		if e == api.OK {
			p.springs[thing] = s
		}
		return okIf(e)
	case "feed":
		return okIf(p.springs[thing].Feed(a.bytes("entropy")))
	}
	return []string{fmt.Sprintf("ok %d", p.springs[thing].Left())}, 0
}

func okIf(e api.Errno) ([]string, api.Errno) {
	if e != api.OK {
		return nil, e
	}
	return slices.Clone(done), e
}

func (p *plain) opened(name, thing string, a args) ([]string, api.Errno) {
	d := p.slabs[a["on"]]
	var v *volume.Volume
	var e api.Errno
	var master []byte
	switch name {
	case "open":
		v, e = volume.Open(d, a.pass(), a.int("slot"), a.int("workers"))
	case "reopen":
		v, e = volume.Reopen(d, a.bytes("master"), a.int("workers"))
	case "rejoin":
		if master, e = escrow.Join(strings.Split(a["shares"], "\n")...); e == api.OK {
			v, e = volume.Reopen(d, master, a.int("workers"))
		}
	}
	if e != api.OK {
		return nil, e
	}
	p.volumes[thing], p.over[thing] = v, a["on"]
	if name == "open" {
		return []string{fmt.Sprintf("ok slot %d", v.Status().Slot)}, 0
	}
	return slices.Clone(done), 0
}

func (p *plain) onSlab(d *slab.Slab, name, thing string, a args) ([]string, api.Errno) {
	switch name {
	case "slab":
		d, e := slab.New(a.int("unit"), a.uint("count"), a.plan()...)
		if e == api.OK {
			p.slabs[thing] = d
		}
		return okIf(e)
	case "copy":
		p.slabs[a["as"]] = d.Copy()
		return okIf(0)
	case "off":
		return okIf(d.Off())
	case "restart":
		var keep []bool
		for _, c := range a["keep"] {
			keep = append(keep, c == '1')
		}
		return okIf(d.Restart(keep...))
	case "sync":
		return okIf(d.Flush())
	case "ops":
		c := d.Counts()
		return []string{fmt.Sprintf("ok ops %d reads %d writes %d flushes %d fetched %d stored %d lit %s", d.Ops(), c.Reads, c.Writes, c.Flushes, c.Fetched, c.Stored, map[bool]string{true: "yes", false: "no"}[d.Lit()])}, 0
	case "pending":
		return shownFirst(d.Pending()), 0
	case "used":
		return shownFirst(d.Used()), 0
	case "format":
		f := api.Format{Label: a["label"], Subsystem: a["subsystem"], UUID: a["uuid"], Head: a.int("head"), Keys: a.int("keys"), Cipher: a["cipher"], DigestTurns: a.int("digest"), Slot: a.slotOpts()}
		return okIf(volume.Format(d, p.springs[a["spring"]], f, a.pass()))
	case "restore":
		return okIf(header.Restore(d, p.backups[a["from"]], a.int("head")))
	case "backup":
		b, e := header.Backup(d, a.int("size"))
		if e == api.OK {
			p.backups[a["as"]] = b
			return []string{fmt.Sprintf("ok %d", len(b))}, 0
		}
		return nil, e
	}
	return byHand(d, name, a)
}

func byHand(d *slab.Slab, name string, a args) ([]string, api.Errno) {
	answer := slices.Clone(done)
	switch name {
	case "peek":
		for n := range a.uint("sectors") {
			b, e := d.Peek(a.uint("at") + n)
			if a["medium"] == "yes" {
				b, e = d.Rest(a.uint("at") + n)
			}
			if e != api.OK {
				return nil, e
			}
			answer = append(answer, shownSector(a.uint("at")+n, b))
		}
	case "poke":
		b := a.contents(d.Unit())
		for n := 0; n*d.Unit() < len(b); n++ {
			if e := d.Poke(a.uint("at")+uint64(n), b[n*d.Unit():(n+1)*d.Unit()]); e != api.OK {
				return nil, e
			}
		}
	case "dump":
		text, e := probe.Dump(d)
		if e != api.OK {
			return nil, e
		}
		lines := strings.Split(text, "\n")
		answer[0] = fmt.Sprintf("ok %d", len(lines)-1)
		for _, l := range lines[:len(lines)-1] {
			answer = append(answer, "  "+l)
		}
	default:
		panic(name)
	}
	return answer, 0
}

func (p *plain) onVolume(v *volume.Volume, name string, a args) ([]string, api.Errno) {
	s := p.springs[a["spring"]]
	unit := v.Status().Unit
	if v.Status().State == api.Closed {
		unit = 512
	}
	switch name {
	case "status":
		return []string{"ok " + standing(v.Status())}, 0
	case "read":
		b := make([]byte, unit*a.int("sectors"))
		if e := v.Read(a.uint("at"), b); e != api.OK {
			return nil, e
		}
		answer := slices.Clone(done)
		for n := 0; n*unit < len(b); n++ {
			answer = append(answer, shownSector(a.uint("at")+uint64(n), b[n*unit:(n+1)*unit]))
		}
		return answer, 0
	case "write":
		return okIf(v.Write(a.uint("at"), a.contents(unit)))
	case "flush":
		return okIf(v.Flush())
	case "suspend":
		return okIf(v.Suspend())
	case "resume":
		if e := v.Resume(a.pass(), a.int("slot")); e != api.OK {
			return nil, e
		}
		return []string{fmt.Sprintf("ok slot %d", v.Status().Slot)}, 0
	case "close":
		return okIf(v.Close())
	case "add":
		n, e := v.AddSlot(s, a.pass(), a.int("slot"), a.slotOpts())
		if e != api.OK {
			return nil, e
		}
		return []string{fmt.Sprintf("ok slot %d", n)}, 0
	case "change":
		return okIf(v.ChangeSlot(s, a.pass(), a.int("slot"), a.slotOpts()))
	case "kill":
		return okIf(v.KillSlot(a.int("slot")))
	case "prefer":
		return okIf(v.PreferSlot(a.int("slot"), a.int("prio")))
	case "rotate":
		mode := map[string]int{"journal": api.ByJournal, "digests": api.ByDigests}[a["mode"]]
		return okIf(v.RotateStart(s, api.Turn{Cipher: a["cipher"], Mode: mode, Back: a["back"] == "yes", Hot: a.uint("hot")}))
	}
	return told(v, s, name, a)
}

func told(v *volume.Volume, s *spring.Spring, name string, a args) ([]string, api.Errno) {
	switch name {
	case "note":
		return okIf(v.Note(api.Token{Number: a.int("number"), Kind: a["kind"], Slots: a.wholes("slots"), Note: a["note"]}))
	case "unnote":
		return okIf(v.Unnote(a.int("number")))
	case "tokens":
		answer := []string{fmt.Sprintf("ok %d", len(v.Tokens()))}
		for _, t := range v.Tokens() {
			answer = append(answer, fmt.Sprintf("  %d %s %s %s", t.Number, quoted(t.Kind), joined(t.Slots), quoted(t.Note)))
		}
		return answer, 0
	case "step":
		for k := 0; ; k++ {
			if k == a.int("times") {
				return []string{fmt.Sprintf("ok more %d", k)}, 0
			}
			over, e := v.RotateStep()
			if e != api.OK {
				return []string{fmt.Sprintf("error %d behind %d", e, k)}, e
			}
			if over {
				return []string{fmt.Sprintf("ok over %d", k+1)}, 0
			}
		}
	}
	master, e := v.Master()
	if e != api.OK {
		return nil, e
	}
	if name == "master" {
		return []string{fmt.Sprintf("ok %x", master)}, 0
	}
	shares, e := escrow.Split(s, master, a.int("need"), a.int("of"))
	if e != api.OK {
		return nil, e
	}
	answer := []string{fmt.Sprintf("ok %d", len(shares))}
	for _, l := range shares {
		answer = append(answer, "  "+l)
	}
	return answer, 0
}

// do reckons what Do answers.
func (p *plain) do(script string) []string {
	lines := strings.Split(script, "\n")
	if lines[len(lines)-1] == "" {
		lines = lines[:len(lines)-1]
	}
	if len(script) > 1<<18 || len(lines) > 4096 {
		return []string{"error 4"}
	}
	var all []string
	for i, l := range lines {
		for k, x := range p.line(l) {
			if k == 0 {
				x = fmt.Sprintf("%d: %s", i+1, x)
			}
			all = append(all, x)
		}
	}
	return all
}
