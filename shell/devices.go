package shell

import (
	"bytes"
	"slices"
	"strconv"
	"strings"

	"coffer/header"
	"coffer/probe"
	"coffer/slab"
	"coffer/spring"
)

// slab is the one that the line is about.
func (t *task) slab() *slab.Slab { return t.slabs.get(t.said.Name) }

func (t *task) makeSlab() []string {
	made, e := slab.New(t.of["unit"].whole, t.of["count"].number, t.of["plan"].plan...)
	check(e)
	t.slabs.put(t.said.Name, made)
	return ok()
}

func (t *task) copySlab() []string {
	t.slabs.put(t.of["as"].text, t.slab().Copy())
	return ok()
}

func (t *task) off() []string {
	check(t.slab().Off())
	return ok()
}

func (t *task) restart() []string {
	check(t.slab().Restart(t.of["keep"].bits...))
	return ok()
}

func (t *task) sync() []string {
	check(t.slab().Flush())
	return ok()
}

func (t *task) ops() []string {
	d := t.slab()
	c := d.Counts()
	return ok("ops", signed(d.Ops()), "reads", signed(c.Reads), "writes", signed(c.Writes), "flushes", signed(c.Flushes), "fetched", signed(c.Fetched), "stored", signed(c.Stored), "lit", yesNo(d.Lit()))
}

func (t *task) pending() []string { return firstOf(t.slab().Pending()) }

func (t *task) used() []string { return firstOf(t.slab().Used()) }

func (t *task) peek() []string {
	look := t.slab().Peek
	if t.of["medium"].whole == 1 {
		look = t.slab().Rest
	}
	var lines []string
	for i := range t.of["sectors"].number {
		number := t.of["at"].number + i
		sector, e := look(number)
		check(e)
		lines = append(lines, sectorLine(number, sector))
	}
	return under(ok(), lines)
}

func (t *task) poke() []string {
	number := t.of["at"].number
	for sector := range slices.Chunk(t.written(t.slab().Unit()), t.slab().Unit()) {
		check(t.slab().Poke(number, sector))
		number++
	}
	return ok()
}

// written gives the bytes that the line says are written, in whole sectors.
func (t *task) written(unit int) []byte {
	if fill, is := t.of["fill"]; is {
		return bytes.Repeat([]byte{byte(fill.number)}, int(t.of["sectors"].number)*unit)
	}
	data := append(t.of["hex"].bytes, t.of["text"].text...) // just one of them is there
	sectors := max(1, (len(data)+unit-1)/unit)
	whole := make([]byte, sectors*unit)
	copy(whole, data)
	return whole
}

// spring is the one that an option names.
func (t *task) spring() *spring.Spring { return t.springs.get(t.of["spring"].text) }

func (t *task) makeSpring() []string {
	made, e := spring.New(t.of["hash"].whole, t.of["limit"].whole, t.of["entropy"].bytes, t.of["nonce"].bytes, []byte(t.of["personal"].text))
	check(e)
	t.springs.put(t.said.Name, made)
	return ok()
}

func (t *task) feed() []string {
	check(t.springs.get(t.said.Name).Feed(t.of["entropy"].bytes))
	return ok()
}

func (t *task) left() []string {
	return ok(strconv.Itoa(t.springs.get(t.said.Name).Left()))
}

func (t *task) dump() []string {
	text, e := probe.Dump(t.slab())
	check(e)
	var lines []string
	for line := range strings.Lines(text) {
		lines = append(lines, strings.TrimSuffix(line, "\n"))
	}
	return okLines(lines)
}

func (t *task) backup() []string {
	made, e := header.Backup(t.slab(), t.of["size"].whole)
	check(e)
	t.backups.put(t.of["as"].text, made)
	return ok(strconv.Itoa(len(made)))
}

func (t *task) restore() []string {
	check(header.Restore(t.slab(), t.backups.get(t.of["from"].text), t.of["head"].whole))
	return ok()
}
