package shell

import (
	"strconv"
	"strings"

	"coffer/api"
	"coffer/digest"
	"coffer/escrow"
	"coffer/slab"
	"coffer/volume"
)

// volume is the one that the line is about.
func (t *task) volume() mount { return t.volumes.get(t.said.Name) }

// pass is the passphrase that the line gives.
func (t *task) pass() []byte { return []byte(t.of["pass"].text) }

func (t *task) format() []string {
	f := api.Format{
		Label:       t.of["label"].text,
		Subsystem:   t.of["subsystem"].text,
		UUID:        t.of["uuid"].text,
		Head:        t.of["head"].whole,
		Keys:        t.of["keys"].whole,
		Cipher:      t.of["cipher"].text,
		DigestTurns: t.of["digest"].whole,
		Slot:        t.slotOpts(),
	}
	check(volume.Format(t.slab(), t.spring(), f, t.pass()))
	return ok()
}

// slotOpts gives the options of a keyslot.
func (t *task) slotOpts() api.SlotOpts {
	return api.SlotOpts{
		Priority: t.of["prio"].whole,
		Hash:     t.of["hash"].whole,
		Turns:    t.of["turns"].whole,
		Cipher:   t.of["slotcipher"].text,
		Stripes:  t.of["stripes"].whole,
	}
}

// on is the slab that a volume is opened over.
func (t *task) on() *slab.Slab { return t.slabs.get(t.of["on"].text) }

// keep makes an opened volume a thing.
func (t *task) keep(v *volume.Volume, e api.Errno) {
	check(e)
	t.volumes.put(t.said.Name, mount{Volume: v, on: t.of["on"].text})
}

func (t *task) open() []string {
	t.keep(volume.Open(t.on(), t.pass(), t.of["slot"].whole, t.of["workers"].whole))
	return t.openedBy()
}

// openedBy tells the keyslot that opened the volume last.
func (t *task) openedBy() []string { return ok("slot", strconv.Itoa(t.volume().Status().Slot)) }

func (t *task) reopen() []string {
	t.keep(volume.Reopen(t.on(), t.of["master"].bytes, t.of["workers"].whole))
	return ok()
}

func (t *task) rejoin() []string {
	master, e := escrow.Join(strings.Split(t.of["shares"].text, "\n")...)
	check(e)
	t.keep(volume.Reopen(t.on(), master, t.of["workers"].whole))
	return ok()
}

func (t *task) status() []string { return ok(standing(t.volume().Status())...) }

func (t *task) read() []string {
	unit := t.volume().unit()
	number := t.of["at"].number
	into := make([]byte, int(t.of["sectors"].number)*unit)
	check(t.volume().Read(number, into))
	var lines []string
	for ; len(into) > 0; into = into[unit:] {
		lines = append(lines, sectorLine(number, into[:unit]))
		number++
	}
	return under(ok(), lines)
}

func (t *task) write() []string {
	check(t.volume().Write(t.of["at"].number, t.written(t.volume().unit())))
	return ok()
}

func (t *task) flush() []string {
	check(t.volume().Flush())
	return ok()
}

func (t *task) suspend() []string {
	check(t.volume().Suspend())
	return ok()
}

func (t *task) resume() []string {
	check(t.volume().Resume(t.pass(), t.of["slot"].whole))
	return t.openedBy()
}

func (t *task) close() []string {
	check(t.volume().Close())
	return ok()
}

func (t *task) add() []string {
	slot, e := t.volume().AddSlot(t.spring(), t.pass(), t.of["slot"].whole, t.slotOpts())
	check(e)
	return ok("slot", strconv.Itoa(slot))
}

func (t *task) change() []string {
	check(t.volume().ChangeSlot(t.spring(), t.pass(), t.of["slot"].whole, t.slotOpts()))
	return ok()
}

func (t *task) kill() []string {
	check(t.volume().KillSlot(t.of["slot"].whole))
	return ok()
}

func (t *task) prefer() []string {
	check(t.volume().PreferSlot(t.of["slot"].whole, t.of["prio"].whole))
	return ok()
}

func (t *task) note() []string {
	check(t.volume().Note(api.Token{Number: t.of["number"].whole, Kind: t.of["kind"].text, Slots: t.of["slots"].wholes, Note: t.of["note"].text}))
	return ok()
}

func (t *task) unnote() []string {
	check(t.volume().Unnote(t.of["number"].whole))
	return ok()
}

func (t *task) tokens() []string {
	var lines []string
	for _, token := range t.volume().Tokens() {
		lines = append(lines, tokenLine(token))
	}
	return okLines(lines)
}

func (t *task) master() []string {
	master, e := t.volume().Master()
	check(e)
	return ok(digest.Hex(master))
}

func (t *task) rotate() []string {
	turn := api.Turn{Cipher: t.of["cipher"].text, Mode: t.of["mode"].whole, Back: t.of["back"].whole == 1, Hot: t.of["hot"].number}
	check(t.volume().RotateStart(t.spring(), turn))
	return ok()
}

func (t *task) step() []string {
	steps := 0
	for range t.of["times"].number {
		over, e := t.volume().RotateStep()
		if e != api.OK {
			refuse(e, "behind", strconv.Itoa(steps))
		}
		steps++
		if over {
			return ok("over", strconv.Itoa(steps))
		}
	}
	return ok("more", strconv.Itoa(steps))
}

func (t *task) share() []string {
	master, e := t.volume().Master()
	check(e)
	shares, e := escrow.Split(t.spring(), master, t.of["need"].whole, t.of["of"].whole)
	check(e)
	return okLines(shares)
}
