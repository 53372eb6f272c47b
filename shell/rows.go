package shell

import (
	"math"
	"slices"

	"coffer/api"
)

// kind of things.
type kind int

const (
	noThing kind = iota
	aSlab
	aSpring
	aVolume
	aBackup
)

// role is what a line wants of a thing that it names.
type role int

const (
	isThere role = iota
	isIdle       // it is there, and a slab over which there is no volume that is not closed
	isMade       // it is not there yet
)

// part is which thing a name stands for.
type part struct {
	kind kind
	role role
}

// need is when an option stands in a line.
type need int

const (
	mayBe need = iota // where it is missing, a text stands for it
	mustBe
	isFill // fill: just one of it, hex and text is there
	orFill // hex and text
	byFill // it may be, but only beside fill
)

// option is one that a command has.
type option struct {
	key     string
	read    reading
	need    need
	missing string
	names   part
}

// row is a command.
type row struct {
	name    string
	about   part
	options []option
	play    func(*task) []string
}

func may(key string, read reading, missing string) option {
	return option{key: key, read: read, missing: missing}
}

func must(key string, read reading) option {
	return option{key: key, read: read, need: mustBe}
}

// naming is an option that names a thing.
func naming(key string, k kind, r role) option {
	return option{key: key, read: word(), need: mustBe, names: part{k, r}}
}

func at() option { return must("at", number(0, math.MaxUint64)) }

func shown() option { return may("sectors", number(1, api.MaxShellShown), "1") }

func workers() option { return may("workers", whole(), "1") }

func anySlot() option { return may("slot", whole(), "-1") }

func yes(key string) option {
	return may(key, oneOf(choice{"yes", 1}, choice{"no", 0}), "no")
}

func mode() option {
	return must("mode", oneOf(choice{"journal", api.ByJournal}, choice{"digests", api.ByDigests}))
}

// writing has the options by which a line says what is written, behind those ahead.
func writing(ahead ...option) []option {
	return append(ahead,
		option{key: "fill", read: number(0, math.MaxUint8), need: isFill},
		option{key: "hex", read: hex(), need: orFill},
		option{key: "text", read: text(), need: orFill},
		option{key: "sectors", read: number(1, mostFilled), need: byFill, missing: "1"},
	)
}

// keyslot has the options of a keyslot behind those ahead.
func keyslot(ahead ...option) []option {
	return append(ahead,
		may("prio", whole(), "1"),
		may("hash", whole(), "256"),
		may("turns", whole(), "1000"),
		may("slotcipher", text(), usualCipher),
		may("stripes", whole(), "4"),
	)
}

const (
	mostFilled  = 4096 // sectors that one line fills
	usualCipher = "aes256-xts-plain64"
)

// rows are all commands.
func rows() []row {
	slab, newSlab, idle := part{aSlab, isThere}, part{aSlab, isMade}, part{aSlab, isIdle}
	spring, newSpring := part{aSpring, isThere}, part{aSpring, isMade}
	volume, newVolume := part{aVolume, isThere}, part{aVolume, isMade}
	random, on, pass := naming("spring", aSpring, isThere), naming("on", aSlab, isIdle), must("pass", text())
	return []row{
		{"slab", newSlab, []option{may("unit", whole(), "512"), must("count", number(0, math.MaxUint64)), may("plan", plan(), "")}, (*task).makeSlab},
		{"copy", slab, []option{naming("as", aSlab, isMade)}, (*task).copySlab},
		{"off", slab, nil, (*task).off},
		{"restart", slab, []option{may("keep", bits(mostBits), "")}, (*task).restart},
		{"sync", slab, nil, (*task).sync},
		{"ops", slab, nil, (*task).ops},
		{"pending", slab, nil, (*task).pending},
		{"used", slab, nil, (*task).used},
		{"peek", slab, []option{at(), shown(), yes("medium")}, (*task).peek},
		{"poke", slab, writing(at()), (*task).poke},
		{"spring", newSpring, []option{must("entropy", hex()), may("hash", whole(), "256"), may("limit", whole(), "16777216"), may("nonce", hex(), ""), may("personal", text(), "")}, (*task).makeSpring},
		{"feed", spring, []option{must("entropy", hex())}, (*task).feed},
		{"left", spring, nil, (*task).left},
		{"format", idle, keyslot(random, pass, may("head", whole(), "16384"), may("keys", whole(), "131072"), may("cipher", text(), usualCipher), may("label", text(), ""), may("subsystem", text(), ""), may("uuid", text(), ""), may("digest", whole(), "1000")), (*task).format},
		{"open", newVolume, []option{on, pass, anySlot(), workers()}, (*task).open},
		{"reopen", newVolume, []option{on, must("master", hex()), workers()}, (*task).reopen},
		{"rejoin", newVolume, []option{on, must("shares", text()), workers()}, (*task).rejoin},
		{"status", volume, nil, (*task).status},
		{"read", volume, []option{at(), shown()}, (*task).read},
		{"write", volume, writing(at()), (*task).write},
		{"flush", volume, nil, (*task).flush},
		{"suspend", volume, nil, (*task).suspend},
		{"resume", volume, []option{pass, anySlot()}, (*task).resume},
		{"close", volume, nil, (*task).close},
		{"add", volume, keyslot(random, pass, anySlot()), (*task).add},
		{"change", volume, keyslot(random, pass, must("slot", whole())), (*task).change},
		{"kill", volume, []option{must("slot", whole())}, (*task).kill},
		{"prefer", volume, []option{must("slot", whole()), must("prio", whole())}, (*task).prefer},
		{"note", volume, []option{must("number", whole()), must("kind", text()), may("slots", wholes(), ""), may("note", text(), "")}, (*task).note},
		{"unnote", volume, []option{must("number", whole())}, (*task).unnote},
		{"tokens", volume, nil, (*task).tokens},
		{"master", volume, nil, (*task).master},
		{"rotate", volume, []option{random, must("cipher", text()), mode(), yes("back"), must("hot", number(0, math.MaxUint64))}, (*task).rotate},
		{"step", volume, []option{may("times", number(1, api.MaxShellTimes), "1")}, (*task).step},
		{"share", volume, []option{random, must("need", whole()), must("of", whole())}, (*task).share},
		{"dump", slab, nil, (*task).dump},
		{"backup", slab, []option{naming("as", aBackup, isMade), must("size", whole())}, (*task).backup},
		{"restore", idle, []option{naming("from", aBackup, isThere), must("head", whole())}, (*task).restore},
	}
}

// find tells the command of that name.
func find(name string) row {
	all := rows()
	i := slices.IndexFunc(all, func(r row) bool { return r.name == name })
	if i < 0 {
		refuse(api.ErrShellCommand)
	}
	return all[i]
}
