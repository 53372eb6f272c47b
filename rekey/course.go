package rekey

import (
	"slices"
	"strings"

	"coffer/api"
	"coffer/convoy"
	"coffer/digest"
)

// stand is where a step, or what is left of one, stands: what is to be done next.
type stand int

const (
	atZone    stand = iota // the hotzone is to be read
	atKeys                 // what was read is to be worked out under the new key
	atRecord               // the journal is to be written
	atMark                 // the step is to be committed as one in the midst
	atData                 // what was worked out is to be written
	atFlush                // what was written is to be made durable
	atGain                 // the step is to be committed as one that is done
	atEnd                  // the rotation's end is to be committed
	atArea                 // what the journals left is to be taken away
	atJournal              // a crash came: the journal is to be read
	atOld                  // and by it the sectors that are still old
	atRest                 // nothing is left
)

// course is a step on its way.
type course struct {
	work    Work
	meta    api.Meta // what was committed last
	area    api.Area // its rotation's, which is needed behind its end too
	first   uint64   // the hotzone
	count   uint64
	journal []byte
	runs    []run
}

// run is sectors of the data, one behind the other: as they were, then as they are to be.
type run struct {
	first uint64
	bytes []byte
}

// failed is what is thrown where the call can't go on.
type failed struct {
	why api.Errno
}

// must goes on only where the device, layer 12 or Commit has answered OK.
func must(why api.Errno) {
	if why != api.OK {
		panic(failed{why})
	}
}

// newCourse copies the metadata: whatever Commit does to those that were handed in is not to be seen.
func newCourse(w Work, m api.Meta) *course {
	first, count := hotzone(sectors(m.Shape), m.Rotation)
	return &course{work: w, meta: copied(m), area: m.Rotation.Area, first: first, count: count}
}

// walk does all from a stand on: the metadata behind it, or the error that ended it. The device is asked for its size in here, so that whatever it throws is caught.
func (c *course) walk(from stand) (m api.Meta, why api.Errno) {
	defer func() {
		switch f := recover().(type) {
		case nil:
		case failed:
			m, why = api.Meta{}, f.why
		default:
			m, why = api.Meta{}, api.ErrPanic
		}
	}()
	if !isOf(c.work.Device, c.meta.Shape) {
		return api.Meta{}, api.ErrArg
	}
	for do := whatIsDone(from); do != nil; {
		do = whatIsDone(do(c))
	}
	return c.meta, api.OK
}

// whatIsDone gives what is done at a stand, which tells the next one; nothing, where the call rests.
func whatIsDone(at stand) func(c *course) stand {
	switch at {
	case atZone:
		return (*course).readZone
	case atKeys:
		return (*course).workOut
	case atRecord:
		return (*course).writeJournal
	case atMark:
		return (*course).commitActive
	case atData:
		return (*course).writeRuns
	case atFlush:
		return (*course).flush
	case atGain:
		return (*course).commitDone
	case atEnd:
		return (*course).commitEnd
	case atArea:
		return (*course).blankArea
	case atJournal:
		return (*course).readJournal
	case atOld:
		return (*course).findOld
	}
	return nil
}

func (c *course) readZone() stand {
	now := c.readData()
	c.journal = c.record(now)
	c.runs = []run{{c.first, now}}
	return atKeys
}

// workOut does it of all runs ahead of the first write, so that nothing is written where layer 12 refuses.
func (c *course) workOut() stand {
	for i, r := range c.runs {
		b, e := convoy.Move(c.work.From, c.work.To, c.work.Workers, c.unit(), r.first, r.bytes)
		must(e)
		c.runs[i].bytes = b
	}
	if c.meta.Rotation.Active {
		return atData // the journal stands already
	}
	return atRecord
}

func (c *course) writeJournal() stand {
	c.write(c.journalStart(), c.journal)
	return atMark
}

func (c *course) commitActive() stand {
	m := c.meta
	m.Rotation.Active, m.Rotation.Count, m.Rotation.Sum = true, c.count, c.sum()
	c.commit(m)
	return atData
}

func (c *course) writeRuns() stand {
	for _, r := range c.runs {
		c.write(c.place(r.first), r.bytes)
	}
	return atFlush
}

func (c *course) flush() stand {
	must(c.work.Device.Flush())
	if !c.meta.Rotation.On {
		return atRest
	}
	return atGain
}

func (c *course) commitDone() stand {
	m := c.meta
	m.Rotation.Done += c.count
	m.Rotation.Active, m.Rotation.Count, m.Rotation.Sum = false, 0, ""
	m.Segments = listed(segments(sectors(m.Shape), m.Rotation))
	c.commit(m)
	return atRest
}

// commitEnd leaves the segments as they are: all sectors are the new epoch's already.
func (c *course) commitEnd() stand {
	m := c.meta
	m.Epochs = numbered(m.Epochs, m.Rotation.To)
	m.Rotation = api.Rotation{}
	c.commit(m)
	return atArea
}

func (c *course) blankArea() stand {
	c.write(c.journalStart(), make([]byte, c.area.Size))
	return atFlush
}

// readJournal takes the journal for what the hotzone held, if that is what it tells.
func (c *course) readJournal() stand {
	r := c.meta.Rotation
	c.journal = c.read(c.journalStart(), journalSize(c.unit(), r.Mode, c.count))
	if c.sum() != r.Sum {
		must(api.ErrJournal)
	}
	if r.Mode == api.ByDigests {
		return atOld
	}
	c.runs = []run{{c.first, c.journal}}
	return atKeys
}

// findOld gathers the sectors that the crash has left as they were, by their digests.
func (c *course) findOld() stand {
	now := c.readData()
	for i, sum := range c.digests(now) {
		from := i * api.DigestSize
		if sum != string(c.journal[from:from+api.DigestSize]) {
			continue
		}
		c.gather(c.first+uint64(i), now[i*c.unit():(i+1)*c.unit()])
	}
	return atKeys
}

// gather puts a sector behind the last run, or begins another one with it.
func (c *course) gather(number uint64, sector []byte) {
	last := len(c.runs) - 1
	if last < 0 || c.runs[last].first+uint64(len(c.runs[last].bytes)/c.unit()) != number {
		c.runs = append(c.runs, run{first: number})
		last++
	}
	c.runs[last].bytes = append(c.runs[last].bytes, sector...)
}

// commit has metadata committed. Commit is handed a copy: the call goes on with its own.
func (c *course) commit(m api.Meta) {
	must(c.work.Commit(copied(m)))
	c.meta = m
}

// record gives the journal of what was read.
func (c *course) record(old []byte) []byte {
	if c.meta.Rotation.Mode == api.ByJournal {
		return old
	}
	journal := make([]byte, journalSize(c.unit(), api.ByDigests, c.count))
	copy(journal, strings.Join(c.digests(old), ""))
	return journal
}

// sum tells what the journal is known by.
func (c *course) sum() string {
	b, e := digest.Sum(api.Hash256, c.journal[:sumSize(c.unit(), c.meta.Rotation.Mode, c.count)])
	must(e)
	return string(b)
}

func (c *course) digests(sectors []byte) []string {
	sums, e := convoy.Digests(c.work.Workers, c.unit(), sectors)
	must(e)
	return sums
}

// unit tells the bytes of a sector.
func (c *course) unit() int { return c.meta.Shape.Unit }

// place tells which of the device's sectors is one of the data.
func (c *course) place(number uint64) uint64 { return firstSector(c.meta.Shape) + number }

// journalStart tells which of the device's sectors is the area's first one.
func (c *course) journalStart() uint64 { return uint64(c.area.Offset) / uint64(c.unit()) }

// readData gives what the hotzone holds.
func (c *course) readData() []byte {
	return c.read(c.place(c.first), int64(c.count)*int64(c.unit()))
}

// span is the most sectors of one call of the device.
const span = 4096

// read gives so many bytes from a sector of the device on. One call is enough: neither a hotzone nor its journal has more than MaxHot sectors.
func (c *course) read(at uint64, size int64) []byte {
	b := make([]byte, size)
	must(c.work.Device.Read(at, b))
	return b
}

// write fills sectors of the device from one on. An area may have more of them than one call takes.
func (c *course) write(at uint64, data []byte) {
	for part := range slices.Chunk(data, span*c.unit()) {
		must(c.work.Device.Write(at, part))
		at += span
	}
}
