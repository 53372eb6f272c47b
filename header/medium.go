package header

import (
	"bytes"
	"slices"

	"coffer/api"
)

// span is the most sectors of one call of the device.
const span = 256

// medium is a device whose errors stop all that is done with it: they are thrown, and over catches them.
type medium struct {
	device api.Device
	unit   int
	count  uint64
}

// failed is what is thrown.
type failed struct {
	why api.Errno
}

// over does some work with a device, and tells the work's error, or the device's, which ended it.
func over(d api.Device, work func(m medium) api.Errno) (why api.Errno) {
	defer func() {
		switch f := recover().(type) {
		case nil:
		case failed:
			why = f.why
		default:
			why = api.ErrPanic
		}
	}()
	if d == nil {
		return api.ErrNil
	}
	m := medium{device: d, unit: d.Unit(), count: d.Count()}
	if !isUnit(m.unit) {
		return api.ErrArg
	}
	return work(m)
}

func isUnit(n int) bool {
	return n == 512 || n == 1024 || n == 2048 || n == 4096
}

// must goes on only where the device has answered OK.
func must(why api.Errno) {
	if why != api.OK {
		panic(failed{why})
	}
}

// has tells whether the device has so many bytes, a multiple of its sector's.
func (m medium) has(n int) bool { return uint64(n/m.unit) <= m.count }

// read fills whole sectors from a byte of the device on.
func (m medium) read(at int, into []byte) {
	for part := range slices.Chunk(into, span*m.unit) {
		must(m.device.Read(uint64(at/m.unit), part))
		at += len(part)
	}
}

// bytes reads so many of them.
func (m medium) bytes(at, n int) []byte {
	b := make([]byte, n)
	m.read(at, b)
	return b
}

// write lays whole sectors down from a byte of the device on, in rising order.
func (m medium) write(at int, data []byte) {
	for part := range slices.Chunk(data, span*m.unit) {
		must(m.device.Write(uint64(at/m.unit), part))
		at += len(part)
	}
}

// blot writes zeros over one sector.
func (m medium) blot(at int) { m.write(at, make([]byte, m.unit)) }

func (m medium) flush() { must(m.device.Flush()) }

// refused tells why a copy, and its twin, cannot be laid down on the device.
func (m medium) refused(c api.HeadCopy) api.Errno {
	if e := refused(c); e != api.OK {
		return e
	}
	return m.tooSmall(c.Head)
}

// tooSmall tells ErrHeadSize, if two copies of so many bytes have no room on the device.
func (m medium) tooSmall(head int) api.Errno {
	if !m.has(2 * head) {
		return api.ErrHeadSize
	}
	return api.OK
}

// lay writes a copy to its place.
func (m medium) lay(c api.HeadCopy) { m.write(start(c), laid(c)) }

// mend lays a copy's twin down where it is not there already.
func (m medium) mend(c api.HeadCopy) bool {
	other := twin(c)
	want := laid(other)
	if bytes.Equal(m.bytes(start(other), len(want)), want) {
		return false
	}
	m.write(start(other), want)
	m.flush()
	return true
}

func (m medium) scan() api.HeadFound {
	first := m.first()
	return api.HeadFound{First: first, Second: m.second(first)}
}

// side unpacks a whole copy.
func (m medium) side(at, head int, second bool) api.HeadSide {
	c, why := Unpack(m.bytes(at, head), second)
	return api.HeadSide{Why: why, Copy: c}
}

// opening tells the Head that the first bytes of a copy name.
func (m medium) opening(at int, second bool) (int, api.Errno) {
	c, why := readFixed(m.bytes(at, api.HeadFixed), second, true)
	return c.Head, why
}

func (m medium) first() api.HeadSide {
	if !m.has(api.HeadFixed) {
		return api.HeadSide{Why: api.ErrShort}
	}
	head, why := m.opening(0, false)
	if why == api.OK {
		why = m.tooSmall(head)
	}
	if why != api.OK {
		return api.HeadSide{Why: why}
	}
	return m.side(0, head, false)
}

// second looks where a good first copy says, else at all places that a whole copy has room at.
func (m medium) second(first api.HeadSide) api.HeadSide {
	if first.Why == api.OK {
		return m.side(first.Copy.Head, first.Copy.Head, true)
	}
	for at := range places {
		if m.tooSmall(at) != api.OK {
			break
		}
		if head, why := m.opening(at, true); why != api.OK || head != at {
			continue // spares the reading of all that begins otherwise than a copy of this place does
		}
		if side := m.side(at, at, true); side.Why == api.OK {
			return side
		}
	}
	return api.HeadSide{Why: api.ErrHeader}
}
