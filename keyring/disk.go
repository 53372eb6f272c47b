package keyring

import (
	"bytes"
	"errors"
	"slices"

	"coffer/api"
)

// span is the most sectors of one call of the device.
const span = 4096

// fault is an error that the device answered; it is thrown.
type fault struct {
	why     api.Errno
	writing bool // the call had begun to write, or to flush
}

func (f fault) Error() string { return f.why.Error() }

// Unwrap gives what the device answered.
func (f fault) Unwrap() error { return f.why }

// must goes on only where the device has answered OK.
func must(why api.Errno, writing bool) {
	if why != api.OK {
		panic(fault{why: why, writing: writing})
	}
}

// caught tells the error of what was thrown, and whether the ring is stuck by it. Of what is no fault nobody knows how far the call had come.
func caught(thrown any) (api.Errno, bool) {
	if err, told := thrown.(error); told {
		var f fault
		var why api.Errno
		if errors.As(err, &f) && errors.As(err, &why) {
			return why, f.writing
		}
	}
	return api.ErrPanic, true
}

// disk is a device by its bytes: all that is read and written are whole sectors of it.
type disk struct {
	device api.Device
}

// unit tells the bytes of a sector.
func (d disk) unit() int64 { return int64(d.device.Unit()) }

// parts gives the pieces of which each is one call of the device.
func (d disk) parts(a api.Area) func(yield func(api.Area) bool) {
	return func(yield func(api.Area) bool) {
		most, end := span*d.unit(), a.Offset+a.Size
		for at := a.Offset; at < end; at += most {
			if !yield(api.Area{Offset: at, Size: min(most, end-at)}) {
				return
			}
		}
	}
}

// read gives what a part of the device holds; nothing was written ahead of it.
func (d disk) read(a api.Area) []byte {
	var b []byte
	for part := range d.parts(a) {
		into := make([]byte, part.Size)
		must(d.device.Read(uint64(part.Offset/d.unit()), into), false)
		b = append(b, into...)
	}
	return b
}

// write fills a part of the device.
func (d disk) write(a api.Area, data []byte) {
	for part := range d.parts(a) {
		from := part.Offset - a.Offset
		must(d.device.Write(uint64(part.Offset/d.unit()), data[from:from+part.Size]), true)
	}
}

// flush is a step: what was written is durable behind it.
func (d disk) flush() { must(d.device.Flush(), true) }

// lay is the step that writes an area.
func (d disk) lay(a api.Area, content []byte) func() {
	return func() { d.write(a, content) }
}

// blank is the step that fills an area with zeros.
func (d disk) blank(a api.Area) func() {
	return func() { d.write(a, make([]byte, a.Size)) }
}

// wipe gives the steps that take what an area held away for good.
func (d disk) wipe(a api.Area) []func() { return []func(){d.blank(a), d.flush} }

// sweep gives the steps that leave nothing but zeros in what is unclaimed. All of it is read here, ahead of the first step.
func (d disk) sweep(m api.Meta) []func() {
	var steps []func()
	for gap := range gaps(m) {
		for part := range d.parts(gap) {
			for _, a := range d.dirty(part) {
				steps = append(steps, d.blank(a))
			}
		}
	}
	return steps
}

// dirty gives the runs of sectors that are not zeros.
func (d disk) dirty(a api.Area) []api.Area {
	var runs []api.Area
	zeros := make([]byte, d.unit())
	at := a.Offset
	for sector := range slices.Chunk(d.read(a), len(zeros)) {
		last := len(runs) - 1
		switch {
		case bytes.Equal(sector, zeros):
		case last >= 0 && runs[last].Offset+runs[last].Size == at:
			runs[last].Size += d.unit()
		default:
			runs = append(runs, api.Area{Offset: at, Size: d.unit()})
		}
		at += d.unit()
	}
	return runs
}
