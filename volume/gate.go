package volume

import (
	"errors"

	"coffer/api"
)

// asked is what a call is made for, as far as a state lets it in or not.
type asked uint

const (
	toWork asked = 1 << iota // with the keys
	toResume
	toClose
)

// door is what one state lets in, and what it answers all else.
type door struct {
	open asked
	why  api.Errno
}

func (d door) lets(a asked) api.Errno {
	if d.open&a == 0 {
		return d.why
	}
	return api.OK
}

// gate gives what says whether a call is let in, as the volume stands.
func (v *Volume) gate() func(a asked) api.Errno {
	switch v.state {
	case api.Opened:
		return door{toWork | toClose, api.ErrState}.lets
	case api.Suspended:
		return door{toResume | toClose, api.ErrSuspended}.lets
	case api.Stuck:
		return door{toClose, api.ErrStuck}.lets
	case api.Closed:
		return door{why: api.ErrClosed}.lets
	}
	return door{why: api.ErrNil}.lets
}

// call is the face of all that a state may refuse: it has the work done, and looks behind it whether the volume can go on.
func (v *Volume) call(a asked, work func(c *core) error) (why api.Errno) {
	if v == nil {
		return api.ErrNil
	}
	if e := v.gate()(a); e != api.OK {
		return e
	}
	defer func() {
		if recover() != nil { // a device that does not answer
			why = api.ErrPanic
		}
	}()
	err := work(v.core)
	if v.core != nil && (v.core.Stuck() || errors.Is(err, errHalf)) {
		v.become(api.Stuck)
	}
	return number(err)
}

// become sets how the volume stands. Keys that it has no use for are put away, and of a closed one all.
func (v *Volume) become(state int) {
	v.state = state
	if state != api.Opened {
		v.core.putAway()
	}
	if state == api.Closed {
		v.core = nil
	}
}

// errHalf marks what has ended a step: nobody knows how far the step had come.
var errHalf = errors.New("a step is half done")

// fault is what the device or a layer below has answered.
type fault struct {
	why  api.Errno
	mark error // what it means for the volume beside that; nil: nothing
}

func (f fault) Error() string { return f.why.Error() }

// Unwrap gives the mark.
func (f fault) Unwrap() error { return f.mark }

// wrapped gives an answer as an error; nil, if it is none.
func wrapped(why api.Errno) error { return marked(why, nil) }

// marked gives it with a mark.
func marked(why api.Errno, mark error) error {
	if why == api.OK {
		return nil
	}
	return fault{why: why, mark: mark}
}

// number tells what a call answers that has ended so.
func number(err error) api.Errno {
	var f fault
	if errors.As(err, &f) {
		return f.why
	}
	return api.OK
}
