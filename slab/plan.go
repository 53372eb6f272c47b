package slab

import "coffer/api"

// asked is a kind of operation; one bit each, so that several are a sum.
type asked int

const (
	reading asked = 1 << iota
	writing
	flushing
)

// fate is what an operation meets: nothing, if the answer is OK.
type fate struct {
	answer api.Errno // ErrOff: the power goes
	stored int       // sectors of a write that are written all the same, at most
}

// event is what a glitch does ahead of its operation. It holds no slab and no medium: so a copy's plan touches the copy alone.
type event func(medium store, kind asked) fate

// plan is the events by the numbers of their operations, in the order of the glitches.
type plan map[int64][]event

func mayPlan(glitches []api.Glitch, unit int, count uint64) bool {
	if len(glitches) > api.MaxGlitches {
		return false
	}
	for _, g := range glitches {
		if !mayGlitch(g, unit, count) {
			return false
		}
	}
	return true
}

func mayGlitch(g api.Glitch, unit int, count uint64) bool {
	if g.Op < 1 || g.Kind < api.GlitchRead || g.Kind > api.GlitchTurn || g.N < 0 {
		return false
	}
	return g.Kind != api.GlitchTurn || g.At < count && g.N < 8*unit
}

func newPlan(glitches []api.Glitch) plan {
	p := plan{}
	for _, g := range glitches {
		p[g.Op] = append(p[g.Op], eventOf(g))
	}
	return p
}

func eventOf(g api.Glitch) event {
	switch g.Kind {
	case api.GlitchRead:
		return met(reading, fate{answer: api.ErrDevice})
	case api.GlitchWrite:
		return met(writing, fate{answer: api.ErrDevice})
	case api.GlitchPart:
		return met(writing, fate{answer: api.ErrDevice, stored: g.N})
	case api.GlitchFlush:
		return met(flushing, fate{answer: api.ErrDevice})
	case api.GlitchOff:
		return met(reading|writing|flushing, fate{answer: api.ErrOff, stored: g.N})
	}
	return func(medium store, _ asked) fate {
		medium.turn(g.At, g.N)
		return fate{}
	}
}

// met is an event that the operations of some kinds can have, and all others pass by.
func met(kinds asked, f fate) event {
	return func(_ store, kind asked) fate {
		if kinds&kind == 0 {
			return fate{}
		}
		return f
	}
}

// meet turns all bits that are due, and tells the first fate. Numbers never come again: what was planned of this one is forgotten.
func (p plan) meet(op int64, medium store, kind asked) fate {
	var first fate
	for _, happen := range p[op] {
		if f := happen(medium, kind); first.answer == api.OK {
			first = f
		}
	}
	delete(p, op)
	return first
}

func (p plan) copy() plan {
	c := plan{}
	for op, events := range p {
		c[op] = append([]event(nil), events...)
	}
	return c
}
