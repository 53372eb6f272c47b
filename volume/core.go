package volume

import (
	"coffer/api"
	"coffer/convoy"
	"coffer/keyring"
	"coffer/rekey"
	"coffer/spring"
	"coffer/tweak"
)

// ring is what a volume asks of its keys.
type ring interface {
	Meta() api.Meta
	Device() api.Device
	Stuck() bool
	Commit(m api.Meta) api.Errno
	Open(pass []byte, slot int) (int, api.Errno)
	Unlock(master []byte) api.Errno
	Master() ([]byte, api.Errno)
	Lock() api.Errno
	Add(s *spring.Spring, pass []byte, slot int, o api.SlotOpts) (int, api.Errno)
	Change(s *spring.Spring, pass []byte, slot int, o api.SlotOpts) api.Errno
	Kill(slot int) api.Errno
	Prefer(slot, priority int) api.Errno
	Epoch(s *spring.Spring, number uint64, cipher string) (api.Epoch, api.Errno)
	Key(number uint64) ([]byte, api.Errno)
	Sweep() api.Errno
	Note(t api.Token) api.Errno
	Unnote(number int) api.Errno
}

// core is what a volume has till it is closed. The ring is embedded here, as a Volume that embeds it would give its calls to everybody, past the gate.
type core struct {
	ring
	workers int
	slot    int                      // which opened it last; -1: none
	ciphers map[uint64]*tweak.Cipher // of the epochs, by number; none, while the keys are put away
}

// begun gives a volume that is opened, its ring by what is handed in.
func begun(d api.Device, workers int, open func(c *core) error) (*Volume, api.Errno) {
	if workers < 1 || workers > api.MaxWorkers {
		return nil, api.ErrArg
	}
	r, e := keyring.Load(d)
	if e != api.OK {
		return nil, e
	}
	c := &core{ring: r, workers: workers, ciphers: map[uint64]*tweak.Cipher{}}
	err := open(c)
	if err == nil {
		err = c.tidy()
	}
	if err != nil {
		c.putAway()
		return nil, number(err)
	}
	return &Volume{state: api.Opened, core: c}, api.OK
}

// openBy takes the keys by a passphrase.
func (c *core) openBy(pass []byte, slot int) error {
	opened, e := c.Open(pass, slot)
	if e != api.OK {
		return wrapped(e)
	}
	return c.takeKeys(opened)
}

// unlockBy takes them by the master key.
func (c *core) unlockBy(master []byte) error {
	if e := c.Unlock(master); e != api.OK {
		return wrapped(e)
	}
	return c.takeKeys(-1)
}

// takeKeys makes the ciphers of all epochs, by rising number. Which keyslot opened the ring counts only where all of them could be made.
func (c *core) takeKeys(slot int) error {
	for _, p := range c.Meta().Epochs {
		if err := c.takeKey(p); err != nil {
			return err
		}
	}
	c.slot = slot
	return nil
}

// takeKey makes an epoch's cipher.
func (c *core) takeKey(p api.Epoch) error {
	key, e := c.Key(p.Number)
	if e != api.OK {
		return wrapped(e)
	}
	cipher, e := tweak.New(p.Cipher, key)
	clear(key)
	if e != api.OK {
		return wrapped(e)
	}
	c.ciphers[p.Number] = cipher
	return nil
}

// dropKey puts an epoch's cipher away.
func (c *core) dropKey(number uint64) {
	c.ciphers[number].Wipe()
	delete(c.ciphers, number)
}

// putAway puts all keys away.
func (c *core) putAway() {
	for number := range c.ciphers {
		c.dropKey(number)
	}
	c.Lock()
}

// tidy does what a crash has left to be done.
func (c *core) tidy() error {
	if m := c.Meta(); m.Rotation.Active {
		if _, e := rekey.Recover(c.work(m.Rotation), m); e != api.OK {
			return wrapped(e)
		}
	}
	return wrapped(c.Sweep())
}

// work is what a rotation's steps work on.
func (c *core) work(r api.Rotation) rekey.Work {
	return rekey.Work{Device: c.Device(), From: c.ciphers[r.From], To: c.ciphers[r.To], Workers: c.workers, Commit: c.Commit}
}

// begin begins a rotation.
func (c *core) begin(s *spring.Spring, t api.Turn) error {
	m := c.Meta()
	size, e := roomFor(m, s, t)
	if e != api.OK {
		return wrapped(e)
	}
	at, e := keyring.Free(m, size)
	if e != api.OK {
		return wrapped(e)
	}
	to, e := c.Epoch(s, newest(m).Number+1, t.Cipher)
	if e != api.OK {
		return wrapped(e)
	}
	turning, e := rekey.Begin(m, to, api.Area{Offset: at, Size: size}, t)
	if e != api.OK {
		return wrapped(e)
	}
	if e := c.Commit(turning); e != api.OK {
		return wrapped(e)
	}
	return c.takeKey(to)
}

// roomFor tells how many bytes the journals of a rotation need, or why it cannot begin, whatever is free.
func roomFor(m api.Meta, s *spring.Spring, t api.Turn) (int64, api.Errno) {
	size, noRoom := rekey.Room(m.Shape.Unit, t.Mode, t.Hot)
	_, noCipher := tweak.KeySize(t.Cipher)
	switch {
	case s == nil:
		return 0, api.ErrNil
	case m.Rotation.On:
		return 0, api.ErrRotating
	case noRoom != api.OK:
		return 0, api.ErrMode
	case noCipher != api.OK || newest(m).Number == api.MaxEpoch:
		return 0, api.ErrArg
	}
	return size, api.OK
}

// step goes on with a rotation: is it over?
func (c *core) step() (bool, error) {
	m := c.Meta()
	if !m.Rotation.On {
		return false, wrapped(api.ErrTurnOff)
	}
	_, over, e := rekey.Step(c.work(m.Rotation), m)
	if over {
		c.dropKey(m.Rotation.From)
	}
	return over, marked(e, errHalf)
}

// tell fills in how it stands.
func (c *core) tell(s *api.Status) {
	m := c.Meta()
	p := newest(m)
	s.Slot, s.Unit, s.Count = c.slot, m.Shape.Unit, sectors(m.Shape)
	s.Cipher, s.Epoch, s.Rotation = p.Cipher, p.Number, m.Rotation
	for _, slot := range m.Slots {
		s.Slots = append(s.Slots, slot.Number)
	}
}

// read fills a list with sectors of the data: behind all that could be an error.
func (c *core) read(at uint64, into []byte) error {
	m := c.Meta()
	if e := refusedSpan(m.Shape, at, len(into)); e != api.OK {
		return wrapped(e)
	}
	sealed := make([]byte, len(into))
	if e := c.Device().Read(firstSector(m.Shape)+at, sealed); e != api.OK {
		return wrapped(e)
	}
	plain, e := c.through(m, at, sealed, convoy.Open)
	copy(into, plain)
	return wrapped(e)
}

// write seals sectors of the data, all of them ahead of the first that is written.
func (c *core) write(at uint64, data []byte) error {
	m := c.Meta()
	if e := refusedSpan(m.Shape, at, len(data)); e != api.OK {
		return wrapped(e)
	}
	sealed, e := c.through(m, at, data, convoy.Seal)
	if e != api.OK {
		return wrapped(e)
	}
	return wrapped(c.Device().Write(firstSector(m.Shape)+at, sealed))
}

// change is layer 12's Seal or Open.
type change func(c *tweak.Cipher, workers, unit int, first uint64, run []byte) ([]byte, api.Errno)

// through gives sectors that were changed, each by its epoch's cipher; nothing beside an error.
func (c *core) through(m api.Meta, at uint64, data []byte, by change) ([]byte, api.Errno) {
	unit := m.Shape.Unit
	var out []byte
	for run := range runs(m.Segments, at, uint64(len(data)/unit)) {
		part := data[int(run.Start-at)*unit:][:int(run.Count)*unit]
		made, e := by(c.ciphers[run.Epoch], c.workers, unit, run.Start, part)
		if e != api.OK {
			return nil, e
		}
		out = append(out, made...)
	}
	return out, api.OK
}
