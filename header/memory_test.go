package header_test

import (
	"bytes"
	"sync"
	"testing"

	"coffer/api"
	"coffer/header"
)

// spoil changes a list, and its spare room too: whoever shares its memory shows it.
func spoil(b []byte) {
	b = b[:cap(b)]
	for i := range b {
		b[i] ^= 0xa5
	}
}

// Rule 2: each answer is new memory.
func TestAnswersApart(t *testing.T) {
	c := copyOf(1<<14, 5, "{}")
	a, _ := header.Pack(c)
	b, _ := header.Pack(c)
	spoil(a)
	if !bytes.Equal(b, modelPack(c)) {
		t.Errorf("two answers of Pack share memory")
	}
	d := laidDown(t, 512, 36864, c)
	disk := bytes.Clone(d.disk)
	a, _ = header.Backup(d, 36864)
	b, _ = header.Backup(d, 36864)
	spoil(a)
	if !bytes.Equal(b, modelBackup(disk)) || !bytes.Equal(d.disk, disk) {
		t.Errorf("an answer of Backup shares memory")
	}
}

// Rule 2: what is handed in is not changed, nor the room behind it, and not kept.
func TestArgumentsApart(t *testing.T) {
	c := copyOf(1<<14, 5, "{}")
	room := append(modelPack(c), bytes.Repeat([]byte("z"), 100)...)
	kept := bytes.Clone(room)
	got, e := header.Unpack(room[:1<<14], false)
	if e != api.OK || !bytes.Equal(room, kept) {
		t.Errorf("Unpack: error %d, or what is handed in is changed", e)
	}
	spoil(room)
	if got != c {
		t.Errorf("Unpack keeps what is handed in: %v", got)
	}
	backup := append(modelBackup(laidDown(t, 512, 36864, c).disk), bytes.Repeat([]byte("z"), 100)...)
	kept = bytes.Clone(backup)
	d := newTape(t, 512, 40960)
	expect(t, "Restore", header.Restore(d, backup[:len(backup)-100], 1<<14), api.OK)
	if !bytes.Equal(backup, kept) {
		t.Errorf("Restore changes what is handed in")
	}
	spoil(backup)
	if got, did, e := header.Load(d, always); got != c || did || e != api.OK {
		t.Errorf("Restore keeps what is handed in: error %d", e)
	}
}

// Rule 4: calls over unlike devices have nothing in common, at the same time too.
func TestManyGoroutines(t *testing.T) {
	var all sync.WaitGroup
	for i := range 8 {
		d := newTape(t, units[i%4], 1<<17)
		all.Go(func() {
			c := copyOf(heads[i%3], uint64(i), "")
			for range 5 {
				next, e := header.Commit(d, c, "text")
				if e != api.OK {
					t.Errorf("Commit: error %d", e)
				}
				c = next
				spoil(d.disk[:512:512])
				got, did, e := header.Load(d, always)
				if got.Second = false; got != c || !did || e != api.OK {
					t.Errorf("goroutine %d: %v, %v, error %d", i, got, did, e)
				}
			}
		})
	}
	all.Wait()
}
