package header

import (
	"bytes"

	"coffer/api"
	"coffer/digest"
)

// A backup begins with a mark, the number of the device's bytes in it, and their digest.
const (
	backupMark = "COFB"
	backupHead = len(backupMark) + 8 + 32
)

// headOf gives what a backup of these bytes begins with. There are never too many of them for the digest.
func headOf(content []byte) []byte {
	sum, _ := digest.Sum(api.Hash256, content)
	return append([]byte(backupMark+spell(uint64(len(content)), 8)), sum...)
}

// refusedSize tells why so many bytes are not backed up.
func refusedSize(size int) api.Errno {
	switch {
	case size < 1 || size%api.AreaStep != 0:
		return api.ErrArg
	case size > api.MaxBackup:
		return api.ErrLong
	}
	return api.OK
}

// backup gives the device's first bytes, with what a backup begins with ahead of them.
func (m medium) backup(size int) []byte {
	b := make([]byte, backupHead+size)
	content := b[backupHead:]
	m.read(0, content)
	copy(b, headOf(content))
	return b
}

// contentOf gives the device's bytes that a backup holds; none, if it is no backup.
func contentOf(backup []byte) []byte {
	if len(backup) < backupHead {
		return nil
	}
	head, content := backup[:backupHead], backup[backupHead:]
	if refusedSize(len(content)) != api.OK || !bytes.Equal(head, headOf(content)) {
		return nil
	}
	return content
}

// restore writes the two copies last, and takes away first what could be found as a copy meanwhile: whatever interrupts it, no copy is found whose volume is not there whole.
func (m medium) restore(content []byte, head int) {
	m.blot(0)
	m.blot(head)
	m.flush()
	m.write(2*head, content[2*head:])
	m.flush()
	m.write(head, content[head:2*head])
	m.flush()
	m.write(0, content[:head])
	m.flush()
}
