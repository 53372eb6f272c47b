package shell_test

import (
	"strings"
	"testing"

	"coffer/shell"
)

// crowded is a shell in which every refusal can be met: v is open over d, and there are eight slabs, springs, volumes and backups.
func crowded(t *testing.T) *shell.Shell {
	t.Helper()
	s := shell.New()
	script := "slab d count=200\nspring s entropy=" + entropy + "\nformat d spring=s pass=a keys=16384 digest=1 turns=1 stripes=2\nopen c1 on=d pass=a\nclose c1\n"
	for _, n := range "234567" {
		script += "open c" + string(n) + " on=d pass=a\nclose c" + string(n) + "\n"
	}
	script += "open v on=d pass=a\n"
	for _, n := range "1234567" {
		script += "copy d as=e" + string(n) + "\nspring s" + string(n) + " entropy=" + entropy + "\nbackup d as=b" + string(n) + " size=4096\n"
	}
	for _, l := range s.Do(script + "backup d as=b size=4096") {
		if !strings.Contains(l, ": ok") {
			t.Fatal(l)
		}
	}
	return s
}

// The first of the refusals that holds is told.
func TestRefusals(t *testing.T) {
	t.Parallel()
	s := crowded(t)
	for _, c := range []struct{ line, want string }{
		// what is no line
		{"open nosuch=1 on=q pass=x \x01", "error 160 at 27"},
		{"nosuch v \"", "error 160 at 10"},
		{"open v on=q on=q pass", "error 160 at 22"},
		// no such command
		{"nosuch", "error 161"},
		{"nosuch v nosuch=1", "error 161"},
		{"nosuch on=1 on=1", "error 161"},
		{"opens v on=d pass=a", "error 161"},
		{"ope v on=d pass=a", "error 161"},
		// an option that the command has not, or that is there twice: the first in the line
		{"open nosuch=1", "error 162 nosuch"},
		{"open v x=1 on=d on=d", "error 162 x"},
		{"open v on=d on=d x=1", "error 162 on"},
		{"open v on=d y=1 x=1 on=d", "error 162 y"},
		{"open v workers=x workers=1", "error 162 workers"},
		{"open v workers=x z=1", "error 162 z"},
		{"off d keep=", "error 162 keep"},
		{"open v master=00", "error 162 master"},
		// one that must be there: the first in the row
		{"open", "error 162 on"},
		{"open v workers=x", "error 162 on"},
		{"open v pass=a", "error 162 on"},
		{"open v on=1", "error 162 pass"},
		{"reopen v on=1", "error 162 master"},
		{"rejoin v on=1", "error 162 shares"},
		{"prefer v", "error 162 slot"},
		{"prefer v slot=x", "error 162 prio"},
		{"rotate v hot=1 mode=x", "error 162 spring"},
		{"rotate v hot=1 mode=x spring=S", "error 162 cipher"},
		{"rotate v hot=1 spring=S cipher=a", "error 162 mode"},
		{"rotate v mode=x spring=S cipher=a", "error 162 hot"},
		// one whose value is of another kind: the first in the row
		{"open workers=x slot=y pass=a on=1", "error 162 on"},
		{"open workers=x slot=y pass=a on=q", "error 162 slot"},
		{"open workers=x pass=a on=q", "error 162 workers"},
		{"rotate hot=x back=x mode=x cipher=x spring=S", "error 162 spring"},
		{"rotate hot=x back=x mode=x cipher=x spring=q", "error 162 mode"},
		{"rotate hot=x back=x mode=journal cipher=x spring=q", "error 162 back"},
		{"rotate hot=x mode=journal cipher=x spring=q", "error 162 hot"},
		{"format spring=q pass=a head=x keys=x digest=x prio=x hash=x turns=x stripes=x", "error 162 head"},
		{"format spring=q pass=a stripes=x turns=x hash=x prio=x digest=x keys=x", "error 162 keys"},
		{"format spring=q pass=a stripes=x turns=x hash=x prio=x digest=x", "error 162 digest"},
		{"format spring=q pass=a stripes=x turns=x hash=x prio=x", "error 162 prio"},
		{"format spring=q pass=a stripes=x turns=x hash=x", "error 162 hash"},
		{"format spring=q pass=a stripes=x turns=x", "error 162 turns"},
		{"format spring=q pass=a stripes=x", "error 162 stripes"},
		// no name
		{"open on=q pass=a", "error 163"},
		{"slab count=0", "error 163"},
		{"copy as=e1", "error 163"},
		// nothing of that name: what it is about, then what the options name
		{"add q spring=r pass=a", "error 163 q"},
		{"add v spring=r pass=a", "error 163 r"},
		{"restore q from=r head=1", "error 163 q"},
		{"restore d from=r head=1", "error 163 r"},
		{"copy q as=e1", "error 163 q"},
		{"backup q as=b size=1", "error 163 q"},
		{"format q spring=r pass=a", "error 163 q"},
		{"format d spring=r pass=a", "error 163 r"},
		{"open v on=q pass=a", "error 163 q"},
		{"open x on=q pass=a", "error 163 q"},
		{"reopen v on=q master=00", "error 163 q"},
		{"rejoin v on=q shares=x", "error 163 q"},
		{"rotate v spring=q cipher=x mode=journal hot=0", "error 163 q"},
		{"share v spring=q need=0 of=0", "error 163 q"},
		{"change v spring=q pass=a slot=99", "error 163 q"},
		// something of that name, or a volume over the slab
		{"open v on=e1 pass=x", "error 164 v"},
		{"open v on=d pass=x", "error 164 v"},
		{"open c1 on=d pass=x", "error 164 v"},
		{"open x on=d pass=x", "error 164 v"},
		{"reopen x on=d master=00", "error 164 v"},
		{"rejoin x on=d shares=x", "error 164 v"},
		{"format d spring=s pass=a head=0", "error 164 v"},
		{"restore d from=b head=0", "error 164 v"},
		{"slab d count=0", "error 164 d"},
		{"copy d as=d", "error 164 d"},
		{"spring s entropy=", "error 164 s"},
		{"backup d as=b size=0", "error 164 b"},
		// too many
		{"slab x count=0", "error 165"},
		{"copy d as=x", "error 165"},
		{"spring x entropy=", "error 165"},
		{"open x on=e1 pass=x", "error 165"},
		{"reopen x on=e1 master=00", "error 165"},
		{"rejoin x on=e1 shares=x", "error 165"},
		{"backup d as=x size=0", "error 165"},
		// what the call answers
		{"open c1 on=e1 pass=x", "error 101"},
		{"reopen c1 on=e1 master=00", "error 106"},
		{"rejoin c1 on=e1 shares=x", "error 112"},
		{"format e1 spring=s pass=a head=0", "error 2"},
		{"restore e1 from=b head=0", "error 83"},
		{"status c1", "ok closed"},
	} {
		same(t, c.line, s.Line(c.line), []string{c.want})
	}
}

// What is written: fill stands for what must be there, sectors goes with fill alone.
func TestWritingRefused(t *testing.T) {
	t.Parallel()
	s := crowded(t)
	for _, about := range []string{"write v", "poke d", "write q", "write", "poke q"} {
		for _, c := range []struct{ options, want string }{
			{"", "at"},
			{"fill=x text=a", "at"},
			{"at=x", "fill"},
			{"at=x sectors=x", "fill"},
			{"at=0 fill=1 text=a", "fill"},
			{"at=0 hex=x fill=1", "fill"},
			{"at=0 hex=x text=1", "fill"},
			{"at=0 hex=x text=1 fill=x", "fill"},
			{"at=x hex=x", "at"},
			{"at=0 fill=x sectors=x", "fill"},
			{"at=0 hex=x sectors=1", "hex"},
			{"at=0 hex=00 sectors=1", "sectors"},
			{"at=0 hex=00 sectors=x", "sectors"},
			{"at=0 text=a sectors=1", "sectors"},
			{"at=0 text=a sectors=2", "sectors"},
			{"at=0 fill=0 sectors=0", "sectors"},
			{"at=0 fill=0 sectors=4097", "sectors"},
			{"at=0 text=a text=b", "text"},
			{"at=0 text=a sector=1", "sector"},
		} {
			line := about + " " + c.options
			same(t, line, s.Line(line), []string{"error 162 " + c.want})
		}
	}
	same(t, "write", s.Line("write at=0 text=a"), []string{"error 163"})
	same(t, "write q", s.Line("write q at=0 text=a"), []string{"error 163 q"})
}

// What is refused changes nothing.
func TestRefusedMakesNothing(t *testing.T) {
	t.Parallel()
	s := shell.New()
	for _, line := range []string{"slab d count=0", "slab d", "slab d count=9 plan=0:off", "spring d entropy=00", "nosuch d", "open d on=d pass=a", "slab d count=1 \x7f"} {
		if got := s.Line(line); len(got) != 1 || !strings.HasPrefix(got[0], "error ") {
			t.Errorf("%s: %q", line, got)
		}
	}
	for _, line := range []string{"used d", "left d", "status d"} {
		same(t, line, s.Line(line), []string{"error 163 d"})
	}
	s.Do("slab d count=9\nslab d count=1\nbackup d as=b size=3\nbackup d as=c size=8192\nslab e count=9\ncopy e as=d\ncopy e as=E\ncopy e as=f x=")
	same(t, "restore", s.Line("restore d from=b head=16384"), []string{"error 163 b"})
	same(t, "restore", s.Line("restore d from=c head=16384"), []string{"error 163 c"})
	same(t, "f", s.Line("used f"), []string{"error 163 f"})
	same(t, "peek", s.Line("peek d at=8"), []string{"ok", "  8 fill 00"})
}
