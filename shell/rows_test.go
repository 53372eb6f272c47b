package shell_test

import (
	"fmt"
	"regexp"
	"slices"
	"strings"
	"testing"

	"coffer/shell"
)

// plays plays lines, each with its answer behind a bar, the answer's lines parted by slashes; ... stands for anything. The second shell must answer the same.
func plays(t *testing.T, script string) {
	t.Helper()
	s, p := shell.New(), newPlain()
	for _, l := range strings.Split(strings.TrimSpace(script), "\n") {
		line, want, _ := strings.Cut(l, " | ")
		line, want = strings.TrimSpace(line), strings.TrimSpace(want)
		answer := s.Line(line)
		same(t, line, answer, p.line(line))
		form := "^" + strings.ReplaceAll(regexp.QuoteMeta(want), `\.\.\.`, ".*") + "$"
		if got := strings.Join(answer, "/"); !regexp.MustCompile(form).MatchString(got) {
			t.Errorf("%s\n answers %s\n  wanted %s", line, got, want)
		}
	}
}

const formatted = "slab d count=200 | ok\nspring s entropy=" + entropy + " | ok\nformat d spring=s pass=a keys=16384 digest=1 turns=1 stripes=2 | ok\n"

const opened = formatted + "open v on=d pass=a | ok slot 0\n"

func TestSlabs(t *testing.T) {
	t.Parallel()
	plays(t, `slab d count=9 | ok
ops d | ok ops 0 reads 0 writes 0 flushes 0 fetched 0 stored 0 lit yes
slab e count=9 unit=4096 | ok
poke e at=1 fill=255 sectors=2 | ok
poke e at=3 text=x | ok
poke e at=4 hex=00fF00fF00fF00fF00fF00fF00fF00fFaa | ok
peek e at=0 sectors=5 | ok/  0 fill 00/  1 fill ff/  2 fill ff/  3 78000000000000000000000000000000 .../  4 00ff00ff00ff00ff00ff00ff00ff00ff 3f00493f6835cc70
peek e at=3 | ok/  3 78000000000000000000000000000000 71e5143d1d4bc35a
used e | ok 4 1 2 3 4
used d | ok 0
poke e at=8 fill=7 sectors=2 | error 50
peek e at=8 | ok/  8 fill 07
poke e at=0 hex= | ok
poke e at=1 text="" | ok
used e | ok 4 2 3 4 8
peek e at=8 sectors=2 | error 50
peek e at=18446744073709551615 sectors=2 | error 50
copy e as=f | ok
poke e at=2 fill=0 | ok
used e | ok 3 3 4 8
used f | ok 4 2 3 4 8
off f | ok
off f | ok
sync f | error 52
ops f | ok ops 0 reads 0 writes 0 flushes 0 fetched 0 stored 0 lit no
ops e | ok ops 0 reads 0 writes 0 flushes 0 fetched 0 stored 0 lit yes
restart f | ok
sync f | ok
ops f | ok ops 1 reads 0 writes 0 flushes 1 fetched 0 stored 0 lit yes
slab g count=9 plan=1:flush,2:off,2:turn:9:4 | ok
sync g | error 51
sync g | error 52
peek g at=4 | ok/  4 00020000000000000000000000000000 ...
slab h count=9 plan=1:turn:4096:0 | error 53
ops h | error 163 h
slab h count=9 unit=8192 | error 2
slab h count=0 | error 2`)
}

// What is left out of a glitch is 0.
func TestGlitchParts(t *testing.T) {
	t.Parallel()
	plays(t, `slab a count=9 plan=1:turn | ok
sync a | ok
used a | ok 1 0
peek a at=0 | ok/  0 01000000000000000000000000000000 ...
slab b count=9 plan=1:turn:9 | ok
sync b | ok
peek b at=0 | ok/  0 00020000000000000000000000000000 ...
slab c count=9 plan=1:turn:15:8,1:turn:15:7 | ok
sync c | ok
used c | ok 2 7 8
peek c at=8 | ok/  8 00800000000000000000000000000000 ...`)
}

// Each kind of glitch is met at its operation.
func TestGlitchKinds(t *testing.T) {
	t.Parallel()
	seen := map[string]bool{}
	for _, kind := range []string{"read", "write", "part", "flush", "off", "turn"} {
		for op := 1; op <= 14; op++ {
			for _, n := range []string{"", ":0", ":1", ":3:2"} {
				script := fmt.Sprintf("slab d count=200 plan=%d:%s%s\nspring s entropy=%s\nformat d spring=s pass=a keys=16384 digest=1 turns=1 stripes=2\nops d\npending d\nused d\ndump d\nrestart d\nopen v on=d pass=a\nops d", op, kind, n, entropy)
				got := shell.New().Do(script)
				same(t, fmt.Sprint(op, kind, n), got, newPlain().do(script))
				seen[kind] = seen[kind] || kind == "turn" || strings.Contains(strings.Join(got, "\n"), ": error 5")
			}
		}
		expect(t, kind+" was met", seen[kind], true)
	}
}

// What is pending is told, and what a restart keeps of it.
func TestPending(t *testing.T) {
	t.Parallel()
	first := ""
	for n := range 64 {
		first += fmt.Sprintf(" %d", 96+n)
	}
	plays(t, opened+`pending d | ok 0
write v at=0 fill=1 sectors=65 | ok
pending d | ok 65`+first+`
write v at=70 fill=3 | ok
pending d | ok 66`+first+`
peek d at=96 medium=yes | ok/  96 fill 00
peek d at=96 medium=no | ok/  96 ...
copy d as=e | ok
copy d as=f | ok
close v | ok
restart e keep=01 | ok
open v on=e pass=a | ok slot 0
read v at=1 | ok/  1 fill 01
peek e at=96 | ok/  96 fill 00
peek e at=98 | ok/  98 fill 00
peek e at=166 | ok/  166 fill 00
sync f | ok
pending f | ok 0
peek f at=166 medium=yes | ok/  166 ...
open w on=f pass=a | ok slot 0
read w at=69 sectors=2 | ok/  69 .../  70 fill 03`)
	first = strings.Replace(first, " 96", "", 1) + " 160"
	plays(t, `slab d count=300 | ok
poke d at=97 fill=9 sectors=64 | ok
used d | ok 64`+first+`
poke d at=161 fill=9 | ok
used d | ok 65`+first)
}

func TestSprings(t *testing.T) {
	t.Parallel()
	plays(t, `spring s entropy=`+entropy+` | ok
left s | ok 16777216
spring r entropy=`+entropy+` hash=512 limit=3 nonce=0102 personal="a b" | ok
left r | ok 3
spring q entropy=0001 | error 60
left q | error 163 q
spring q entropy=`+entropy+` hash=1 | error 10
spring q entropy=`+entropy+` limit=0 | error 2
spring r entropy=`+entropy+` | error 164 r
feed r entropy= | error 60
slab d count=200 | ok
format d spring=r pass=a keys=16384 digest=1 turns=1 stripes=2 | error 61
left r | ok 0
feed r entropy=`+entropy+` | ok
left r | ok 3
format d spring=r pass=a | error 2
left r | ok 3`)
}

// What a spring was made of is to be seen in what is drawn.
func TestSpringParts(t *testing.T) {
	t.Parallel()
	said := map[string]string{}
	for _, made := range []string{"entropy=" + entropy, "entropy=" + entropy + " nonce=01", "entropy=" + entropy + " personal=x", "entropy=" + entropy + " hash=512", "entropy=" + entropy + "10"} {
		s := shell.New()
		s.Do("slab d count=200\nspring s " + made + "\nformat d spring=s pass=a keys=16384 digest=1 turns=1 stripes=2\nopen v on=d pass=a")
		master := s.Line("master v")[0]
		if other, is := said[master]; is || len(master) != 67 {
			t.Errorf("%s and %s: %s", made, other, master)
		}
		said[master] = made
	}
}

func TestFormat(t *testing.T) {
	t.Parallel()
	plays(t, formatted+`slab e count=600 | ok
format e spring=s pass=b | ok
dump e | ok 14/.../  shape 512 600 16384 131072/  digest turns 1000/  slot 0 priority 1 hash 256 turns 1000 cipher "aes256-xts-plain64" stripes 4 at 32768 size 4096/...
format e spring=s pass=b head=32768 keys=65536 cipher=aes128-cbc-plain64 label="a \"b\"" subsystem=c uuid=d digest=2 prio=2 hash=512 turns=3 slotcipher=aes128-xts-plain64 stripes=5 | ok
dump e | ok 14/.../  name "a \x22b\x22" "c" "d"/  shape 512 600 32768 65536/  digest turns 2/  slot 0 priority 2 hash 512 turns 3 cipher "aes128-xts-plain64" stripes 5 at 65536 size 4096/  asked 0/  epoch 0 cipher "aes128-cbc-plain64"/...
format e spring=s pass=b head=5 | error 2
format e spring=s pass=b stripes=600 turns=1 keys=4096 | error 104
format e spring=q pass=b | error 163 q
format q spring=q pass=b | error 163 q
dump d | ok 14/  device 512 200/  first good .../  dirty 0
slab f count=80 | ok
dump f | ok 4/  device 512 80/  first error 81/  second error 80/  takes none
off f | ok
dump f | error 52`)
}

func TestOpen(t *testing.T) {
	t.Parallel()
	plays(t, formatted+`open v on=d pass=b | error 101
status v | error 163 v
open v on=d pass=a slot=1 | error 100
open v on=d pass=a workers=0 | error 2
open v on=d pass=a workers=17 | error 2
open v on=d pass=a slot=0 workers=16 | ok slot 0
open v on=d pass=a | error 164 v
open w on=d pass=a | error 164 v
slab e count=200 | ok
open w on=e pass=a | error 80
open v on=e pass=a | error 164 v
format d spring=s pass=a | error 164 v
add v spring=s pass=b slot=5 turns=1 stripes=2 | ok slot 5
status v | ok opened slot 0 unit 512 count 104 cipher aes256-xts-plain64 epoch 0 slots 0,5 rotation off
suspend v | ok
status v | ok suspended slot 0 unit 512 count 104 cipher aes256-xts-plain64 epoch 0 slots 0,5 rotation off
suspend v | error 140
open w on=d pass=a | error 164 v
resume v pass=c | error 101
resume v pass=b slot=0 | error 101
resume v pass=b | ok slot 5
resume v pass=b | error 3
status v | ok opened slot 5 unit 512 count 104 cipher aes256-xts-plain64 epoch 0 slots 0,5 rotation off
close v | ok
close v | error 144
status v | ok closed
tokens v | ok 0
step v | error 144 behind 0
read v at=0 | error 144
write v at=0 text=x | error 144
write v at=0 fill=1 sectors=4096 | error 144
share v spring=s need=1 of=1 | error 144
open w on=d pass=b | ok slot 5
open v on=d pass=a | error 164 w
copy d as=c | ok
open v on=c pass=c | error 101
status v | ok closed
open v on=c pass=a slot=0 | ok slot 0
status v | ok opened slot 0 ...
status w | ok opened slot 5 ...`)
}

// A volume is closed, whatever its Flush answers.
func TestCloseFails(t *testing.T) {
	t.Parallel()
	plays(t, opened+`off d | ok
close v | error 52
status v | ok closed
restart d | ok
open w on=d pass=a | ok slot 0`)
}

func TestReadWrite(t *testing.T) {
	t.Parallel()
	plays(t, opened+`write v at=3 text=hello | ok
read v at=3 | ok/  3 68656c6c6f0000000000000000000000 deb57b2df9b50036
write v at=7 hex=FF | ok
read v at=7 | ok/  7 ff000000000000000000000000000000 ...
write v at=0 fill=0 sectors=104 | ok
read v at=0 sectors=2 | ok/  0 fill 00/  1 fill 00
write v at=0 fill=0 sectors=105 | error 142
write v at=104 text="" | error 142
write v at=103 text="" | ok
read v at=103 sectors=2 | error 142
read v at=18446744073709551615 | error 142
flush v | ok
off d | ok
flush v | error 52
read v at=0 | error 52
write v at=0 fill=0 | error 52
suspend v | error 52
status v | ok opened ...
slab e count=60 unit=4096 | ok
format e spring=s pass=a keys=16384 digest=1 turns=1 stripes=2 | ok
open w on=e pass=a | ok slot 0
status w | ok opened slot 0 unit 4096 count 48 ...
write w at=0 hex=`+strings.Repeat("ab", 700)+` | ok
read w at=0 sectors=2 | ok/  0 abababababababababababababababab .../  1 ...
write w at=0 text=`+strings.Repeat("x", 3900)+` | ok
write w at=5 fill=9 sectors=43 | ok
read w at=47 | ok/  47 fill 09
write w at=5 fill=9 sectors=44 | error 142`)
}

// Bytes are laid over whole sectors: as many as they need, and zeros behind them.
func TestWholeSectors(t *testing.T) {
	t.Parallel()
	for n, sectors := range map[int]int{0: 1, 1: 1, 511: 1, 512: 1, 513: 2, 1024: 2, 1025: 3} {
		s := shell.New()
		s.Do("slab d count=9\npoke d at=1 fill=7 sectors=8\npoke d at=2 hex=" + strings.Repeat("05", n))
		got := s.Line("peek d at=1 sectors=5")
		full := 0
		for i, l := range got[2:] {
			switch {
			case i < n/512:
				expect(t, l, l, fmt.Sprintf("  %d fill 05", i+2))
			case i >= sectors:
				expect(t, l, l, fmt.Sprintf("  %d fill 07", i+2))
			case n == 0:
				expect(t, l, l, "  2 fill 00")
			default:
				full++
			}
		}
		expect(t, "a part of a sector", full > 0, n%512 > 0)
		expect(t, "ahead", got[1], "  1 fill 07")
	}
}

func TestKeyslots(t *testing.T) {
	t.Parallel()
	plays(t, opened+`add v spring=s pass=b turns=1 stripes=2 | ok slot 1
add v spring=s pass=c slot=1 turns=1 stripes=2 | error 8
add v spring=s pass=c slot=31 prio=2 hash=512 turns=7 slotcipher=aes128-cbc-plain64 stripes=3 | ok slot 31
dump d | .../  slot 31 priority 2 hash 512 turns 7 cipher "aes128-cbc-plain64" stripes 3 at ...
add v spring=s pass=c prio=3 | error 2
add v spring=s pass=c | ok slot 2
add v spring=s pass=c turns=1 | error 104
change v spring=s pass=d slot=31 | error 104
kill v slot=2 | ok
change v spring=s pass=d slot=31 | ok
dump d | .../  slot 31 priority 1 hash 256 turns 1000 cipher "aes256-xts-plain64" stripes 4 at ...
change v spring=s pass=e slot=0 prio=0 hash=512 turns=2 slotcipher=aes128-xts-plain64 stripes=1 | ok
dump d | .../  slot 0 priority 0 hash 512 turns 2 cipher "aes128-xts-plain64" stripes 1 at ...
change v spring=s pass=d slot=7 | error 100
change v spring=s pass=d slot=-1 | error 2
prefer v slot=1 prio=2 | ok
prefer v slot=1 prio=3 | error 2
prefer v slot=9 prio=1 | error 100
close v | ok
open v on=d pass=a | error 101
open v on=d pass=e | error 101
open v on=d pass=e slot=0 | ok slot 0
close v | ok
open v on=d pass=d | ok slot 31
close v | ok
open v on=d pass=b | ok slot 1
kill v slot=0 | ok
kill v slot=0 | error 100
kill v slot=31 | ok
kill v slot=1 | error 103
status v | ok opened slot 1 unit 512 count 104 cipher aes256-xts-plain64 epoch 0 slots 1 rotation off`)
}

func TestTokens(t *testing.T) {
	t.Parallel()
	plays(t, opened+`tokens v | ok 0
note v number=3 kind="a k" slots=0 note="x\"y\xc3\xa4" | ok
note v number=1 kind=b | ok
tokens v | ok 2/  1 "b" - ""/  3 "a k" 0 "x\"y\xc3\xa4"
add v spring=s pass=b turns=1 stripes=2 | ok slot 1
note v number=0 kind="\\" slots=0,1 note="`+"\t"+`" | ok
tokens v | ok 3/  0 "\\" 0,1 "\x09"/  1 "b" - ""/  3 "a k" 0 "x\"y\xc3\xa4"
unnote v number=1 | ok
unnote v number=1 | error 7
tokens v | ok 2/...
note v number=1 kind= | error 2
note v number=1 kind=c slots=9 | error 100
note v number=-1 kind=c | error 2
suspend v | ok
tokens v | ok 2/...
note v number=1 kind=c | error 140`)
}

func TestMaster(t *testing.T) {
	t.Parallel()
	s := shell.New()
	s.Do("slab d count=200\nspring s entropy=" + entropy + "\nformat d spring=s pass=a keys=16384 digest=1 turns=1 stripes=2\nopen v on=d pass=a\nwrite v at=0 fill=3")
	master := strings.TrimPrefix(s.Line("master v")[0], "ok ")
	shares := s.Line("share v spring=s need=2 of=3")
	if len(master) != 64 || len(shares) != 4 || shares[0] != "ok 3" {
		t.Fatalf("%q %q", master, shares)
	}
	for i, l := range shares[1:] {
		if !strings.HasPrefix(l, "  ") || strings.Count(l, " ") != 2+22 {
			t.Errorf("share %d: %q", i, l)
		}
		shares[i] = l[2:]
	}
	for _, c := range []struct{ line, want string }{
		{"share v spring=s need=0 of=3", "error 110"},
		{"share v spring=s need=2 of=256", "error 110"},
		{"share v spring=s need=1 of=255", "ok 255"},
		{"reopen v on=d master=" + master, "error 164 v"},
		{"suspend v", "ok"},
		{"share v spring=s need=0 of=3", "error 140"},
		{"master v", "error 140"},
		{"close v", "ok"},
		{"master v", "error 144"},
		{"reopen w on=d master=00", "error 106"},
		{"reopen w on=d master=" + strings.Repeat("00", 32), "error 106"},
		{"status w", "error 163 w"},
		{"reopen v on=d workers=0 master=" + master, "error 2"},
		{"reopen v on=d master=" + strings.ToUpper(master), "ok"},
		{"status v", "ok opened slot -1 unit 512 count 104 cipher aes256-xts-plain64 epoch 0 slots 0 rotation off"},
		{"read v at=0", "ok"},
		{"rejoin v on=d shares=x", "error 164 v"},
		{"close v", "ok"},
		{"rejoin v on=d shares=" + shell.Quote(shares[0]), "error 114"},
		{"rejoin v on=d shares=" + shell.Quote(shares[0]+"\n"+shares[0]), "error 114"},
		{"rejoin v on=d shares=" + shell.Quote(shares[0]+"\n"+shares[1]+"\n"), "error 113"},
		{"rejoin v on=d shares=" + shell.Quote("\n"+shares[0]+"\n"+shares[1]), "error 113"},
		{"rejoin v on=d shares=\"\"", "error 113"},
		{"rejoin v on=d shares=x", "error 112"},
		{"rejoin v on=d workers=17 shares=x", "error 112"},
		{"rejoin v on=d workers=17 shares=" + shell.Quote(shares[0]+"\n"+shares[2]), "error 2"},
		{"status v", "ok closed"},
		{"rejoin v on=d shares=" + shell.Quote(strings.ReplaceAll(shares[2], " ", "-")+"\n"+shares[0]+"\n"+shares[1]), "ok"},
		{"status v", "ok opened slot -1 unit 512 count 104 cipher aes256-xts-plain64 epoch 0 slots 0 rotation off"},
		{"master v", "ok " + master},
	} {
		if got := s.Line(c.line); len(got) == 0 || got[0] != c.want {
			t.Errorf("%s: %q, want %s", c.line, got, c.want)
		}
	}
}

func TestRotation(t *testing.T) {
	t.Parallel()
	plays(t, opened+`write v at=0 fill=9 sectors=104 | ok
step v | error 131 behind 0
rotate v spring=s cipher=nosuch mode=journal hot=8 | error 2
rotate v spring=s cipher=null mode=journal hot=0 | error 141
rotate v spring=s cipher=null mode=journal hot=18446744073709551615 | error 141
rotate v spring=s cipher=null mode=journal hot=50 | error 104
rotate v spring=s cipher=aes128-xts-plain64 mode=digests back=yes hot=50 | ok
status v | ok opened slot 0 unit 512 count 104 cipher aes128-xts-plain64 epoch 1 slots 0 rotation from 0 to 1 mode digests hot 50 done 0 back
rotate v spring=s cipher=null mode=journal hot=8 | error 143
step v | ok more 1
status v | ok opened slot 0 unit 512 count 104 cipher aes128-xts-plain64 epoch 1 slots 0 rotation from 0 to 1 mode digests hot 50 done 50 back
step v times=2 | ok more 2
step v times=1 | ok over 1
rotate v spring=s cipher=null mode=journal back=no hot=8 | ok
status v | ok opened slot 0 unit 512 count 104 cipher null epoch 2 slots 0 rotation from 1 to 2 mode journal hot 8 done 0
step v times=13 | ok more 13
status v | ok opened slot 0 unit 512 count 104 cipher null epoch 2 slots 0 rotation from 1 to 2 mode journal hot 8 done 104
step v times=4096 | ok over 1
status v | ok opened slot 0 unit 512 count 104 cipher null epoch 2 slots 0 rotation off
peek d at=199 | ok/  199 fill 09
rotate v spring=s cipher=aes256-xts-plain64 mode=digests hot=3 | ok
step v times=4096 | ok over 36
read v at=0 | ok/  0 fill 09`)
}

// The power goes at any operation of a rotation: the answers are those of the second shell, and how many steps there were is told.
func TestCrashes(t *testing.T) {
	t.Parallel()
	seen := map[string]bool{}
	for op := 15; op < 110; op++ {
		script := fmt.Sprintf("slab d count=200 plan=%d:off:2\nspring s entropy=%s\nformat d spring=s pass=a keys=16384 digest=1 turns=1 stripes=2\nopen v on=d pass=a\nwrite v at=0 fill=5 sectors=104\nflush v\nrotate v spring=s cipher=aes128-cbc-plain64 mode=%s back=yes hot=40\nstep v times=9\nstatus v\nclose v\nrestart d keep=%s\ndump d\nopen v on=d pass=a\nstatus v\nstep v times=9\nread v at=0 sectors=64\nread v at=64 sectors=40\n", op, entropy, []string{"journal", "digests"}[op%2], strings.Repeat("0110", op%3*20))
		got := shell.New().Do(script)
		same(t, fmt.Sprintf("power goes at %d", op), got, newPlain().do(script))
		for _, l := range got {
			for _, what := range []string{"behind 1", "behind 2", "stuck", " back active"} {
				seen[what] = seen[what] || strings.HasSuffix(l, what) || what == "stuck" && strings.Contains(l, "ok stuck slot 0 ")
			}
		}
	}
	for _, what := range []string{"behind 1", "behind 2", "stuck", " back active"} {
		expect(t, "seen: "+what, seen[what], true)
	}
}

func TestBackups(t *testing.T) {
	t.Parallel()
	plays(t, opened+`backup d as=b size=49152 | ok 49196
backup d as=c size=4096 | ok 4140
backup d as=c size=4096 | error 164 c
backup d as=x size=0 | error 2
backup d as=x size=4095 | error 2
backup d as=x size=102400 | ok 102444
backup d as=y size=106496 | error 5
restore d from=y head=16384 | error 163 y
restore d from=b head=16384 | error 164 v
add v spring=s pass=b turns=1 stripes=2 | ok slot 1
close v | ok
restore d from=b head=5 | error 83
restore d from=c head=16384 | error 87
restore d from=b head=16384 | ok
open v on=d pass=b | error 101
open v on=d pass=a | ok slot 0
slab e count=200 | ok
restore e from=b head=16384 | ok
open w on=e pass=a | ok slot 0
slab f count=8 | ok
restore f from=b head=16384 | error 5
backup f as=y size=4096 | ok 4140`)
}

// Of each kind there are as many things as may be, and no more.
func TestCrowds(t *testing.T) {
	t.Parallel()
	s := shell.New()
	line := func(want, form string, of ...any) {
		t.Helper()
		if got := s.Line(fmt.Sprintf(form, of...)); len(got) != 1 || got[0] != want {
			t.Errorf(form+": %q, want %q", append(of, got, want)...)
		}
	}
	line("ok", "slab d count=200")
	line("ok", "spring s entropy=%s", entropy)
	line("ok", "format d spring=s pass=a keys=16384 digest=1 turns=1 stripes=2")
	for n := range 7 {
		line("ok", "copy d as=d%d", n)
		line("ok", "spring s%d entropy=%s", n, entropy)
	}
	line("error 165", "copy d as=e")
	line("error 165", "slab e count=0")
	line("error 164 d", "slab d count=0")
	line("error 164 d0", "copy d as=d0")
	line("error 165", "spring e entropy=")
	line("error 164 s0", "spring s0 entropy=")
	for n := range 8 {
		line("ok 4140", "backup d as=b%d size=4096", n)
		line("ok slot 0", "open v%d on=%s pass=a", n, []string{"d", "d0", "d1", "d2", "d3", "d4", "d5", "d6"}[n])
	}
	line("error 165", "backup d as=e size=0")
	line("error 164 b7", "backup d as=b7 size=0")
	line("error 164 v0", "open w on=d pass=a")
	line("ok", "close v0")
	line("error 165", "open w on=d pass=wrong")
	line("error 101", "open v0 on=d pass=wrong")
	line("error 164 v1", "open v1 on=d pass=wrong")
	line("error 164 v1", "open v0 on=d0 pass=wrong")
	line("ok slot 0", "open v0 on=d pass=a")
	line("ok", "close v0")
	line("ok", "close v3")
	line("error 164 v1", "reopen w on=d0 master=00")
	line("error 165", "reopen w on=d2 master=00")
	line("error 165", "rejoin w on=d2 shares=x")
	line("error 112", "rejoin v3 on=d2 shares=x")
	line("error 106", "reopen v3 on=d2 master=00")
	line("ok closed", "status v3")
	line("ok slot 0", "open v3 on=d2 pass=a")
	line("ok 0", "tokens v3")
}

// The things of each kind have names of their own.
func TestOwnNames(t *testing.T) {
	t.Parallel()
	plays(t, `slab a count=200 | ok
spring a entropy=`+entropy+` | ok
format a spring=a pass=a keys=16384 digest=1 turns=1 stripes=2 | ok
backup a as=a size=4096 | ok 4140
open a on=a pass=a | ok slot 0
close a | ok
left b | error 163 b
used b | error 163 b
read b at=0 | error 163 b
restore a from=b head=16384 | error 163 b
slab b count=1 | ok
left b | error 163 b
read b at=0 | error 163 b
restore a from=b head=16384 | error 163 b
feed b entropy= | error 163 b
format a spring=b pass=a | error 163 b`)
}

// Every command answers as the second shell does where there is nothing, and where all is there.
func TestBareCommands(t *testing.T) {
	t.Parallel()
	for _, c := range commands() {
		bare := c.name + " v"
		for _, e := range c.entries {
			if e.must {
				bare += " " + e.key + "=" + map[string]string{"whole": "1", "bytes": "00", "text": "x", "word": "w", "mode": "journal"}[e.kind]
				if strings.HasPrefix(e.kind, "number") {
					bare += "1"
				}
			}
		}
		if c.writes {
			bare += " fill=1"
		}
		got := shell.New().Line(bare)
		same(t, bare, got, newPlain().line(bare))
		if len(got) != 1 || strings.HasPrefix(got[0], "error 161") || strings.HasPrefix(got[0], "error 162") {
			t.Errorf("%s: %q", bare, got)
		}
		for i, e := range c.entries {
			if e.must {
				fields := strings.Fields(bare)
				less := slices.DeleteFunc(fields, func(f string) bool { return strings.HasPrefix(f, e.key+"=") })
				same(t, fmt.Sprint(c.name, i), shell.New().Line(strings.Join(less, " ")), []string{"error 162 " + e.key})
			}
		}
	}
}
