package disks_test

import (
	"bytes"
	"math"
	"testing"

	"drydock/api"
	"drydock/disks"
)

// plain is a disk as the document words it: what was durable at the last Sync, and all that happened since, in order. What is seen and what is left is worked out anew whenever it is asked for.
type plain struct {
	base   []plainSector
	events []event
}

type plainSector struct {
	b   [api.Sector]byte
	bad bool
}

type event struct {
	kind byte
	n    int
	b    [api.Sector]byte // of a write
	at   int
	by   byte
}

const (
	evWrite = iota
	evRot
	evBad
	evSync
	evFail
	evKinds
)

// seen goes through what happened to a sector.
func (p *plain) seen(n int) plainSector {
	s := p.base[n]
	for _, ev := range p.events {
		if ev.n != n {
			continue
		}
		switch ev.kind {
		case evWrite:
			s = plainSector{b: ev.b}
		case evRot:
			s.b[ev.at] ^= ev.by
		case evBad:
			s.bad = true
		}
	}
	return s
}

// rotted is b with all the bytes turned that were turned in that sector since an event.
func (p *plain) rotted(n, since int, b [api.Sector]byte) [api.Sector]byte {
	for _, ev := range p.events[since:] {
		if ev.kind == evRot && ev.n == n {
			b[ev.at] ^= ev.by
		}
	}
	return b
}

// lastBad is the number of the event that made the sector bad last, or -1.
func (p *plain) lastBad(n int) int {
	last := -1
	for i, ev := range p.events {
		if ev.kind == evBad && ev.n == n {
			last = i
		}
	}
	return last
}

// left is what is left of a sector.
func (p *plain) left(keep uint64, torn, n int) plainSector {
	lastBad := p.lastBad(n)
	s := plainSector{b: p.rotted(n, 0, p.base[n].b), bad: p.base[n].bad || lastBad >= 0}
	index := -1
	for i, ev := range p.events {
		if ev.kind != evWrite {
			continue
		}
		index++
		if ev.n != n {
			continue
		}
		b := p.rotted(n, i, ev.b)
		if index == torn {
			for at := range half {
				s.b[at] = b[at]
			}
		} else if keep&(1<<(index%64)) != 0 {
			s.b = b
			s.bad = s.bad && i < lastBad
		}
	}
	return s
}

func (p *plain) waits() int {
	many := 0
	for _, ev := range p.events {
		if ev.kind == evWrite {
			many++
		}
	}
	return many
}

// settle begins anew with these sectors, all durable.
func (p *plain) settle(sector func(n int) plainSector) {
	base := make([]plainSector, len(p.base))
	for n := range base {
		base[n] = sector(n)
	}
	p.base, p.events = base, nil
}

// actBytes is how many bytes an act takes.
const actBytes = 5

// actAll does what the bytes say, with the disk, and with the plain one if there is one. It answers the disk that is there then: failing makes another one.
func actAll(d *disks.Disk, p *plain, b []byte) *disks.Disk {
	for ; len(b) >= actBytes; b = b[actBytes:] {
		d = act(d, p, [actBytes]byte(b))
	}
	return d
}

// act prefers writes, so that many are pending.
func act(d *disks.Disk, p *plain, c [actBytes]byte) *disks.Disk {
	ev := event{kind: evWrite, n: int(c[1]) % d.Len(), at: int(c[2]) % api.Sector, by: c[3]}
	if c[0] < 16*evKinds {
		ev.kind = c[0] % evKinds
	}
	switch ev.kind {
	case evWrite:
		size := int(c[2]) % (api.Sector + 1)
		for at := range size {
			ev.b[at] = c[3] + byte(at)*c[4]
		}
		d.Write(ev.n, ev.b[:size])
	case evRot:
		d.Rot(ev.n, ev.at, ev.by)
	case evBad:
		d.Bad(ev.n)
	case evSync:
		d.Sync()
	case evFail:
		keep, torn := failOf(c)
		if p != nil {
			p.settle(func(n int) plainSector { return p.left(keep, torn, n) })
		}
		d, _ = d.Fail(keep, torn)
		return d
	}
	if p != nil {
		p.events = append(p.events, ev)
		if ev.kind == evSync {
			p.settle(p.seen)
		}
	}
	return d
}

// failOf makes the bits and the index of a failure out of an act's bytes.
func failOf(c [actBytes]byte) (keep uint64, torn int) {
	keep = (uint64(c[1]) + uint64(c[2])<<8 + 1) * 0x9e3779b97f4a7c15
	switch c[3] % 4 {
	case 0:
		keep = 0
	case 1:
		keep = math.MaxUint64
	}
	return keep, int(c[4]) - 20
}

// expectPlain holds a disk against the plain one, sector by sector.
func expectPlain(t *testing.T, what string, d *disks.Disk, sector func(n int) plainSector) {
	t.Helper()
	for n := range d.Len() {
		want := sector(n)
		b, e := d.Read(n)
		if want.bad && (e != api.ErrRead || b != nil) || !want.bad && (e != api.OK || !bytes.Equal(b, want.b[:])) {
			t.Fatalf("%s: sector %d is %v, %d; want %v, bad %v", what, n, b, e, want.b, want.bad)
		}
	}
}

// expectAsWorded does what the bytes say, and looks at everything after each act.
func expectAsWorded(t *testing.T, sectors int, b []byte) {
	t.Helper()
	d := newDisk(t, sectors)
	p := &plain{base: make([]plainSector, sectors)}
	for ; len(b) >= actBytes; b = b[actBytes:] {
		c := [actBytes]byte(b)
		d = act(d, p, c)
		if d.Waits() != p.waits() || d.Len() != sectors {
			t.Fatalf("Waits %d, want %d; Len %d, want %d", d.Waits(), p.waits(), d.Len(), sectors)
		}
		expectPlain(t, "seen", d, p.seen)
		for _, torn := range []int{-1, 0, int(c[3]), d.Waits() - 1} {
			keep, _ := failOf(c)
			x := left(t, d, keep, torn)
			expectPlain(t, "left", x, func(n int) plainSector { return p.left(keep, torn, n) })
		}
	}
}

// byteRun is n bytes without an order to be seen; another seed gives others.
func byteRun(n int, seed uint32) []byte {
	b := make([]byte, n)
	for i := range b {
		seed = seed*1664525 + 1013904223
		b[i] = byte(seed >> 24)
	}
	return b
}

// TestAsTheDocumentWordsIt: P3.2 to P3.6, over acts without an order to be seen.
func TestAsTheDocumentWordsIt(t *testing.T) {
	for seed := range uint32(300) {
		expectAsWorded(t, 1+int(seed%4), byteRun(40*actBytes, seed))
	}
}

// TestAsTheDocumentWordsItWithManyPending: without Sync and failing, so that the bits of keep are used again.
func TestAsTheDocumentWordsItWithManyPending(t *testing.T) {
	for seed := range uint32(4) {
		b := byteRun(150*actBytes, seed)
		for i := 0; i < len(b); i += actBytes {
			if b[i] < 16*evKinds && b[i]%evKinds >= evSync {
				b[i] = 255
			}
		}
		expectAsWorded(t, 1+int(seed), b)
	}
}

// FuzzActs: R1, and P3.2 to P3.6 for any acts.
func FuzzActs(f *testing.F) {
	f.Add(byte(0), []byte(nil))
	f.Add(byte(1), byteRun(20*actBytes, 1))
	f.Add(byte(2), []byte{255, 0, 64, 'a', 0, evBad, 0, 0, 0, 0, 255, 0, 64, 'b', 0, evFail, 0, 0, 1, 21})
	f.Fuzz(func(t *testing.T, sectors byte, b []byte) {
		expectAsWorded(t, 1+int(sectors%4), b[:min(len(b), 200*actBytes)])
	})
}
