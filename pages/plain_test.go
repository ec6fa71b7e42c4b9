package pages_test

import (
	"bytes"
	"encoding/binary"
	"hash/crc32"
	"math"
	"slices"
	"testing"

	"drydock/api"
	"drydock/disks"
	"drydock/pages"
)

// plainBytes are those of a page as the document words them, with any length and any sum: neither nums nor sums makes them.
func plainBytes(num, epoch, length, sum uint32, rest []byte) []byte {
	b := binary.LittleEndian.AppendUint32(nil, num)
	b = binary.LittleEndian.AppendUint32(b, epoch)
	b = binary.LittleEndian.AppendUint32(b, length)
	b = binary.LittleEndian.AppendUint32(b, sum)
	b = append(b, rest...)
	return append(b, make([]byte, max(0, 256-len(b)))...)
}

// plainSum is the checksum of a page with that body.
func plainSum(num, epoch, length uint32, body []byte) uint32 {
	return crc32.ChecksumIEEE(append(plainBytes(num, epoch, length, 0, nil)[:12], body...))
}

// plainPut is a valid page.
func plainPut(num, epoch uint32, body []byte) []byte {
	length := uint32(len(body))
	return plainBytes(num, epoch, length, plainSum(num, epoch, length, body), body)
}

// plainGet is P14.1, error by error.
func plainGet(num uint32, b []byte) (epoch uint32, body []byte, e api.Errno) {
	if len(b) != 256 {
		return 0, nil, api.ErrForm
	}
	length := binary.LittleEndian.Uint32(b[8:])
	if length > 240 {
		return 0, nil, api.ErrForm
	}
	for at := 16 + int(length); at < 256; at++ {
		if b[at] != 0 {
			return 0, nil, api.ErrForm
		}
	}
	body = b[16 : 16+length]
	if binary.LittleEndian.Uint32(b[12:]) != crc32.ChecksumIEEE(slices.Concat(b[:12], body)) {
		return 0, nil, api.ErrSum
	}
	if binary.LittleEndian.Uint32(b) != num {
		return 0, nil, api.ErrForm
	}
	return binary.LittleEndian.Uint32(b[4:]), body, api.OK
}

// expectPut asks for the bytes of a page.
func expectPut(t *testing.T, num, epoch uint32, body []byte) {
	t.Helper()
	b, e := pages.Put(num, epoch, body)
	if want := plainPut(num, epoch, body); !bytes.Equal(b, want) || e != api.OK {
		t.Errorf("Put(%d, %d, %d bytes) = %x, %d; want %x", num, epoch, len(body), b, e, want)
	}
}

// expectPage asks for what Get or Read returned: an error comes alone.
func expectPage(t *testing.T, what string, epoch uint32, body []byte, e api.Errno, wantEpoch uint32, want []byte, wantE api.Errno) {
	t.Helper()
	if epoch != wantEpoch || !bytes.Equal(body, want) || e != wantE || e != api.OK && body != nil {
		t.Errorf("%s: epoch %d, %d bytes %q, error %d; want %d, %d bytes %q, %d", what, epoch, len(body), body, e, wantEpoch, len(want), want, wantE)
	}
}

// expectGet asks Get for an epoch and a body.
func expectGet(t *testing.T, what string, num uint32, b []byte, wantEpoch uint32, want []byte) {
	t.Helper()
	epoch, body, e := pages.Get(num, b)
	expectPage(t, what, epoch, body, e, wantEpoch, want, api.OK)
}

// expectNoGet asks Get for an error, which the plain one returns too.
func expectNoGet(t *testing.T, what string, num uint32, b []byte, want api.Errno) {
	t.Helper()
	epoch, body, e := pages.Get(num, b)
	expectPage(t, what, epoch, body, e, 0, nil, want)
	if _, _, e := plainGet(num, b); e != want {
		t.Errorf("%s: the test is wrong: error %d, want %d", what, e, want)
	}
}

// expectAsPlain asks Get for what the plain one returns.
func expectAsPlain(t *testing.T, what string, num uint32, b []byte) api.Errno {
	t.Helper()
	epoch, body, e := pages.Get(num, b)
	wantEpoch, want, wantE := plainGet(num, b)
	expectPage(t, what, epoch, body, e, wantEpoch, want, wantE)
	return e
}

func expectRead(t *testing.T, what string, d pages.Disk, num uint32, wantEpoch uint32, want []byte) {
	t.Helper()
	epoch, body, e := pages.Read(d, num)
	expectPage(t, what, epoch, body, e, wantEpoch, want, api.OK)
}

func expectNoRead(t *testing.T, what string, d pages.Disk, num uint32, want api.Errno) {
	t.Helper()
	epoch, body, e := pages.Read(d, num)
	expectPage(t, what, epoch, body, e, 0, nil, want)
}

func expectWrite(t *testing.T, what string, d pages.Disk, num, epoch uint32, body []byte, want api.Errno) {
	t.Helper()
	if e := pages.Write(d, num, epoch, body); e != want {
		t.Errorf("%s: Write(%d, %d, %d bytes) = %d, want %d", what, num, epoch, len(body), e, want)
	}
}

// edges are numbers that tell the four bytes and their order apart, the least and the greatest one among them.
func edges() []uint32 {
	return []uint32{0, 1, 7, 255, 256, 65535, 65536, 0x01020304, 0x04030201, 1 << 30, 1<<30 + 1, math.MaxInt32, 1 << 31, 3 << 30, math.MaxUint32 - 1, math.MaxUint32}
}

// noise is n bytes without an order to be seen; another seed gives others.
func noise(n int, seed uint32) []byte {
	b := make([]byte, n)
	for i := range b {
		seed = seed*1664525 + 1013904223
		b[i] = byte(seed >> 24)
	}
	return b
}

// byteRun is likewise, but none of its bytes is zero.
func byteRun(n int, seed uint32) []byte {
	b := noise(n, seed)
	for i := range b {
		b[i] |= 1
	}
	return b
}

// someBodies are those at the edges, and some that end in zeros, which look like what is behind them.
func someBodies() [][]byte {
	l := [][]byte{nil, {}, {0}, {1}, {255}, []byte("hello"), make([]byte, 2), make([]byte, 239), make([]byte, 240), bytes.Repeat([]byte{255}, 240), append(byteRun(100, 9), 0, 0, 0)}
	for _, n := range []int{1, 2, 3, 4, 47, 48, 49, 63, 64, 65, 111, 112, 113, 128, 175, 176, 177, 238, 239, 240} {
		l = append(l, byteRun(n, uint32(n)))
	}
	return l
}

// flipped is b with the bytes from a place on combined with others.
func flipped(b []byte, at int, by ...byte) []byte {
	out := bytes.Clone(b)
	for i, c := range by {
		out[at+i] ^= c
	}
	return out
}

// ask is what a disk was asked for.
type ask struct {
	write bool
	n     int
}

// asksFor are those for the sectors from first to last, in order.
func asksFor(write bool, first, last int) []ask {
	var l []ask
	for n := first; n <= last; n++ {
		l = append(l, ask{write, n})
	}
	return l
}

// teller is a disk with a list for each sector, whatever its length, that tells what it was asked for. It is as it was told to be: not all of it is right.
type teller struct {
	sectors [][]byte
	bad     map[int]api.Errno // a sector's error
	asks    []ask
	many    int // how many sectors it says that it has
}

func newTeller(sectors int) *teller {
	d := &teller{bad: map[int]api.Errno{}, many: sectors}
	for range sectors {
		d.sectors = append(d.sectors, make([]byte, api.Sector))
	}
	return d
}

func (d *teller) Len() int { return d.many }

func (d *teller) Read(n int) ([]byte, api.Errno) {
	d.asks = append(d.asks, ask{false, n})
	if n < 0 || n >= len(d.sectors) {
		return nil, api.ErrArg
	}
	return d.sectors[n], d.bad[n]
}

func (d *teller) Write(n int, b []byte) api.Errno {
	d.asks = append(d.asks, ask{true, n})
	if n < 0 || n >= len(d.sectors) {
		return api.ErrArg
	}
	if d.bad[n] == api.OK {
		d.sectors[n] = bytes.Clone(b)
	}
	return d.bad[n]
}

// writes are what it was asked to write.
func (d *teller) writes() []ask {
	return slices.DeleteFunc(slices.Clone(d.asks), func(a ask) bool { return !a.write })
}

// whole is all of its bytes.
func (d *teller) whole() []byte { return slices.Concat(d.sectors...) }

// lay puts the bytes of a page, whatever they are, into a page's sectors.
func (d *teller) lay(num int, b []byte) {
	for i := range 4 {
		d.sectors[4*num+i] = bytes.Clone(b[64*i : 64*i+64])
	}
}

// newDisk is one of the project's own.
func newDisk(t *testing.T, sectors int) *disks.Disk {
	t.Helper()
	d, e := disks.New(sectors)
	if e != api.OK {
		t.Fatalf("New(%d): %d", sectors, e)
	}
	return d
}

// plainDisk is what a disk holds as P14.2 words it: the bytes of each page, and which of its sectors are bad.
type plainDisk []plainPage

type plainPage struct {
	b   [256]byte
	bad [4]bool
}

func (p *plainPage) read(num uint32) (epoch uint32, body []byte, e api.Errno) {
	if p.bad != [4]bool{} {
		return 0, nil, api.ErrRead
	}
	return plainGet(num, p.b[:])
}

// actBytes is how many bytes an act takes.
const actBytes = 5

// act does what five bytes say, with the disk and with the plain one.
func act(t *testing.T, d *disks.Disk, p plainDisk, c [actBytes]byte) {
	t.Helper()
	num := uint32(c[1]) % uint32(len(p)+1)
	if num == uint32(len(p)) {
		expectWrite(t, "not there", d, num, 1, nil, api.ErrArg)
		expectNoRead(t, "not there", d, num, api.ErrArg)
		return
	}
	at, n := int(c[2]), 4*int(num)+int(c[2])/api.Sector
	switch c[0] % 8 {
	case 0, 1, 2:
		body := byteRun(int(c[2]), uint32(c[3]))
		want := api.OK
		if len(body) > 240 {
			want = api.ErrArg
		} else {
			p[num] = plainPage{b: [256]byte(plainPut(num, uint32(c[4]), body))}
		}
		expectWrite(t, "an act", d, num, uint32(c[4]), body, want)
	case 3:
		d.Rot(n, at%api.Sector, c[3])
		p[num].b[at] ^= c[3]
	case 4:
		d.Bad(n)
		p[num].bad[n%4] = true
	case 5:
		// Another page's sector, as it would be if a write had gone astray.
		from := uint32(c[3]) % uint32(len(p))
		b, e := d.Read(4*int(from) + n%4)
		if e == api.OK {
			d.Write(n, b)
			copy(p[num].b[64*(n%4):], b)
			p[num].bad[n%4] = false
		}
	case 6:
		// Zeros from a place on.
		kept := at % api.Sector
		b, e := d.Read(n)
		if e == api.OK {
			d.Write(n, b[:kept])
			clear(p[num].b[64*(n%4)+kept : 64*(n%4)+64])
		}
	case 7:
		d.Sync()
	}
}

// expectAsWorded does what the bytes say, and reads each page after each act.
func expectAsWorded(t *testing.T, many int, b []byte) {
	t.Helper()
	d, p := newDisk(t, 4*many+many%4), make(plainDisk, many)
	for ; len(b) >= actBytes; b = b[actBytes:] {
		act(t, d, p, [actBytes]byte(b))
		for num := range p {
			epoch, body, e := p[num].read(uint32(num))
			gotEpoch, got, gotE := pages.Read(d, uint32(num))
			expectPage(t, "after an act", gotEpoch, got, gotE, epoch, body, e)
		}
	}
}
