package pages_test

import (
	"bytes"
	"encoding/binary"
	"fmt"
	"math"
	"slices"
	"testing"

	"drydock/api"
	"drydock/disks"
	"drydock/pages"
)

var _ pages.Disk = (*disks.Disk)(nil)

// The chapter's examples

func TestExamples(t *testing.T) {
	b, e := pages.Put(7, 2, []byte("a"))
	if len(b) != 256 || e != api.OK || !bytes.Equal(b[:12], []byte{7, 0, 0, 0, 2, 0, 0, 0, 1, 0, 0, 0}) {
		t.Fatalf("Put(7, 2, a) = %x, %d", b, e)
	}
	expectGet(t, "Get(7, that)", 7, b, 2, []byte("a"))
	expectNoGet(t, "Get(8, that)", 8, b, api.ErrForm)
	expectNoGet(t, "Get(7, that, its last byte 1)", 7, flipped(b, 255, 1), api.ErrForm)
	expectNoGet(t, "Get(7, that, the body b)", 7, flipped(b, 16, 'a'^'b'), api.ErrSum)
	if b, e := pages.Put(1, 1, make([]byte, 241)); b != nil || e != api.ErrArg {
		t.Errorf("Put(1, 1, 241 bytes) = %x, %d", b, e)
	}
	d := newDisk(t, 4)
	expectNoRead(t, "Read(a new disk of 4 sectors, 0)", d, 0, api.ErrSum)
	expectNoRead(t, "Read(that, 1)", d, 1, api.ErrArg)
}

// TestErrorNumbers: as the chapter gives them.
func TestErrorNumbers(t *testing.T) {
	d := newTeller(4)
	_, put := pages.Put(0, 0, make([]byte, 241))
	_, _, none := pages.Read(nil, 0)
	_, _, form := pages.Get(0, nil)
	_, _, sum := pages.Read(d, 0)
	_, _, arg := pages.Read(d, 1)
	d.bad[3] = api.ErrFull
	_, _, read := pages.Read(d, 0)
	disk := pages.Write(d, 0, 0, nil)
	if got, want := []api.Errno{put, arg, none, form, sum, read, disk}, []api.Errno{1, 1, 2, 4, 11, 12, 6}; !slices.Equal(got, want) {
		t.Errorf("%v, want %v", got, want)
	}
}

// P14.1: Put

// TestPutByteByByte: each part at its place, the lowest byte first; the checksums were made by another program.
func TestPutByteByByte(t *testing.T) {
	for _, c := range []struct {
		num, epoch uint32
		body       string
		begin      []byte
	}{
		{7, 2, "a", []byte{7, 0, 0, 0, 2, 0, 0, 0, 1, 0, 0, 0, 0x22, 0x10, 0x24, 0x5b, 'a'}},
		{0x04030201, 0x08070605, "hello", []byte{1, 2, 3, 4, 5, 6, 7, 8, 5, 0, 0, 0, 0xaf, 0xad, 0x63, 0xb3, 'h', 'e', 'l', 'l', 'o'}},
		{math.MaxUint32, 0, "", []byte{255, 255, 255, 255, 0, 0, 0, 0, 0, 0, 0, 0, 255, 255, 255, 255}},
		{0, 0, "", []byte{0, 0, 0, 0, 0, 0, 0, 0, 0, 0, 0, 0, 0x6f, 0xc6, 0xd5, 0x7b}},
	} {
		b, e := pages.Put(c.num, c.epoch, []byte(c.body))
		want := append(c.begin, make([]byte, 256-len(c.begin))...)
		if !bytes.Equal(b, want) || e != api.OK {
			t.Errorf("Put(%d, %d, %q) = %x, %d; want %x", c.num, c.epoch, c.body, b, e, want)
		}
		expectGet(t, "these", c.num, want, c.epoch, []byte(c.body))
	}
}

func TestPutEachLength(t *testing.T) {
	for size := range api.Body + 1 {
		body := byteRun(size, uint32(size))
		expectPut(t, 3, 4, body)
		b, _ := pages.Put(3, 4, body)
		if b[8] != byte(size) || b[9] != 0 || b[10] != 0 || b[11] != 0 || !bytes.Equal(b[16:16+size], body) || !bytes.Equal(b[16+size:], make([]byte, 240-size)) {
			t.Errorf("%d bytes: %x", size, b)
		}
		expectGet(t, "what was put", 3, b, 4, body)
	}
}

func TestPutEachBodyNumberAndEpoch(t *testing.T) {
	for _, num := range edges() {
		for _, epoch := range edges() {
			for _, body := range someBodies() {
				expectPut(t, num, epoch, body)
			}
		}
	}
}

func TestPutOfTooManyBytes(t *testing.T) {
	for _, size := range []int{241, 242, 255, 256, 257, 256 + 240, 1000, 65536, 65536 + 1, api.MaxLine} {
		for _, num := range edges() {
			for _, body := range [][]byte{make([]byte, size), byteRun(size, num)} {
				if b, e := pages.Put(num, num, body); b != nil || e != api.ErrArg {
					t.Errorf("%d bytes: %x, %d", size, b, e)
				}
			}
		}
	}
}

// P14.1: Get

// TestGetOfWhatPutAnswers: with that number, and with no other.
func TestGetOfWhatPutAnswers(t *testing.T) {
	for _, num := range edges() {
		for _, epoch := range edges() {
			for _, body := range someBodies() {
				b, _ := pages.Put(num, epoch, body)
				expectGet(t, "what was put", num, b, epoch, body)
				for _, other := range []uint32{num + 1, num - 1, ^num, num ^ 1<<31, num ^ 1<<8, num + 1<<16, epoch, uint32(len(body))} {
					if other != num {
						expectNoGet(t, "another number", other, b, api.ErrForm)
					}
				}
			}
		}
	}
}

func TestGetOfEachOtherBitOfTheNumber(t *testing.T) {
	for _, num := range edges() {
		b := plainPut(num, 5, []byte("body"))
		for bit := range 32 {
			expectNoGet(t, "another number", num^1<<bit, b, api.ErrForm)
		}
	}
}

// TestGetOfOtherThanAPage: fewer bytes and more, whether zeros are missing, the body or the head.
func TestGetOfOtherThanAPage(t *testing.T) {
	for _, body := range someBodies() {
		b := append(plainPut(7, 2, body), make([]byte, 300)...)
		for size := range len(b) {
			if size != 256 {
				expectNoGet(t, fmt.Sprint(size, " bytes"), 7, b[:size], api.ErrForm)
			}
		}
		expectGet(t, "256 bytes of more", 7, b[:256], 2, body)
	}
	for _, b := range [][]byte{nil, {}, {7}, make([]byte, 255), make([]byte, 257), make([]byte, 512), make([]byte, api.MaxLine)} {
		expectNoGet(t, fmt.Sprint(len(b), " bytes"), 0, b, api.ErrForm)
	}
}

// TestGetOfALengthAboveBody: with the checksum of whatever could be meant by it.
func TestGetOfALengthAboveBody(t *testing.T) {
	for _, length := range []uint32{241, 242, 255, 256, 257, 496, 1<<16 + 5, 1<<24 + 5, 1 << 31, 1<<31 + 5, math.MaxInt32, math.MaxUint32, math.MaxUint32 - 15, math.MaxUint32 - 11, math.MaxUint32 - 239} {
		for _, size := range []int{0, 1, int(length & 0xff), 240} {
			body := byteRun(min(size, 240), length)
			for _, rest := range [][]byte{nil, body, make([]byte, 240)} {
				b := plainBytes(7, 2, length, plainSum(7, 2, length, rest), rest)
				expectNoGet(t, fmt.Sprint("length ", length), 7, b, api.ErrForm)
				expectNoGet(t, fmt.Sprint("length ", length, ", another number"), 8, b, api.ErrForm)
				expectNoGet(t, fmt.Sprint("length ", length, ", another sum"), 7, flipped(b, 12, 1), api.ErrForm)
			}
		}
	}
}

// TestGetOfBytesBehindTheBody: each place, whatever stands there: the checksum is right.
func TestGetOfBytesBehindTheBody(t *testing.T) {
	for size := range api.Body {
		b := plainPut(7, 2, byteRun(size, 3))
		for at := 16 + size; at < 256; at++ {
			for _, by := range []byte{1, 128, 255} {
				expectNoGet(t, fmt.Sprint(size, " bytes, and one at ", at), 7, flipped(b, at, by), api.ErrForm)
			}
		}
	}
	for by := 1; by < 256; by++ {
		b := plainPut(7, 2, []byte("a"))
		expectNoGet(t, "the first one", 7, flipped(b, 17, byte(by)), api.ErrForm)
		expectNoGet(t, "the last one", 7, flipped(b, 255, byte(by)), api.ErrForm)
	}
}

// TestGetOfALengthTooShort: the sum is that of the shorter body, but what is left of the longer one is no zeros.
func TestGetOfALengthTooShort(t *testing.T) {
	body := byteRun(240, 1)
	for length := range uint32(240) {
		b := plainBytes(7, 2, length, plainSum(7, 2, length, body[:length]), body)
		expectNoGet(t, fmt.Sprint("length ", length), 7, b, api.ErrForm)
	}
}

// TestGetOfAnotherChecksum: each bit of it, and sums of other bytes than those it is of.
func TestGetOfAnotherChecksum(t *testing.T) {
	for _, body := range someBodies() {
		b := plainPut(7, 2, body)
		sum := binary.LittleEndian.Uint32(b[12:])
		head, length := b[:12], uint32(len(body))
		others := []uint32{0, math.MaxUint32, ^sum, sum + 1, sum<<8 | sum>>24, plainSum(8, 2, length, body), plainSum(7, 3, length, body), plainSum(7, 2, length+1, body), plainSum(7, 2, length, append(slices.Clone(body), 0))}
		for bit := range 32 {
			others = append(others, sum^1<<bit)
		}
		if length > 0 {
			others = append(others, plainSum(7, 2, length, nil), plainSum(7, 2, length, body[1:]), plainSum(7, 2, length, body[:length-1]))
		}
		for _, other := range others {
			other := plainBytes(7, 2, length, other, body)
			if !bytes.Equal(head, other[:12]) {
				t.Fatal("the test is wrong")
			}
			expectNoGet(t, "another sum", 7, other, api.ErrSum)
			expectNoGet(t, "another sum, another number", 8, other, api.ErrSum)
		}
	}
}

// TestGetOfSeveralErrors: the form comes first, then the sum, then the number.
func TestGetOfSeveralErrors(t *testing.T) {
	b := plainPut(7, 2, []byte("body"))
	for _, c := range []struct {
		what string
		num  uint32
		b    []byte
		want api.Errno
	}{
		{"number", 8, b, api.ErrForm},
		{"sum, number", 8, flipped(b, 12, 1), api.ErrSum},
		{"zeros, number", 8, flipped(b, 20, 1), api.ErrForm},
		{"zeros, sum", 7, flipped(flipped(b, 255, 1), 12, 1), api.ErrForm},
		{"zeros, sum, number", 8, flipped(flipped(b, 255, 1), 12, 1), api.ErrForm},
		{"length, sum", 7, flipped(b, 11, 128, 1), api.ErrForm},
		{"length, zeros, sum, number", 8, flipped(flipped(b, 11, 128, 1), 255, 1), api.ErrForm},
		{"too few, sum, number", 8, flipped(b, 12, 1)[:255], api.ErrForm},
		{"too many, sum", 7, append(flipped(b, 12, 1), 0), api.ErrForm},
		{"the number in the page, and its sum", 7, flipped(b, 0, 15), api.ErrSum},
	} {
		expectNoGet(t, c.what, c.num, c.b, c.want)
	}
}

// TestGetOfZeros: no page at all, and none of number 0.
func TestGetOfZeros(t *testing.T) {
	for _, num := range edges() {
		expectNoGet(t, "zeros", num, make([]byte, 256), api.ErrSum)
	}
}

// TestGetOfAnyBytes: as the chapter words it, for bytes that are nearly a page.
func TestGetOfAnyBytes(t *testing.T) {
	bodies := someBodies()
	for seed := range uint32(20000) {
		r := noise(20, seed)
		b := plainPut(uint32(r[0]%3), 2, bodies[int(r[1])%len(bodies)])
		for i := range int(r[2] % 4) {
			b[r[4+i]] ^= 1 << (r[8+i] % 8)
		}
		if r[3] < 32 {
			b = b[:255+r[3]%2]
		}
		expectAsPlain(t, "any bytes", uint32(r[12]%3), b)
	}
}

// P14.2

// noDisks are disks that do not exist, each in another way.
func noDisks() map[string]pages.Disk {
	var none *disks.Disk
	var noTeller *teller
	return map[string]pages.Disk{
		"nil":                         nil,
		"nil, of package disks":       none,
		"a zero struct":               &disks.Disk{},
		"ErrNil, no sectors":          gone(0),
		"ErrNil, eight sectors":       gone(8),
		"ErrNil, many sectors":        gone(math.MaxInt),
		"ErrNil, fewer than none":     gone(math.MinInt),
		"around a nil one":            struct{ *disks.Disk }{},
		"around no disk":              struct{ pages.Disk }{},
		"a nil one that would panic":  noTeller,
		"nil, with methods of values": (*gone)(nil),
	}
}

// gone returns ErrNil, and says that it has so many sectors.
type gone int

func (d gone) Write(int, []byte) api.Errno  { return api.ErrNil }
func (d gone) Read(int) ([]byte, api.Errno) { return make([]byte, api.Sector), api.ErrNil }
func (d gone) Len() int                     { return int(d) }

// TestNoDisk: whatever else is wrong.
func TestNoDisk(t *testing.T) {
	for what, d := range noDisks() {
		for _, num := range edges() {
			for _, body := range [][]byte{nil, []byte("a"), make([]byte, 240), make([]byte, 241), make([]byte, 1000)} {
				expectWrite(t, what, d, num, 1, body, api.ErrNil)
			}
			expectNoRead(t, what, d, num, api.ErrNil)
		}
	}
}

// TestDiskThatIsGoneLater: a disk that returns ErrNil for one sector alone.
func TestDiskThatIsGoneLater(t *testing.T) {
	for n := 4; n < 8; n++ {
		d := newTeller(8)
		d.lay(1, plainPut(1, 2, byteRun(200, 1)))
		d.bad[n] = api.ErrNil
		expectNoRead(t, "gone later", d, 1, api.ErrNil)
		expectWrite(t, "gone later", d, 1, 2, nil, api.ErrNil)
	}
}

// TestNoSuchPage: a page is there if all of its sectors are; four times the greatest number is not, even if it is taken modulo 2^32.
func TestNoSuchPage(t *testing.T) {
	for sectors := range 14 {
		for _, num := range append(edges(), 2, 3, 4) {
			d := newTeller(sectors)
			before := d.whole()
			if uint64(num)*4+3 < uint64(sectors) {
				expectWrite(t, "there", d, num, 9, []byte("a"), api.OK)
				expectRead(t, "there", d, num, 9, []byte("a"))
				continue
			}
			what := fmt.Sprint(num, " of ", sectors, " sectors")
			for _, body := range [][]byte{nil, []byte("a"), make([]byte, 240), make([]byte, 241)} {
				expectWrite(t, what, d, num, 9, body, api.ErrArg)
			}
			expectNoRead(t, what, d, num, api.ErrArg)
			if len(d.writes()) > 0 || !bytes.Equal(d.whole(), before) {
				t.Errorf("%s: %v", what, d.asks)
			}
		}
	}
}

func TestNoSuchPageOfADisk(t *testing.T) {
	for _, sectors := range []int{1, 3, 4, 5, 7, 8, 11, api.MaxSectors - 1, api.MaxSectors} {
		d := newDisk(t, sectors)
		for _, num := range append(edges(), uint32(sectors/4), uint32(sectors/4)+1, uint32(sectors), api.MaxPages) {
			if int64(num) < int64(sectors/4) {
				continue
			}
			expectWrite(t, "not there", d, num, 1, nil, api.ErrArg)
			expectNoRead(t, "not there", d, num, api.ErrArg)
		}
		if d.Waits() != 0 {
			t.Errorf("%d sectors: %d writes", sectors, d.Waits())
		}
		if last := uint32(sectors/4) - 1; sectors >= 4 {
			expectWrite(t, "the last one", d, last, 1, []byte("z"), api.OK)
			expectRead(t, "the last one", d, last, 1, []byte("z"))
		}
	}
}

// TestLengthsThatNoDiskHas: fewer than none; and so many that each page is there.
func TestLengthsThatNoDiskHas(t *testing.T) {
	for _, many := range []int{0, -1, -4, math.MinInt32, math.MinInt} {
		d := newTeller(8)
		d.many = many
		for _, num := range edges() {
			expectNoRead(t, "fewer than none", d, num, api.ErrArg)
			expectWrite(t, "fewer than none", d, num, 1, nil, api.ErrArg)
		}
		if len(d.writes()) > 0 {
			t.Errorf("%d sectors: %v", many, d.asks)
		}
	}
	for _, many := range []int{1 << 34, 1<<34 + 1, math.MaxInt} {
		d := &sparse{many: many}
		for _, num := range edges() {
			expectWrite(t, "all are there", d, num, num, []byte("a"), api.OK)
			expectRead(t, "all are there", d, num, num, []byte("a"))
			if first := 4 * int(num); !slices.Equal(d.asked, []int{first, first + 1, first + 2, first + 3, first, first + 1, first + 2, first + 3}) {
				t.Errorf("page %d: sectors %v", num, d.asked)
			}
			d.asked = nil
		}
	}
	d := &sparse{many: 1<<34 - 1}
	expectNoRead(t, "one too few", d, math.MaxUint32, api.ErrArg)
	expectWrite(t, "one too few", d, math.MaxUint32, 1, nil, api.ErrArg)
}

// sparse is a disk that says that it has many sectors, and has the four that were written last.
type sparse struct {
	many  int
	last  [4][]byte
	asked []int
}

func (d *sparse) Len() int { return d.many }

func (d *sparse) Write(n int, b []byte) api.Errno {
	d.asked = append(d.asked, n)
	d.last[n%4] = bytes.Clone(b)
	return api.OK
}

func (d *sparse) Read(n int) ([]byte, api.Errno) {
	d.asked = append(d.asked, n)
	return d.last[n%4], api.OK
}

// TestWriteOfTooManyBytes: nothing is written.
func TestWriteOfTooManyBytes(t *testing.T) {
	for _, size := range []int{241, 242, 256, 257, 1000, api.MaxLine} {
		d := newTeller(8)
		d.lay(1, plainPut(1, 2, []byte("as it was")))
		before := d.whole()
		for num := range uint32(3) {
			expectWrite(t, "too many", d, num, 1, byteRun(size, 1), api.ErrArg)
			expectWrite(t, "too many", d, num, 1, make([]byte, size), api.ErrArg)
		}
		if len(d.writes()) > 0 || !bytes.Equal(d.whole(), before) {
			t.Errorf("%d bytes: %v", size, d.asks)
		}
		own := newDisk(t, 8)
		expectWrite(t, "too many", own, 1, 1, make([]byte, size), api.ErrArg)
		if own.Waits() != 0 {
			t.Errorf("%d bytes: %d writes", size, own.Waits())
		}
	}
}

// TestWriteAndReadInOrder: the four sectors, once each, and no other one.
func TestWriteAndReadInOrder(t *testing.T) {
	for _, body := range someBodies() {
		for num := range uint32(3) {
			d := newTeller(12)
			for n := range d.sectors {
				d.sectors[n] = byteRun(64, uint32(n))
			}
			want := d.whole()
			copy(want[256*num:], plainPut(num, 77, body))
			expectWrite(t, "in order", d, num, 77, body, api.OK)
			if first := 4 * int(num); !slices.Equal(d.asks, asksFor(true, first, first+3)) {
				t.Errorf("Write(%d): %v", num, d.asks)
			}
			if !bytes.Equal(d.whole(), want) {
				t.Errorf("Write(%d): %x, want %x", num, d.whole(), want)
			}
			d.asks = nil
			expectRead(t, "in order", d, num, 77, body)
			if first := 4 * int(num); !slices.Equal(d.asks, asksFor(false, first, first+3)) {
				t.Errorf("Read(%d): %v", num, d.asks)
			}
			if !bytes.Equal(d.whole(), want) {
				t.Errorf("Read(%d) wrote", num)
			}
		}
	}
}

// TestWriteWhereTheDiskFails: its first error, whichever that is; what is ahead of it is written, and nothing behind it.
func TestWriteWhereTheDiskFails(t *testing.T) {
	body := byteRun(240, 5)
	want := plainPut(1, 3, body)
	for bad := range 4 {
		for e := api.ErrArg; e <= api.ErrWait; e++ {
			d := newTeller(12)
			for later := bad; later < 4; later++ {
				d.bad[4+later] = e + api.Errno(100*(later-bad))
			}
			expectWrite(t, "where the disk fails", d, 1, 3, body, e)
			if !slices.Equal(d.asks, asksFor(true, 4, 4+bad)) {
				t.Errorf("the sector %d fails: %v", 4+bad, d.asks)
			}
			whole := make([]byte, 12*64)
			copy(whole[4*64:], want[:64*bad])
			if !bytes.Equal(d.whole(), whole) {
				t.Errorf("the sector %d fails: %x", 4+bad, d.whole())
			}
		}
	}
	d := newTeller(12)
	d.bad[3], d.bad[8] = api.ErrRead, api.ErrRead
	expectWrite(t, "where others fail", d, 1, 3, body, api.OK)
	expectRead(t, "where others fail", d, 1, 3, body)
}

// TestWriteWhereTheDiskIsShorterThanItSays: then the error is the disk's own.
func TestWriteWhereTheDiskIsShorterThanItSays(t *testing.T) {
	d := newTeller(6)
	d.many = 8
	expectWrite(t, "shorter", d, 1, 3, []byte("a"), api.ErrArg)
	if !slices.Equal(d.asks, asksFor(true, 4, 6)) {
		t.Errorf("%v", d.asks)
	}
	expectNoRead(t, "shorter", d, 1, api.ErrRead)
}

// TestReadWhereASectorFails: whatever the disk's error is.
func TestReadWhereASectorFails(t *testing.T) {
	for bad := range 4 {
		for e := api.ErrArg; e <= api.ErrWait+1; e++ {
			if e == api.ErrNil {
				continue
			}
			d := newTeller(12)
			d.lay(1, plainPut(1, 3, byteRun(240, 5)))
			d.bad[4+bad] = e
			expectNoRead(t, "a sector fails", d, 1, api.ErrRead)
			d.lay(1, make([]byte, 256))
			expectNoRead(t, "a sector fails, and the others are zeros", d, 1, api.ErrRead)
			d.bad[4+bad] = -e
			expectNoRead(t, "an error that has no name", d, 1, api.ErrRead)
		}
	}
}

func TestReadOfABadSector(t *testing.T) {
	for n := range 12 {
		d := newDisk(t, 12)
		for num := range uint32(3) {
			expectWrite(t, "before", d, num, num, byteRun(200, num), api.OK)
		}
		d.Bad(n)
		for num := range uint32(3) {
			if int(num) == n/4 {
				expectNoRead(t, "bad", d, num, api.ErrRead)
				expectWrite(t, "again", d, num, 9, []byte("new"), api.OK)
				expectRead(t, "again", d, num, 9, []byte("new"))
			} else {
				expectRead(t, "another one is bad", d, num, num, byteRun(200, num))
			}
		}
	}
}

// TestReadOfSectorsThatAreNoSectors: too short or too long, even where all bytes together are a page.
func TestReadOfSectorsThatAreNoSectors(t *testing.T) {
	page := plainPut(1, 3, []byte("short"))
	for bad := 4; bad < 8; bad++ {
		for _, size := range []int{0, 1, 32, 63, 65, 128, 256, 1000} {
			d := newTeller(12)
			d.lay(1, page)
			d.sectors[bad] = append(d.sectors[bad], make([]byte, 1000)...)[:size]
			expectNoRead(t, fmt.Sprint(size, " bytes in the sector ", bad), d, 1, api.ErrRead)
		}
		d := newTeller(12)
		d.lay(1, page)
		d.sectors[bad] = nil
		expectNoRead(t, "no list", d, 1, api.ErrRead)
	}
	d := newTeller(4)
	b := plainPut(0, 3, byteRun(240, 1))
	d.sectors = [][]byte{b[:63], b[63:128], b[128:192], b[192:]}
	expectNoRead(t, "a byte that moved", d, 0, api.ErrRead)
	d.sectors = [][]byte{b, {}, {}, {}}
	expectNoRead(t, "all in the first one", d, 0, api.ErrRead)
	d.sectors = [][]byte{b[:64], b[64:128], b[128:192], b[192:]}
	expectRead(t, "as it should be", d, 0, 3, byteRun(240, 1))
}

func TestReadOfZeros(t *testing.T) {
	d := newTeller(16)
	own := newDisk(t, 16)
	for num := range uint32(4) {
		expectNoRead(t, "zeros", d, num, api.ErrSum)
		expectNoRead(t, "zeros", own, num, api.ErrSum)
	}
}

// TestReadOfASectorOfAnotherPage: each one, of another page and of the same one in another epoch; no mixture is a page.
func TestReadOfASectorOfAnotherPage(t *testing.T) {
	page := plainPut(1, 3, byteRun(240, 1))
	for _, other := range [][]byte{plainPut(2, 3, byteRun(240, 2)), plainPut(1, 4, byteRun(240, 2)), plainPut(1, 2, byteRun(239, 3)), plainPut(2, 3, []byte("x"))} {
		for mask := 1; mask < 15; mask++ {
			d := newTeller(8)
			d.lay(1, page)
			for i := range 4 {
				if mask>>i&1 == 1 {
					d.sectors[4+i] = bytes.Clone(other[64*i : 64*i+64])
				}
			}
			_, _, want := plainGet(1, d.whole()[256:])
			if want == api.OK {
				t.Fatal("the test is wrong")
			}
			expectNoRead(t, fmt.Sprintf("mixture %04b", mask), d, 1, want)
		}
	}
	d := newTeller(12)
	d.lay(1, plainPut(2, 3, []byte("all of it")))
	expectNoRead(t, "all of another page", d, 1, api.ErrForm)
}

// panics is a disk that panics when it is asked for what.
type panics struct {
	*teller
	what string
	by   any
}

func (d panics) on(what string) {
	if d.what == what {
		panic(d.by)
	}
}

func (d panics) Len() int {
	d.on("Len")
	return d.teller.Len()
}

func (d panics) Read(n int) ([]byte, api.Errno) {
	d.on("Read")
	return d.teller.Read(n)
}

func (d panics) Write(n int, b []byte) api.Errno {
	d.on("Write")
	return d.teller.Write(n, b)
}

// TestDisksThatPanic: R1. A sector whose reading panics can't be read, and a page that is not there is not there.
func TestDisksThatPanic(t *testing.T) {
	for _, by := range []any{"a text", 7, api.ErrSum, nil} {
		expectNoRead(t, "Len", panics{newTeller(8), "Len", by}, 1, api.ErrNil)
		expectWrite(t, "Len", panics{newTeller(8), "Len", by}, 1, 2, nil, api.ErrNil)
		expectNoRead(t, "Read", panics{newTeller(8), "Read", by}, 1, api.ErrRead)
		expectNoRead(t, "Read", panics{newTeller(7), "Read", by}, 1, api.ErrArg)
		expectWrite(t, "Read", panics{newTeller(8), "Read", by}, 1, 2, nil, api.OK)
		expectWrite(t, "Read", panics{newTeller(8), "Read", by}, 1, 2, make([]byte, 241), api.ErrArg)
		expectWrite(t, "Read", panics{newTeller(7), "Read", by}, 1, 2, nil, api.ErrArg)
		expectNoRead(t, "Write", panics{newTeller(8), "Write", by}, 1, api.ErrSum)
		expectWrite(t, "Write", panics{newTeller(8), "Write", by}, 1, 2, nil, api.ErrNil)
		expectWrite(t, "Write", panics{newTeller(8), "Write", by}, 1, 2, make([]byte, 241), api.ErrArg)
	}
}

// P14.3

// TestWhatIsWrittenIsRead: on all pages of a disk, over each other, durable or not, and after it failed.
func TestWhatIsWrittenIsRead(t *testing.T) {
	d := newDisk(t, 4*32+3)
	for round := range uint32(3) {
		for num := range uint32(32) {
			expectWrite(t, "each page", d, num, round*1000+num, byteRun(int(num*7+round*5), round), api.OK)
		}
		if round == 1 {
			d.Sync()
		}
		for num := range uint32(32) {
			expectRead(t, "each page", d, num, round*1000+num, byteRun(int(num*7+round*5), round))
		}
	}
	old, _ := d.Fail(0, -1)
	fresh, _ := d.Fail(math.MaxUint64, -1)
	for num := range uint32(32) {
		expectRead(t, "as it was durable", old, num, 1000+num, byteRun(int(num*7+5), 1))
		expectRead(t, "all kept", fresh, num, 2000+num, byteRun(int(num*7+10), 2))
	}
}

// TestWhatIsLeftOfAPage: whichever of its writes are kept, and whichever is torn, it is what was written, what was there, or none.
func TestWhatIsLeftOfAPage(t *testing.T) {
	before, after := byteRun(230, 1), byteRun(240, 2)
	for keep := range uint64(16) {
		for torn := -1; torn < 4; torn++ {
			d := newDisk(t, 8)
			expectWrite(t, "before", d, 1, 5, before, api.OK)
			d.Sync()
			expectWrite(t, "after", d, 1, 6, after, api.OK)
			x, _ := d.Fail(keep, torn)
			switch {
			case keep == 15 && torn == -1:
				expectRead(t, "all", x, 1, 6, after)
			case keep == 0 && torn == -1:
				expectRead(t, "none", x, 1, 5, before)
			default:
				if _, body, e := pages.Read(x, 1); e != api.ErrSum && e != api.ErrForm || body != nil {
					t.Errorf("keep %04b, torn %d: %q, %d", keep, torn, body, e)
				}
			}
		}
	}
}

// TestOtherPagesDoNotMatter: whatever becomes of them.
func TestOtherPagesDoNotMatter(t *testing.T) {
	for size := range api.Body + 1 {
		d := newDisk(t, 12)
		body := byteRun(size, 8)
		expectWrite(t, "the page", d, 1, 5, body, api.OK)
		for i := range 4 {
			d.Write(i, byteRun(64, uint32(size)))
			d.Rot(8+i, size%64, 255)
			d.Bad(8 + i)
		}
		expectWrite(t, "another page", d, 0, 6, byteRun(240-size, 9), api.OK)
		expectRead(t, "the page", d, 1, 5, body)
		d.Bad(0)
		expectRead(t, "the page", d, 1, 5, body)
	}
}

// neighbours are one to four bytes, none of which leaves what it is combined with as it was.
func neighbours() [][]byte {
	l := [][]byte{{1}, {128}, {255}, {0x5a}, {1, 1}, {128, 1}, {255, 255}, {3, 77}, {1, 1, 1}, {255, 255, 255}, {128, 2, 1}, {9, 8, 7}, {1, 1, 1, 1}, {255, 255, 255, 255}, {128, 64, 32, 16}, {0x20, 0x83, 0xb8, 0xed}, {0xed, 0xb8, 0x83, 0x20}}
	for seed := range uint32(5) {
		l = append(l, byteRun(int(seed%4)+1, seed))
	}
	return l
}

// TestFlippedBytesAreNotAccepted: at every place of a page, in memory.
func TestFlippedBytesAreNotAccepted(t *testing.T) {
	for _, body := range someBodies() {
		page, _ := pages.Put(7, 2, body)
		for _, by := range neighbours() {
			for at := range 256 - len(by) + 1 {
				b := flipped(page, at, by...)
				what := fmt.Sprintf("%d bytes, flipped at %d by %x", len(body), at, by)
				if e := expectAsPlain(t, what, 7, b); e == api.OK {
					t.Errorf("%s: accepted", what)
				}
				end, last := 16+len(body), at+len(by)
				switch {
				case last <= 8, at >= 12 && last <= 16, at >= 16 && last <= end:
					expectNoGet(t, what, 7, b, api.ErrSum)
				case at >= end:
					expectNoGet(t, what, 7, b, api.ErrForm)
				}
			}
		}
	}
}

// TestEachFlippedByteIsNotAccepted: all values of one byte, at every place.
func TestEachFlippedByteIsNotAccepted(t *testing.T) {
	page, _ := pages.Put(7, 2, byteRun(100, 4))
	for at := range page {
		for by := 1; by < 256; by++ {
			if e := expectAsPlain(t, fmt.Sprint(at), 7, flipped(page, at, byte(by))); e == api.OK {
				t.Errorf("flipped at %d by %d: accepted", at, by)
			}
		}
	}
}

// TestFlippedBytesOnADisk: likewise, across sectors too; what is flipped back is there again.
func TestFlippedBytesOnADisk(t *testing.T) {
	d := newDisk(t, 12)
	body := byteRun(200, 6)
	for num := range uint32(3) {
		expectWrite(t, "before", d, num, 2, body, api.OK)
	}
	flip := func(at int, by []byte) {
		for i, c := range by {
			d.Rot(4+(at+i)/64, (at+i)%64, c)
		}
	}
	for _, by := range neighbours() {
		for at := range 256 - len(by) + 1 {
			flip(at, by)
			_, _, want := plainGet(1, flipped(plainPut(1, 2, body), at, by...))
			if want == api.OK {
				t.Fatal("the test is wrong")
			}
			expectNoRead(t, fmt.Sprintf("flipped at %d by %x", at, by), d, 1, want)
			flip(at, by)
		}
	}
	for num := range uint32(3) {
		expectRead(t, "flipped back", d, num, 2, body)
	}
}

// TestFlippedPageWithAMatchingChecksum: what is in it then.
func TestFlippedPageWithAMatchingChecksum(t *testing.T) {
	page, _ := pages.Put(7, 2, []byte("aaaaaaaa"))
	// The last byte of the checksum, and three of the body: the sum of these is as far from that of the body as that byte says.
	b := flipped(page, 15, 0x25, 0xed, 0xa9, 0x8f)
	expectGet(t, "flipped with its checksum", 7, b, 2, []byte("\x8c\xc8\xeeaaaaa"))
	d := newTeller(32)
	d.lay(7, b)
	expectRead(t, "flipped with its checksum", d, 7, 2, []byte("\x8c\xc8\xeeaaaaa"))

	body := byteRun(100, 3)
	for at := range 100 {
		other := flipped(body, at, 7)
		page, _ := pages.Put(7, 2, body)
		copy(page[12:], plainPut(7, 2, other)[12:16])
		expectNoGet(t, "the checksum of other bytes", 7, page, api.ErrSum)
		page[16+at] ^= 7
		expectGet(t, "another body, and its checksum", 7, page, 2, other)
	}
	for _, epoch := range edges() {
		expectGet(t, "another epoch, and its checksum", 7, plainPut(7, epoch, body), epoch, body)
	}
	for _, num := range edges() {
		page := plainPut(num, 2, body)
		if num != 7 {
			expectNoGet(t, "another number, and its checksum", 7, page, api.ErrForm)
		}
		expectGet(t, "another number, and its checksum", num, page, 2, body)
	}
}

// TestAsTheDocumentWordsIt: P14.1 to P14.3, over acts without an order to be seen.
func TestAsTheDocumentWordsIt(t *testing.T) {
	for seed := range uint32(300) {
		expectAsWorded(t, 1+int(seed%4), noise(40*actBytes, seed))
	}
}

// FuzzGet: R1 and P14.1 for any bytes, as they are and with the checksum that they should have.
func FuzzGet(f *testing.F) {
	f.Add(uint32(7), []byte(nil))
	f.Add(uint32(7), make([]byte, 256))
	for _, body := range someBodies() {
		f.Add(uint32(7), plainPut(7, 2, body))
		f.Add(uint32(8), append(plainPut(7, 2, body), 0))
	}
	f.Fuzz(func(t *testing.T, num uint32, b []byte) {
		expectAsPlain(t, "any bytes", num, b)
		if len(b) == 256 {
			length := min(240, binary.LittleEndian.Uint32(b[8:]))
			sum := plainSum(binary.LittleEndian.Uint32(b), binary.LittleEndian.Uint32(b[4:]), length, b[16:16+length])
			b = plainBytes(binary.LittleEndian.Uint32(b), binary.LittleEndian.Uint32(b[4:]), binary.LittleEndian.Uint32(b[8:]), sum, b[16:])
			expectAsPlain(t, "any bytes, and their sum", num, b)
		}
		epoch, body, e := pages.Get(num, b)
		if e == api.OK {
			if again, e := pages.Put(num, epoch, body); !bytes.Equal(again, b) || e != api.OK {
				t.Errorf("%x was put as %x, %d", b, again, e)
			}
		}
	})
}

// FuzzActs: P14.2 and P14.3 for any acts.
func FuzzActs(f *testing.F) {
	f.Add(byte(0), []byte(nil))
	f.Add(byte(3), noise(20*actBytes, 1))
	f.Fuzz(func(t *testing.T, many byte, b []byte) {
		expectAsWorded(t, 1+int(many%5), b[:min(len(b), 100*actBytes)])
	})
}
