package disks_test

import (
	"bytes"
	"math"
	"testing"

	"drydock/api"
	"drydock/disks"
)

const half = api.Sector / 2

// newDisk has n sectors.
func newDisk(t *testing.T, n int) *disks.Disk {
	t.Helper()
	d, e := disks.New(n)
	if d == nil || e != api.OK {
		t.Fatalf("New(%d) = %v, %d", n, d, e)
	}
	return d
}

// full is a sector of one byte over and over.
func full(c byte) []byte {
	return bytes.Repeat([]byte{c}, api.Sector)
}

// halves is a sector whose halves have a byte each.
func halves(first, other byte) []byte {
	return append(full(first)[:half], full(other)[:half]...)
}

// padded is b with zeros up to the end of a sector.
func padded(b []byte) []byte {
	return append(bytes.Clone(b), make([]byte, api.Sector-len(b))...)
}

// expect asks for a call's error.
func expect(t *testing.T, what string, got, want api.Errno) {
	t.Helper()
	if got != want {
		t.Errorf("%s: error %d, want %d", what, got, want)
	}
}

// put writes, and takes it for granted that this can be done.
func put(t *testing.T, d *disks.Disk, n int, b []byte) {
	t.Helper()
	expect(t, "Write", d.Write(n, b), api.OK)
}

// left is what Fail leaves: always durable, and of the same length.
func left(t *testing.T, d *disks.Disk, keep uint64, torn int) *disks.Disk {
	t.Helper()
	x, e := d.Fail(keep, torn)
	if x == nil || e != api.OK {
		t.Fatalf("Fail(%#x, %d) = %v, %d", keep, torn, x, e)
	}
	if x.Waits() != 0 || x.Len() != d.Len() {
		t.Errorf("Fail(%#x, %d): %d sectors of %d, %d pending", keep, torn, x.Len(), d.Len(), x.Waits())
	}
	return x
}

// expectSector asks for the bytes of a sector; no bytes stand for one that is bad.
func expectSector(t *testing.T, what string, d *disks.Disk, n int, want []byte) {
	t.Helper()
	b, e := d.Read(n)
	wantE := api.OK
	if want == nil {
		wantE = api.ErrRead
	}
	if !bytes.Equal(b, want) || e != wantE {
		t.Errorf("%s: sector %d is %q, %d; want %q, %d", what, n, b, e, want, wantE)
	}
}

// notThere are numbers that are no sector of a disk that has so many.
func notThere(sectors int) []int {
	return []int{-1, -sectors, sectors, sectors + 1, api.MaxSectors, api.MaxSectors + 1, math.MinInt, math.MaxInt, math.MinInt32, math.MaxInt32}
}

// The chapter's examples

func TestExamples(t *testing.T) {
	d := newDisk(t, 2)
	put(t, d, 0, []byte("a"))
	if b, e := d.Read(0); e != api.OK || !bytes.Equal(b[:2], []byte{'a', 0}) {
		t.Errorf("Read(0) = %q, %d", b, e)
	}
	if n := d.Waits(); n != 1 {
		t.Errorf("Waits = %d", n)
	}
	expect(t, "Write(2, a)", d.Write(2, []byte("a")), api.ErrArg)
	expect(t, "Write(0, 65 bytes)", d.Write(0, make([]byte, 65)), api.ErrArg)
	expectSector(t, "Fail(0, -1)", left(t, d, 0, -1), 0, full(0))
	expectSector(t, "Fail(1, -1)", left(t, d, 1, -1), 0, padded([]byte("a")))
	expect(t, "Bad(0)", d.Bad(0), api.OK)
	expectSector(t, "after Bad", d, 0, nil)
	expect(t, "Write(0, b)", d.Write(0, []byte("b")), api.OK)
	expectSector(t, "after Write", d, 0, padded([]byte("b")))
}

// P3.1

func TestNew(t *testing.T) {
	for _, n := range []int{1, 2, 3, 64, 65, api.MaxSectors - 1, api.MaxSectors} {
		d := newDisk(t, n)
		if d.Len() != n || d.Waits() != 0 {
			t.Errorf("New(%d): Len %d, Waits %d", n, d.Len(), d.Waits())
		}
		x := left(t, d, 0, -1)
		for i := range n {
			expectSector(t, "new", d, i, full(0))
			expectSector(t, "new, and failed", x, i, full(0))
		}
		b, e := d.Read(n)
		if b != nil || e != api.ErrArg {
			t.Errorf("New(%d): Read(%d) = %v, %d", n, n, b, e)
		}
	}
}

func TestNewOfNoSuchSize(t *testing.T) {
	for _, n := range []int{0, -1, -2, api.MaxSectors + 1, api.MaxSectors + 2, 1 << 31, math.MinInt, math.MaxInt, math.MinInt32} {
		if d, e := disks.New(n); d != nil || e != api.ErrArg {
			t.Errorf("New(%d) = %v, %d", n, d, e)
		}
	}
}

// P3.2

func TestWriteOfEachLength(t *testing.T) {
	for size := range api.Sector + 1 {
		d := newDisk(t, 3)
		for i := range 3 {
			put(t, d, i, full('x'))
		}
		b := full('a')[:size]
		put(t, d, 1, b)
		// Zeros follow, not what was there.
		expectSector(t, "written", d, 1, padded(b))
		expectSector(t, "before it", d, 0, full('x'))
		expectSector(t, "after it", d, 2, full('x'))
		expect(t, "Sync", d.Sync(), api.OK)
		expectSector(t, "written, and durable", left(t, d, 0, -1), 1, padded(b))
	}
}

func TestWriteNothing(t *testing.T) {
	for _, b := range [][]byte{nil, {}, full('b')[:0]} {
		d := newDisk(t, 1)
		put(t, d, 0, full('a'))
		put(t, d, 0, b)
		expectSector(t, "written", d, 0, full(0))
		if d.Waits() != 2 {
			t.Errorf("Waits = %d", d.Waits())
		}
	}
}

func TestWriteOfTooManyBytes(t *testing.T) {
	d := newDisk(t, 2)
	put(t, d, 0, full('a'))
	expect(t, "Bad", d.Bad(1), api.OK)
	for _, size := range []int{api.Sector + 1, api.Sector + 2, 2 * api.Sector, 1000, api.MaxLine} {
		for n := range 2 {
			expect(t, "too many bytes", d.Write(n, bytes.Repeat([]byte{'z'}, size)), api.ErrArg)
		}
	}
	expectSector(t, "as it was", d, 0, full('a'))
	expectSector(t, "still bad", d, 1, nil)
	if d.Waits() != 1 {
		t.Errorf("Waits = %d", d.Waits())
	}
}

func TestNoSuchSector(t *testing.T) {
	for _, sectors := range []int{1, 2, 5} {
		d := newDisk(t, sectors)
		for i := range sectors {
			put(t, d, i, full('a'))
		}
		for _, n := range notThere(sectors) {
			expect(t, "Write", d.Write(n, []byte("b")), api.ErrArg)
			expect(t, "Write of nothing", d.Write(n, nil), api.ErrArg)
			expect(t, "Write of too much", d.Write(n, make([]byte, api.Sector+1)), api.ErrArg)
			expect(t, "Rot", d.Rot(n, 0, 1), api.ErrArg)
			expect(t, "Rot of no byte", d.Rot(n, api.Sector, 1), api.ErrArg)
			expect(t, "Bad", d.Bad(n), api.ErrArg)
			if b, e := d.Read(n); b != nil || e != api.ErrArg {
				t.Errorf("Read(%d) = %v, %d", n, b, e)
			}
		}
		if d.Waits() != sectors || d.Len() != sectors {
			t.Errorf("%d sectors: Len %d, Waits %d", sectors, d.Len(), d.Waits())
		}
		for i := range sectors {
			expectSector(t, "as it was", d, i, full('a'))
			expectSector(t, "as it was, and failed", left(t, d, math.MaxUint64, -1), i, full('a'))
		}
	}
}

func TestReadAsWrittenLast(t *testing.T) {
	d := newDisk(t, 2)
	for c := range byte(200) {
		put(t, d, int(c%2), full(c))
		if c%7 == 0 {
			expect(t, "Sync", d.Sync(), api.OK)
		}
		expectSector(t, "the newest", d, int(c%2), full(c))
		if c > 0 {
			expectSector(t, "the other", d, int(1-c%2), full(c-1))
		}
	}
}

func TestSyncMakesDurable(t *testing.T) {
	d := newDisk(t, 2)
	expect(t, "Sync of nothing", d.Sync(), api.OK)
	put(t, d, 0, full('a'))
	put(t, d, 0, full('b'))
	expectSector(t, "not durable yet", left(t, d, 0, -1), 0, full(0))
	expect(t, "Sync", d.Sync(), api.OK)
	if d.Waits() != 0 {
		t.Errorf("Waits = %d", d.Waits())
	}
	for range 2 {
		expectSector(t, "seen", d, 0, full('b'))
		expectSector(t, "durable", left(t, d, 0, 0), 0, full('b'))
		expect(t, "Sync again", d.Sync(), api.OK)
	}
	put(t, d, 1, full('c'))
	expectSector(t, "behind Sync", left(t, d, 0, -1), 1, full(0))
	expectSector(t, "behind Sync, the other sector", left(t, d, 0, -1), 0, full('b'))
}

// TestIndexStartsAgain: after Sync the oldest pending write has the index 0 again.
func TestIndexStartsAgain(t *testing.T) {
	d := newDisk(t, 2)
	for range 5 {
		put(t, d, 0, full('a'))
	}
	expect(t, "Sync", d.Sync(), api.OK)
	put(t, d, 0, full('b'))
	put(t, d, 1, full('c'))
	x := left(t, d, 1, -1)
	expectSector(t, "index 0", x, 0, full('b'))
	expectSector(t, "index 1", x, 1, full(0))
	x = left(t, d, 0, 1)
	expectSector(t, "index 0", x, 0, full('a'))
	expectSector(t, "index 1, torn", x, 1, halves('c', 0))
}

// P3.3

// threeWrites has a durable sector, and three pending writes, two of them to that sector.
func threeWrites(t *testing.T) *disks.Disk {
	d := newDisk(t, 3)
	put(t, d, 0, full('a'))
	expect(t, "Sync", d.Sync(), api.OK)
	put(t, d, 0, full('b'))
	put(t, d, 1, full('c'))
	put(t, d, 0, full('d'))
	return d
}

func TestFailKeepsAnySubset(t *testing.T) {
	d := threeWrites(t)
	zero := []byte{'a', 'b', 'a', 'b', 'd', 'd', 'd', 'd'}
	for keep := range uint64(8) {
		one := byte(0)
		if keep&2 != 0 {
			one = 'c'
		}
		// Bits of writes that are not there say nothing.
		for _, more := range []uint64{0, 8, 1 << 63, math.MaxUint64 &^ 7} {
			x := left(t, d, keep|more, -1)
			expectSector(t, "kept", x, 0, full(zero[keep]))
			expectSector(t, "kept", x, 1, full(one))
			expectSector(t, "never written", x, 2, full(0))
		}
	}
}

// TestFailTears: the torn write is the same whether it is kept or not, and what is below it, or comes after it, is as it is by then.
func TestFailTears(t *testing.T) {
	d := threeWrites(t)
	for _, c := range []struct {
		keep uint64
		torn int
		zero []byte
		one  []byte
	}{
		{0, 0, halves('b', 'a'), full(0)},
		{1, 0, halves('b', 'a'), full(0)},
		{4, 0, full('d'), full(0)},
		{5, 0, full('d'), full(0)},
		{7, 0, full('d'), full('c')},
		{0, 1, full('a'), halves('c', 0)},
		{2, 1, full('a'), halves('c', 0)},
		{7, 1, full('d'), halves('c', 0)},
		{0, 2, halves('d', 'a'), full(0)},
		{4, 2, halves('d', 'a'), full(0)},
		{1, 2, halves('d', 'b'), full(0)},
		{3, 2, halves('d', 'b'), full('c')},
		{7, 2, halves('d', 'b'), full('c')},
	} {
		x := left(t, d, c.keep, c.torn)
		expectSector(t, "torn", x, 0, c.zero)
		expectSector(t, "torn", x, 1, c.one)
		expectSector(t, "never written", x, 2, full(0))
	}
}

func TestFailTearsNone(t *testing.T) {
	d := threeWrites(t)
	for _, torn := range []int{-1, -2, -64, 3, 4, 64, 65, 66, math.MinInt, math.MaxInt, math.MinInt32} {
		x := left(t, d, 7, torn)
		expectSector(t, "all kept", x, 0, full('d'))
		expectSector(t, "all kept", x, 1, full('c'))
		x = left(t, d, 0, torn)
		expectSector(t, "none kept", x, 0, full('a'))
		expectSector(t, "none kept", x, 1, full(0))
	}
	none := newDisk(t, 1)
	for _, torn := range []int{-1, 0, 1} {
		expectSector(t, "nothing pending", left(t, none, math.MaxUint64, torn), 0, full(0))
	}
}

// TestFailTearsShortWrites: zeros of a short write are bytes of it too.
func TestFailTearsShortWrites(t *testing.T) {
	for _, size := range []int{0, 1, half - 1, half, half + 1, api.Sector} {
		d := newDisk(t, 1)
		put(t, d, 0, full('x'))
		expect(t, "Sync", d.Sync(), api.OK)
		b := full('y')[:size]
		put(t, d, 0, b)
		want := append(padded(b)[:half], full('x')[half:]...)
		expectSector(t, "torn", left(t, d, 0, 0), 0, want)
	}
}

// TestFailOfManyWrites: the bits of keep are used again after 64 writes, torn names one write alone.
func TestFailOfManyWrites(t *testing.T) {
	const many = 200
	d := newDisk(t, many)
	for i := range many {
		put(t, d, i, full(byte(i+1)))
	}
	if d.Waits() != many {
		t.Errorf("Waits = %d", d.Waits())
	}
	for _, keep := range []uint64{0, 1, 2, 1 << 63, 0xdeadbeef12345678, math.MaxUint64} {
		for _, torn := range []int{-1, 0, 6, 63, 64, 70, 128, many - 1, many} {
			x := left(t, d, keep, torn)
			for i := range many {
				want := full(0)
				if keep&(1<<(i%64)) != 0 {
					want = full(byte(i + 1))
				}
				if i == torn {
					want = halves(byte(i+1), 0)
				}
				expectSector(t, "many", x, i, want)
			}
		}
	}
}

// TestFailOfManyWritesToOneSector: of those with the same bit the last one is on top.
func TestFailOfManyWritesToOneSector(t *testing.T) {
	d := newDisk(t, 1)
	for i := range 130 {
		put(t, d, 0, full(byte(i+1)))
	}
	for _, c := range []struct {
		keep uint64
		torn int
		want []byte
	}{
		{0, -1, full(0)},
		{1, -1, full(129)},
		{2, -1, full(130)},
		{4, -1, full(67)},
		{1 << 63, -1, full(128)},
		{1, 128, halves(129, 65)},
		{4, 129, halves(130, 67)},
		{4, 2, full(67)},
		{0, 2, halves(3, 0)},
		{2, 1, full(130)},
	} {
		expectSector(t, "many", left(t, d, c.keep, c.torn), 0, c.want)
	}
}

func TestFailChangesNothing(t *testing.T) {
	d := threeWrites(t)
	expect(t, "Bad", d.Bad(2), api.OK)
	for range 3 {
		for keep := range uint64(8) {
			for torn := -1; torn < 4; torn++ {
				left(t, d, keep, torn)
			}
		}
		if d.Waits() != 3 || d.Len() != 3 {
			t.Errorf("Waits %d, Len %d", d.Waits(), d.Len())
		}
		expectSector(t, "seen", d, 0, full('d'))
		expectSector(t, "seen", d, 1, full('c'))
		expectSector(t, "seen", d, 2, nil)
		expectSector(t, "durable", left(t, d, 0, -1), 0, full('a'))
		expectSector(t, "durable", left(t, d, 0, -1), 2, nil)
	}
}

// P3.4

func TestRotEachByte(t *testing.T) {
	for at := range api.Sector {
		for _, by := range []byte{0, 1, 2, 128, 255} {
			d := newDisk(t, 2)
			put(t, d, 0, full('a'))
			put(t, d, 1, full('b'))
			expect(t, "Sync", d.Sync(), api.OK)
			expect(t, "Rot", d.Rot(0, at, by), api.OK)
			want := full('a')
			want[at] ^= by
			expectSector(t, "turned", d, 0, want)
			expectSector(t, "turned durably", left(t, d, 0, -1), 0, want)
			expectSector(t, "the other sector", d, 1, full('b'))
			expect(t, "Rot back", d.Rot(0, at, by), api.OK)
			expectSector(t, "turned back", d, 0, full('a'))
		}
	}
}

func TestRotOfNoSuchByte(t *testing.T) {
	d := newDisk(t, 2)
	put(t, d, 0, full('a'))
	for _, at := range []int{-1, -api.Sector, api.Sector, api.Sector + 1, math.MinInt, math.MaxInt, math.MinInt32} {
		for n := range 2 {
			expect(t, "Rot", d.Rot(n, at, 1), api.ErrArg)
		}
	}
	expectSector(t, "as it was", d, 0, full('a'))
	expectSector(t, "as it was", d, 1, full(0))
	expectSector(t, "as it was, pending", left(t, d, 1, -1), 0, full('a'))
}

// turned is b with a byte combined.
func turned(b []byte, at int, by byte) []byte {
	out := bytes.Clone(b)
	out[at] ^= by
	return out
}

// TestRotWhileWritesArePending: whichever write is on top, kept or torn, the byte is turned once.
func TestRotWhileWritesArePending(t *testing.T) {
	for _, at := range []int{0, half - 1, half, api.Sector - 1} {
		d := threeWrites(t)
		expect(t, "Rot", d.Rot(0, at, 5), api.OK)
		if d.Waits() != 3 {
			t.Errorf("Waits = %d", d.Waits())
		}
		expectSector(t, "seen", d, 0, turned(full('d'), at, 5))
		expectSector(t, "seen, the other sector", d, 1, full('c'))
		for _, c := range []struct {
			keep uint64
			torn int
			want []byte
		}{
			{0, -1, full('a')},
			{1, -1, full('b')},
			{4, -1, full('d')},
			{7, -1, full('d')},
			{0, 0, halves('b', 'a')},
			{1, 2, halves('d', 'b')},
			{0, 2, halves('d', 'a')},
		} {
			x := left(t, d, c.keep, c.torn)
			expectSector(t, "left", x, 0, turned(c.want, at, 5))
			expectSector(t, "left, never written", x, 2, full(0))
		}
		expectSector(t, "kept, the other sector", left(t, d, 2, -1), 1, full('c'))
		// What is written afterwards is not turned.
		put(t, d, 0, full('e'))
		expectSector(t, "written", d, 0, full('e'))
		expectSector(t, "written and kept", left(t, d, 8, -1), 0, full('e'))
		expectSector(t, "written and torn", left(t, d, 0, 3), 0, turnedBelow(at))
	}
}

// turnedBelow is a torn e over an a that was turned at that byte.
func turnedBelow(at int) []byte {
	return append(full('e')[:half], turned(full('a'), at, 5)[half:]...)
}

func TestRotOfABadSector(t *testing.T) {
	d := newDisk(t, 1)
	expect(t, "Bad", d.Bad(0), api.OK)
	expect(t, "Rot", d.Rot(0, 3, 9), api.OK)
	expect(t, "Rot of no byte", d.Rot(0, api.Sector, 9), api.ErrArg)
	expectSector(t, "still bad", d, 0, nil)
	expectSector(t, "still bad", left(t, d, 0, -1), 0, nil)
	put(t, d, 0, full('a'))
	expectSector(t, "written", d, 0, full('a'))
}

// TestBad: neither Sync nor failing makes a sector good, and other sectors stay as they are.
func TestBad(t *testing.T) {
	d := newDisk(t, 3)
	put(t, d, 1, full('a'))
	expect(t, "Bad", d.Bad(1), api.OK)
	expect(t, "Bad again", d.Bad(1), api.OK)
	for range 2 {
		expectSector(t, "bad", d, 1, nil)
		expectSector(t, "good", d, 0, full(0))
		expectSector(t, "good", d, 2, full(0))
		x := left(t, d, math.MaxUint64, -1)
		expectSector(t, "bad, all kept", x, 1, nil)
		expectSector(t, "good, all kept", x, 2, full(0))
		expectSector(t, "bad, none kept", left(t, d, 0, -1), 1, nil)
		expectSector(t, "bad, and failed twice", left(t, left(t, d, 0, 0), 0, -1), 1, nil)
		expect(t, "Sync", d.Sync(), api.OK)
	}
	if d.Waits() != 0 || d.Len() != 3 {
		t.Errorf("Waits %d, Len %d", d.Waits(), d.Len())
	}
}

// TestBadIsNoWrite: it is durable at once, and takes no index.
func TestBadIsNoWrite(t *testing.T) {
	d := newDisk(t, 2)
	expect(t, "Bad", d.Bad(0), api.OK)
	expect(t, "Rot", d.Rot(1, 0, 1), api.OK)
	if d.Waits() != 0 {
		t.Errorf("Waits = %d", d.Waits())
	}
	put(t, d, 1, full('a'))
	expectSector(t, "index 0", left(t, d, 1, -1), 1, full('a'))
}

// TestBadAndWrittenAgain: a write before Bad, one between, one after it.
func TestBadAndWrittenAgain(t *testing.T) {
	d := newDisk(t, 2)
	put(t, d, 0, full('a'))
	expect(t, "Bad", d.Bad(0), api.OK)
	put(t, d, 0, full('b'))
	put(t, d, 0, full('c'))
	put(t, d, 1, full('d'))
	expectSector(t, "written again", d, 0, full('c'))
	for _, c := range []struct {
		keep uint64
		torn int
		want []byte
	}{
		{0, -1, nil},
		{1, -1, nil},
		{8, -1, nil},
		{9, -1, nil},
		{2, -1, full('b')},
		{3, -1, full('b')},
		{4, -1, full('c')},
		{7, -1, full('c')},
		{2, 0, full('b')},
		{0, 1, nil},
		{2, 1, nil},
		{3, 1, nil},
		{4, 1, full('c')},
		{0, 2, nil},
		{5, 2, nil},
		{2, 2, halves('c', 'b')},
		{7, 2, halves('c', 'b')},
	} {
		x := left(t, d, c.keep, c.torn)
		expectSector(t, "left", x, 0, c.want)
		// A bad one that is left is written again as well.
		put(t, x, 0, full('e'))
		expectSector(t, "left, and written", x, 0, full('e'))
	}
	expect(t, "Sync", d.Sync(), api.OK)
	expectSector(t, "good durably", left(t, d, 0, -1), 0, full('c'))
}

// TestBadTwice: a write between two of them does not help, though it comes after the first one.
func TestBadTwice(t *testing.T) {
	d := newDisk(t, 1)
	expect(t, "Bad", d.Bad(0), api.OK)
	put(t, d, 0, full('a'))
	expect(t, "Bad", d.Bad(0), api.OK)
	expectSector(t, "bad again", d, 0, nil)
	expectSector(t, "kept", left(t, d, 1, -1), 0, nil)
	put(t, d, 0, full('b'))
	expectSector(t, "written", d, 0, full('b'))
	expectSector(t, "the one between kept", left(t, d, 1, -1), 0, nil)
	expectSector(t, "the one between kept, the other torn", left(t, d, 1, 1), 0, nil)
	expectSector(t, "the other one kept", left(t, d, 2, -1), 0, full('b'))
}

// TestBadBeforeSync: a write after Sync comes after Bad.
func TestBadBeforeSync(t *testing.T) {
	d := newDisk(t, 1)
	put(t, d, 0, full('a'))
	expect(t, "Bad", d.Bad(0), api.OK)
	expect(t, "Sync", d.Sync(), api.OK)
	put(t, d, 0, full('b'))
	expectSector(t, "kept", left(t, d, 1, -1), 0, full('b'))
	expectSector(t, "not kept", left(t, d, 0, -1), 0, nil)
	expectSector(t, "torn", left(t, d, 1, 0), 0, nil)
}

// TestBadWhileOthersArePending: writes to other sectors are kept as before.
func TestBadWhileOthersArePending(t *testing.T) {
	d := threeWrites(t)
	expect(t, "Bad", d.Bad(1), api.OK)
	x := left(t, d, 7, -1)
	expectSector(t, "kept", x, 0, full('d'))
	expectSector(t, "bad", x, 1, nil)
	expect(t, "Bad", d.Bad(0), api.OK)
	put(t, d, 1, full('e'))
	x = left(t, d, 15, -1)
	expectSector(t, "bad", x, 0, nil)
	expectSector(t, "kept", x, 1, full('e'))
}

// P3.5

func TestLenAndWaits(t *testing.T) {
	d := newDisk(t, 7)
	for i := range 300 {
		if d.Len() != 7 || d.Waits() != i {
			t.Fatalf("after %d writes: Len %d, Waits %d", i, d.Len(), d.Waits())
		}
		put(t, d, i%7, full('a'))
		if _, e := d.Read(i % 7); e != api.OK {
			t.Fatal(e)
		}
	}
	expect(t, "Sync", d.Sync(), api.OK)
	if d.Len() != 7 || d.Waits() != 0 {
		t.Errorf("after Sync: Len %d, Waits %d", d.Len(), d.Waits())
	}
}

// P3.6

// expectSame asks that two disks read alike.
func expectSame(t *testing.T, what string, d, want *disks.Disk) {
	t.Helper()
	if d.Len() != want.Len() {
		t.Fatalf("%s: %d sectors, want %d", what, d.Len(), want.Len())
	}
	for n := range d.Len() {
		b, e := want.Read(n)
		gotB, gotE := d.Read(n)
		if !bytes.Equal(gotB, b) || gotE != e {
			t.Errorf("%s: sector %d is %q, %d; want %q, %d", what, n, gotB, gotE, b, e)
		}
	}
}

func TestConsequences(t *testing.T) {
	for seed := range uint32(200) {
		d := newDisk(t, 4)
		d = actAll(d, nil, byteRun(60, seed))
		expectSame(t, "all kept", left(t, d, math.MaxUint64, -1), d)
		expect(t, "Sync", d.Sync(), api.OK)
		synced := left(t, d, 0, -1)
		expectSame(t, "durable", synced, d)
		for i, c := range byteRun(100, seed) {
			put(t, d, int(c%4), full(byte(i)))
		}
		expectSame(t, "all kept", left(t, d, math.MaxUint64, -1), d)
		expectSame(t, "none kept", left(t, d, 0, -1), synced)
		x := left(t, d, uint64(seed)*0x9e3779b97f4a7c15, int(seed%120)-10)
		y := x
		for again := range 5 {
			y = left(t, y, uint64(again), again-1)
			expectSame(t, "failed again", y, x)
		}
	}
}

// R1, R2, R3

func TestDiskThatDoesNotExist(t *testing.T) {
	for _, d := range []*disks.Disk{nil, new(disks.Disk), {}} {
		for _, n := range []int{0, 1, -1, math.MaxInt, math.MinInt} {
			expect(t, "Write", d.Write(n, []byte("a")), api.ErrNil)
			expect(t, "Write of too much", d.Write(n, make([]byte, 65)), api.ErrNil)
			expect(t, "Rot", d.Rot(n, 0, 1), api.ErrNil)
			expect(t, "Rot of no byte", d.Rot(n, -1, 1), api.ErrNil)
			expect(t, "Bad", d.Bad(n), api.ErrNil)
			expect(t, "Sync", d.Sync(), api.ErrNil)
			if b, e := d.Read(n); b != nil || e != api.ErrNil {
				t.Errorf("Read(%d) = %v, %d", n, b, e)
			}
			if x, e := d.Fail(math.MaxUint64, n); x != nil || e != api.ErrNil {
				t.Errorf("Fail(.., %d) = %v, %d", n, x, e)
			}
			if d.Len() != 0 || d.Waits() != 0 {
				t.Errorf("Len %d, Waits %d", d.Len(), d.Waits())
			}
		}
	}
}
