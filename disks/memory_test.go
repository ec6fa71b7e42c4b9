package disks_test

import (
	"bytes"
	"math"
	"testing"

	"drydock/api"
	"drydock/disks"
)

// spoil overwrites a slice and its spare capacity.
func spoil(b []byte) {
	b = b[:cap(b)]
	for i := range b {
		b[i] = ^b[i]
	}
}

// TestWriteChangesNoArgument: R4, the spare capacity included; and what stands there is not written.
func TestWriteChangesNoArgument(t *testing.T) {
	for _, size := range []int{0, 1, half, api.Sector - 1, api.Sector, api.Sector + 1} {
		for _, spare := range []int{0, 1, api.Sector} {
			whole := bytes.Repeat([]byte{'a'}, size+spare)
			before := bytes.Clone(whole)
			d := newDisk(t, 1)
			e := d.Write(0, whole[:size])
			if e == api.OK {
				expectSector(t, "written", d, 0, padded(before[:size]))
			}
			d.Rot(0, 0, 7)
			d.Sync()
			d.Bad(0)
			left(t, d, 1, 0)
			if !bytes.Equal(whole, before) {
				t.Errorf("%d bytes, %d spare: changed", size, spare)
			}
		}
	}
}

// TestWriteKeepsTheContentsOnly: what the caller does with its bytes later is not seen, whether the write is pending or durable.
func TestWriteKeepsTheContentsOnly(t *testing.T) {
	d := newDisk(t, 1)
	b := full('a')
	put(t, d, 0, b)
	spoil(b)
	expectSector(t, "seen", d, 0, full('a'))
	expectSector(t, "kept", left(t, d, 1, -1), 0, full('a'))
	expect(t, "Sync", d.Sync(), api.OK)
	expectSector(t, "durable", left(t, d, 0, -1), 0, full('a'))
}

func TestReadIsNewMemory(t *testing.T) {
	d := newDisk(t, 2)
	put(t, d, 0, full('a'))
	put(t, d, 1, full('b'))
	x := left(t, d, 3, -1)
	for _, disk := range []*disks.Disk{d, x} {
		one, _ := disk.Read(0)
		two, _ := disk.Read(0)
		spoil(one)
		if !bytes.Equal(two, full('a')) {
			t.Errorf("another result changed: %q", two)
		}
		put(t, disk, 0, two)
		spoil(two)
		for _, y := range []*disks.Disk{disk, left(t, disk, math.MaxUint64, -1)} {
			expectSector(t, "as it was", y, 0, full('a'))
			expectSector(t, "as it was", y, 1, full('b'))
		}
	}
	b, _ := d.Read(0)
	put(t, d, 0, full('c'))
	expect(t, "Rot", d.Rot(0, 0, 1), api.OK)
	if !bytes.Equal(b, full('a')) {
		t.Errorf("a result changed by a later call: %q", b)
	}
}

// change does all that changes a disk.
func change(t *testing.T, d *disks.Disk) {
	for n := range d.Len() {
		put(t, d, n, full('y'))
		expect(t, "Rot", d.Rot(n, 5, 200), api.OK)
		expect(t, "Sync", d.Sync(), api.OK)
		put(t, d, n, full('z'))
		expect(t, "Rot", d.Rot(n, 50, 100), api.OK)
	}
	expect(t, "Bad", d.Bad(d.Len()-1), api.OK)
}

// expectThreeWrites asks that a disk is as threeWrites made it, in all that can be seen of it.
func expectThreeWrites(t *testing.T, what string, d *disks.Disk) {
	t.Helper()
	if d.Waits() != 3 {
		t.Errorf("%s: Waits = %d", what, d.Waits())
	}
	expectSector(t, what, d, 0, full('d'))
	expectSector(t, what, d, 1, full('c'))
	expectSector(t, what, d, 2, full(0))
	expectSector(t, what, left(t, d, 0, -1), 0, full('a'))
	expectSector(t, what, left(t, d, 3, -1), 0, full('b'))
	expectSector(t, what, left(t, d, 7, -1), 0, full('d'))
	expectSector(t, what, left(t, d, 7, -1), 1, full('c'))
	expectSector(t, what, left(t, d, 0, -1), 2, full(0))
}

// TestFailIsIndependent: neither the disk that failed nor what is left shows what the other goes through, and two that are left don't either.
func TestFailIsIndependent(t *testing.T) {
	for _, keep := range []uint64{0, 5, 7} {
		for torn := -1; torn < 3; torn++ {
			d := threeWrites(t)
			x, y := left(t, d, keep, torn), left(t, d, keep, torn)
			change(t, x)
			expectThreeWrites(t, "after a change of what is left", d)
			expectSame(t, "what else is left", y, left(t, d, keep, torn))
			expectSame(t, "what else is durably left", left(t, y, 0, -1), left(t, d, keep, torn))
			change(t, d)
			expectSame(t, "after a change of the disk", y, left(t, threeWrites(t), keep, torn))
		}
	}
}

// TestDisksShareNothing: R5.
func TestDisksShareNothing(t *testing.T) {
	d, other := threeWrites(t), newDisk(t, 3)
	b := full('x')
	put(t, other, 0, b)
	put(t, d, 2, b)
	put(t, d, 2, nil)
	expect(t, "Sync", other.Sync(), api.OK)
	change(t, other)
	if d.Waits() != 5 {
		t.Errorf("Waits = %d", d.Waits())
	}
	expectSector(t, "seen", d, 0, full('d'))
	expectSector(t, "seen", d, 2, full(0))
	expectSector(t, "kept", left(t, d, 8, -1), 2, full('x'))
	expectSector(t, "durable", left(t, d, 0, -1), 0, full('a'))
}
