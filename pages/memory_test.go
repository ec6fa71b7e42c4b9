package pages_test

import (
	"bytes"
	"fmt"
	"testing"
	"unsafe"

	"drydock/api"
	"drydock/pages"
)

// spoil overwrites a list and its spare capacity.
func spoil(b []byte) {
	b = b[:cap(b)]
	for i := range b {
		b[i] = ^b[i]
	}
}

// roomy is b with spare capacity behind it, which is not zeros.
func roomy(b []byte, spare int) []byte {
	whole := append(bytes.Clone(b), byteRun(spare, 99)...)
	return whole[:len(b)]
}

// meet reports whether two lists have memory in common, their spare capacities included.
func meet(a, b []byte) bool {
	if cap(a) == 0 || cap(b) == 0 {
		return false
	}
	fromA, fromB := uintptr(unsafe.Pointer(unsafe.SliceData(a))), uintptr(unsafe.Pointer(unsafe.SliceData(b)))
	return fromA < fromB+uintptr(cap(b)) && fromB < fromA+uintptr(cap(a))
}

// expectApart asks that no two lists have memory in common.
func expectApart(t *testing.T, what string, lists ...[]byte) {
	t.Helper()
	for i, a := range lists {
		for j, b := range lists[:i] {
			if meet(a, b) {
				t.Errorf("%s: the lists %d and %d share memory", what, j, i)
			}
		}
	}
}

// TestNoCallChangesAnArgument: R4, spare capacity included, whether the call succeeds or not.
func TestNoCallChangesAnArgument(t *testing.T) {
	for _, spare := range []int{0, 1, 16, 300} {
		for _, body := range append(someBodies(), byteRun(241, 1), byteRun(1000, 1)) {
			given := roomy(body, spare)
			before := bytes.Clone(given[:cap(given)])
			pages.Put(1, 2, given)
			pages.Write(newTeller(8), 1, 2, given)
			pages.Write(newTeller(7), 1, 2, given)
			pages.Write(&spoiler{newTeller(8)}, 1, 2, given)
			pages.Write(nil, 1, 2, given)
			if !bytes.Equal(given[:cap(given)], before) {
				t.Errorf("%d bytes, %d spare: changed", len(body), spare)
			}
			page := plainPut(1, 2, body)
			for _, b := range [][]byte{page, page[:255], flipped(page, 12, 1), flipped(page, 255, 1), make([]byte, 256)} {
				given := roomy(b, spare)
				before := bytes.Clone(given[:cap(given)])
				pages.Get(1, given)
				pages.Get(2, given)
				if !bytes.Equal(given[:cap(given)], before) {
					t.Errorf("%d bytes, %d spare: Get changed them", len(body), spare)
				}
			}
		}
	}
}

// TestPutSharesNothing: R4, neither with the body nor with another result.
func TestPutSharesNothing(t *testing.T) {
	for _, spare := range []int{0, 16, 300} {
		for _, body := range someBodies() {
			given, want := roomy(body, spare), plainPut(1, 2, body)
			first, _ := pages.Put(1, 2, given)
			second, _ := pages.Put(1, 2, given)
			expectApart(t, "Put", given, first, second)
			spoil(first)
			expectPut(t, 1, 2, given)
			spoil(given)
			if !bytes.Equal(second, want) {
				t.Errorf("%d bytes: the page follows the body, or another page", len(body))
			}
		}
	}
}

// TestGetSharesNothing: R4, neither with the bytes nor with another result.
func TestGetSharesNothing(t *testing.T) {
	for _, spare := range []int{0, 300} {
		for _, body := range someBodies() {
			b := roomy(plainPut(1, 2, body), spare)
			_, first, _ := pages.Get(1, b)
			_, second, _ := pages.Get(1, b)
			expectApart(t, "Get", b, first, second)
			spoil(first)
			expectGet(t, "behind another result", 1, b, 2, body)
			spoil(b)
			if !bytes.Equal(second, body) {
				t.Errorf("%d bytes: the body follows the page, or another body", len(body))
			}
		}
	}
}

// TestSpareCapacityIsNotOfTheList: neither as a body nor as a page.
func TestSpareCapacityIsNotOfTheList(t *testing.T) {
	for _, body := range someBodies() {
		expectPut(t, 1, 2, roomy(body, 300))
		b := plainPut(1, 2, body)
		expectGet(t, "with spare capacity", 1, roomy(b, 300), 2, body)
		for _, size := range []int{0, 15, 16, 16 + len(body)/2, 255} {
			expectNoGet(t, "what is missing is spare capacity", 1, b[:size], api.ErrForm)
		}
	}
}

// keeper is a disk that keeps the lists that it is handed, and hands them out again.
type keeper struct{ sectors [8][]byte }

func (d *keeper) Len() int                       { return len(d.sectors) }
func (d *keeper) Read(n int) ([]byte, api.Errno) { return d.sectors[n], api.OK }

func (d *keeper) Write(n int, b []byte) api.Errno {
	d.sectors[n] = b
	return api.OK
}

// TestWriteHandsOutNewMemory: R4, what a disk is handed is neither the body, nor within reach of another sector.
func TestWriteHandsOutNewMemory(t *testing.T) {
	for _, body := range someBodies() {
		d, given := &keeper{}, roomy(body, 100)
		expectWrite(t, "kept", d, 0, 1, given, api.OK)
		expectWrite(t, "kept", d, 1, 1, given, api.OK)
		expectApart(t, "Write", append(d.sectors[:], given)...)
		for n, b := range d.sectors {
			if len(b) != 64 {
				t.Errorf("%d bytes for the sector %d", len(b), n)
			}
		}
		spoil(given)
		for num := range uint32(2) {
			expectRead(t, "behind a change of the argument", d, num, 1, body)
		}
	}
}

// spoiler is a disk that overwrites what it is handed, with the spare capacity, once it has a copy.
type spoiler struct{ *teller }

func (d *spoiler) Write(n int, b []byte) api.Errno {
	e := d.teller.Write(n, b)
	spoil(b)
	return e
}

// TestWriteToADiskThatSpoils: what it does with one sector reaches no other.
func TestWriteToADiskThatSpoils(t *testing.T) {
	for _, body := range someBodies() {
		d, given := &spoiler{newTeller(8)}, roomy(body, 100)
		expectWrite(t, "spoiled", d, 1, 3, given, api.OK)
		if want := plainPut(1, 3, body); !bytes.Equal(d.whole()[256:], want) || !bytes.Equal(given, body) {
			t.Errorf("%x, want %x", d.whole()[256:], want)
		}
	}
}

// TestReadSharesNothing: R4, neither with the disk nor with another result; nor does it change what the disk hands out.
func TestReadSharesNothing(t *testing.T) {
	for _, body := range someBodies() {
		d, page := &keeper{}, plainPut(1, 3, body)
		for i := range 4 {
			d.sectors[4+i] = roomy(page[64*i:64*i+64], 64)
		}
		before := make([][]byte, 8)
		for n, b := range d.sectors {
			before[n] = bytes.Clone(b[:cap(b)])
		}
		_, first, _ := pages.Read(d, 1)
		_, second, _ := pages.Read(d, 1)
		expectApart(t, "Read", append(d.sectors[:], first, second)...)
		spoil(first)
		for n, b := range d.sectors {
			if !bytes.Equal(b[:cap(b)], before[n]) {
				t.Errorf("%d bytes: the sector %d was changed", len(body), n)
			}
			spoil(b)
		}
		if !bytes.Equal(second, body) {
			t.Errorf("%d bytes: the body follows the disk, or another body", len(body))
		}
	}
}

// oneList is a disk that hands out the same list each time, with other bytes in it.
type oneList struct {
	*teller
	list [64]byte
}

func (d *oneList) Read(n int) ([]byte, api.Errno) {
	b, e := d.teller.Read(n)
	copy(d.list[:], b)
	return d.list[:], e
}

// TestReadOfADiskWithOneList: what was handed out before is no longer there.
func TestReadOfADiskWithOneList(t *testing.T) {
	for _, body := range someBodies() {
		d := &oneList{teller: newTeller(8)}
		for num := range uint32(2) {
			expectWrite(t, "one list", d, num, 4, body, api.OK)
		}
		_, first, _ := pages.Read(d, 0)
		expectRead(t, "one list", d, 1, 4, body)
		if !bytes.Equal(first, body) {
			t.Errorf("%d bytes: changed by a later call", len(body))
		}
	}
}

// TestEmptyAndNilAreTheSame: R4.
func TestEmptyAndNilAreTheSame(t *testing.T) {
	d := newDisk(t, 8)
	for _, none := range [][]byte{nil, {}, byteRun(9, 1)[:0]} {
		expectPut(t, 5, 6, none)
		expectWrite(t, "no bytes", d, 1, 6, none, api.OK)
		expectRead(t, "no bytes", d, 1, 6, nil)
		expectNoGet(t, "no bytes", 5, none, api.ErrForm)
	}
}

// TestSameCallSameResult: R5, nothing is left over from other calls, failed ones included.
func TestSameCallSameResult(t *testing.T) {
	d, body := newDisk(t, 16), []byte("the same")
	expectWrite(t, "first", d, 2, 9, body, api.OK)
	page := plainPut(2, 9, body)
	for i, other := range append(someBodies(), make([]byte, 241)) {
		b, _ := pages.Put(2, 9, other)
		pages.Get(2, b)
		pages.Get(3, b)
		pages.Write(d, 1, 9, other)
		pages.Write(d, 4, 9, other)
		pages.Write(nil, 2, 9, other)
		pages.Read(d, 1)
		pages.Read(d, 0)
		pages.Read(newDisk(t, 16), 2)
		what := fmt.Sprint("behind others, ", i)
		expectPut(t, 2, 9, body)
		expectGet(t, what, 2, page, 9, body)
		expectNoGet(t, what, 3, page, api.ErrForm)
		expectRead(t, what, d, 2, 9, body)
	}
}
