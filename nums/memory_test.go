package nums_test

import (
	"bytes"
	"slices"
	"testing"

	"drydock/api"
	"drydock/nums"
)

// puts are the calls that append, each with a few bytes to add.
func puts() map[string]func(b []byte) []byte {
	return map[string]func(b []byte) []byte{
		"PutFour":          func(b []byte) []byte { return nums.PutFour(b, 0xfedcba98) },
		"PutList of none":  func(b []byte) []byte { return nums.PutList(b, nil) },
		"PutList of three": func(b []byte) []byte { return nums.PutList(b, []int32{-1, 2, -3}) },
	}
}

// spoil overwrites a slice and its spare capacity.
func spoil[T byte | int32](l []T) {
	l = l[:cap(l)]
	for i := range l {
		l[i] = ^l[i]
	}
}

// TestPutChangesNoArgument: R4, the spare capacity of b included, whether what is added would fit there or not.
func TestPutChangesNoArgument(t *testing.T) {
	for name, put := range puts() {
		for _, size := range []int{0, 1, 5} {
			for _, spare := range []int{0, 1, 3, 4, 8, 16, 100} {
				whole := byteRun(size + spare)
				before := slices.Clone(whole)
				put(whole[:size])
				if !bytes.Equal(whole, before) {
					t.Errorf("%s: %d bytes, %d spare: changed to %v", name, size, spare, whole)
				}
			}
		}
	}
}

// TestPutSharesNothing: R4, what is written into a result, or into its spare capacity, reaches neither the argument nor another result.
func TestPutSharesNothing(t *testing.T) {
	for name, put := range puts() {
		for _, spare := range []int{0, 4, 100} {
			whole := byteRun(5 + spare)
			before := slices.Clone(whole)
			first := put(whole[:5])
			second := put(whole[:5])
			want := slices.Clone(second)
			spoil(first)
			if !bytes.Equal(whole, before) {
				t.Errorf("%s: %d spare: the result is the argument's memory", name, spare)
			}
			if !bytes.Equal(second, want) {
				t.Errorf("%s: %d spare: two results share memory", name, spare)
			}
			spoil(whole)
			if !bytes.Equal(second, want) {
				t.Errorf("%s: %d spare: the argument is the result's memory", name, spare)
			}
		}
	}
}

// TestPutOnOneBeginning: two that are put behind the same result stay apart, because its spare capacity is not filled.
func TestPutOnOneBeginning(t *testing.T) {
	begin := nums.PutList([]byte{1}, []int32{2})
	a := nums.PutFour(begin, 3)
	b := nums.PutFour(begin, 4)
	if a[len(begin)] != 3 || b[len(begin)] != 4 {
		t.Errorf("%v and %v", a, b)
	}
}

func TestPutListKeepsTheList(t *testing.T) {
	whole := numberRun(12)
	before := slices.Clone(whole)
	b := nums.PutList(nil, whole[:7])
	want := slices.Clone(b)
	spoil(b)
	if !slices.Equal(whole, before) {
		t.Errorf("the list was changed to %v", whole)
	}
	b = nums.PutList(nil, whole[:7])
	spoil(whole)
	if !bytes.Equal(b, want) {
		t.Errorf("the bytes follow the list: %v", b)
	}
}

// TestGetChangesNoArgument: R4, for bytes that are read and for bytes that are refused.
func TestGetChangesNoArgument(t *testing.T) {
	for _, begin := range [][]byte{{}, {1, 2, 3}, countBytes(0), countBytes(2), countBytes(4), countBytes(api.MaxSize + 1)} {
		whole := append(slices.Clone(begin), byteRun(24)...)
		before := slices.Clone(whole)
		for size := range len(begin) + 9 {
			nums.GetFour(whole[:size])
			nums.GetList(whole[:size])
		}
		if !bytes.Equal(whole, before) {
			t.Errorf("%v: changed", begin)
		}
	}
}

func TestGetListSharesNothing(t *testing.T) {
	want := numberRun(9)
	b := nums.PutList(nil, want)
	first, _, _ := nums.GetList(b)
	second, _, _ := nums.GetList(b)
	spoil(first)
	if !slices.Equal(second, want) {
		t.Errorf("two results share memory: %v", second)
	}
	third, _, _ := nums.GetList(b)
	if !slices.Equal(third, want) {
		t.Errorf("a later result follows an earlier one: %v", third)
	}
	spoil(b)
	if !slices.Equal(second, want) {
		t.Errorf("the list follows the bytes: %v", second)
	}
}

// TestSameCallSameResult: R5, nothing is left over from other calls, failed ones included.
func TestSameCallSameResult(t *testing.T) {
	b := nums.PutList([]byte{8}, []int32{1, -2, 3})
	for _, l := range lists() {
		nums.PutList(byteRun(len(l)), l)
		nums.GetList(nums.PutList(nil, l))
		nums.GetList(byteRun(len(l)))
		if again := nums.PutList([]byte{8}, []int32{1, -2, 3}); !bytes.Equal(again, b) {
			t.Fatalf("behind %d numbers: %v", len(l), again)
		}
		if got, took, e := nums.GetList(b[1:]); !slices.Equal(got, []int32{1, -2, 3}) || took != 16 || e != api.OK {
			t.Fatalf("behind %d numbers: %v, %d, %d", len(l), got, took, e)
		}
	}
}

// FuzzGet: R1 and P1.3 for any bytes: no call panics, an error comes alone, and what is read gives the bytes again.
func FuzzGet(f *testing.F) {
	f.Add([]byte(nil))
	f.Add([]byte{1, 2, 3})
	f.Add([]byte{1, 0, 0, 0, 255, 255, 255, 255, 9})
	f.Add([]byte{1, 16, 0, 0})
	f.Add([]byte{0, 16, 0, 0, 1})
	f.Add([]byte{255, 255, 255, 255, 255})
	f.Fuzz(func(t *testing.T, b []byte) {
		n, e := nums.GetFour(b)
		switch {
		case e == api.OK:
			if !bytes.Equal(nums.PutFour(nil, n), b[:4]) {
				t.Errorf("GetFour(%v) = %d", b, n)
			}
		case e != api.ErrShort || n != 0 || len(b) >= 4:
			t.Errorf("GetFour(%v) = %d, %d", b, n, e)
		}
		l, took, e := nums.GetList(b)
		if e == api.OK {
			if len(l) > api.MaxSize || !bytes.Equal(nums.PutList(nil, l), b[:took]) {
				t.Errorf("GetList(%v) = %v, %d", b, l, took)
			}
		} else if e != api.ErrShort && e != api.ErrLimit || len(l) != 0 || took != 0 {
			t.Errorf("GetList(%v) = %v, %d, %d", b, l, took, e)
		}
	})
}
