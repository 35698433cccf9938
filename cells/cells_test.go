package cells_test

import (
	"math"
	"slices"
	"testing"

	"bilge/api"
	"bilge/cells"
)

// either is a cell of one of the two sorts.
type either interface{ bool | uint16 }

// reading and writing are the calls of one sort.
type (
	reading[T either] func(api.Window, []T, int, int) ([]T, api.Errno)
	writing[T either] func(api.Window, []T, int, []T) ([]T, api.Errno)
)

// bit and register are what stands in the cell of a number in these tests; beside are ones that differ from them everywhere.
func bit(k int) bool             { return k%3 == 0 }
func register(k int) uint16      { return uint16(40503*k + 258) }
func otherBit(k int) bool        { return !bit(k) }
func otherRegister(k int) uint16 { return ^register(k) }

// made makes so many cells.
func made[T either](n int, of func(int) T) []T {
	var l []T
	for k := range n {
		l = append(l, of(k))
	}
	return l
}

// far are numbers at the ends of int, and at those of other types.
var far = []int{
	math.MinInt, math.MinInt + 1, math.MinInt + 65536, -1 << 32, -1 << 31, -65537, -65536, -65535,
	65535, 65536, 65537, 131072, 1 << 31, 1 << 32, 1<<32 + 1, math.MaxInt - 65536, math.MaxInt - 1, math.MaxInt,
}

// wrongWindows may not be.
var wrongWindows = []api.Window{
	{From: -1}, {From: -1, Count: 3}, {From: 0, Count: -1}, {From: 3, Count: -1}, {From: 65536}, {From: 65535, Count: 2},
	{From: 65534, Count: 3}, {From: 65533, Count: 4}, {From: 1, Count: 65536}, {From: 0, Count: 65537},
	{From: math.MaxInt, Count: math.MaxInt}, {From: math.MinInt, Count: 3}, {From: math.MaxInt, Count: 3}, {From: 1 << 32, Count: 3},
	{From: 0, Count: math.MinInt}, {From: -3, Count: 3},
}

// smallWindows may be: some near 0, some that end at the last place, some without a place.
func smallWindows() []api.Window {
	var all []api.Window
	for _, from := range []int{0, 1, 5, 255, 65530, 65532, 65535} {
		for count := range 7 {
			if from+count <= 65536 {
				all = append(all, api.Window{From: from, Count: count})
			}
		}
	}
	return all
}

// wanted is what the document's words say of reading, place by place.
func wanted[T either](w api.Window, l []T, from, count int) ([]T, api.Errno) {
	if count < 1 {
		return nil, api.ErrArg
	}
	var told []T
	for at := from; at < from+count; at++ {
		if at < w.From || at >= w.From+w.Count {
			return nil, api.BadAddress
		}
		told = append(told, l[at-w.From])
	}
	return told, api.OK
}

// written is what they say of writing.
func written[T either](w api.Window, l []T, from int, with []T) ([]T, api.Errno) {
	if len(with) == 0 {
		return nil, api.ErrArg
	}
	told := append([]T(nil), l...)
	for k, v := range with {
		if from+k < w.From || from+k >= w.From+w.Count {
			return nil, api.BadAddress
		}
		told[from+k-w.From] = v
	}
	return told, api.OK
}

// same fails, if an answer is another one than what was asked for.
func same[T either](t *testing.T, what string, l []T, err api.Errno, want []T, wantErr api.Errno) {
	t.Helper()
	if err != wantErr || !slices.Equal(l, want) {
		t.Fatalf("%s: %v, %d, not %v, %d", what, l, err, want, wantErr)
	}
}

// refused fails, if a call answers anything but an error and no cells.
func refused[T either](t *testing.T, l []T, err, want api.Errno, about ...any) {
	t.Helper()
	if err != want || len(l) != 0 {
		t.Fatalf("%v: %v, %d, not error %d", about, l, err, want)
	}
}

// CE1: Bits and Words.

func TestExample(t *testing.T) {
	w, l := api.Window{From: 5, Count: 3}, []uint16{7, 8, 9}
	got, err := cells.Words(w, l, 6, 2)
	same(t, "Words 6, 2", got, err, []uint16{8, 9}, api.OK)
	got, err = cells.Words(w, l, 7, 2)
	same(t, "Words 7, 2", got, err, nil, api.BadAddress)
	bits, err := cells.Bits(w, []bool{true, false, true}, 6, 2)
	same(t, "Bits 6, 2", bits, err, []bool{false, true}, api.OK)
	bits, err = cells.Bits(w, []bool{true, false, true}, 7, 2)
	same(t, "Bits 7, 2", bits, err, nil, api.BadAddress)
}

func readsEach[T either](t *testing.T, read reading[T], of func(int) T) {
	for _, w := range smallWindows() {
		l := made(w.Count, of)
		for from := w.From - 3; from <= w.From+w.Count+3; from++ {
			for count := -2; count <= w.Count+2; count++ {
				got, err := read(w, l, from, count)
				want, wantErr := wanted(w, l, from, count)
				same(t, "read", got, err, want, wantErr)
			}
		}
	}
}

func TestReadsEachWindow(t *testing.T) {
	readsEach(t, cells.Bits, bit)
	readsEach(t, cells.Words, register)
}

func readsWhole[T either](t *testing.T, read reading[T], of func(int) T) {
	w := api.Window{From: 0, Count: 65536}
	l := made(w.Count, of)
	got, err := read(w, l, 0, 65536)
	same(t, "all places", got, err, l, api.OK)
	got, err = read(w, l, 65535, 1)
	same(t, "the last place", got, err, l[65535:], api.OK)
	got, err = read(w, l, 0, 65535)
	same(t, "all but the last one", got, err, l[:65535], api.OK)
	for _, asked := range [][2]int{{0, 65537}, {1, 65536}, {65535, 2}, {65536, 1}, {-1, 1}, {-1, 65537}, {-1, 2}} {
		got, err = read(w, l, asked[0], asked[1])
		refused(t, got, err, api.BadAddress, asked)
	}
}

func TestReadsAllPlaces(t *testing.T) {
	readsWhole(t, cells.Bits, bit)
	readsWhole(t, cells.Words, register)
}

func readsNotOthers[T either](t *testing.T, read reading[T], of func(int) T) {
	w := api.Window{From: 5, Count: 3}
	for _, n := range []int{0, 1, 2, 4, 5, 8} { // not as many cells as there are places
		got, err := read(w, made(n, of), 6, 1)
		refused(t, got, err, api.ErrArg, n)
		got, err = read(w, made(n, of), 60, 1) // ahead of BadAddress
		refused(t, got, err, api.ErrArg, n)
	}
	got, err := read(api.Window{From: 5}, made(1, of), 5, 1)
	refused(t, got, err, api.ErrArg, "a window without a place, and one cell")
	for _, wrong := range wrongWindows {
		n := min(max(wrong.Count, 0), 65537)
		got, err = read(wrong, made(n, of), wrong.From, 1)
		refused(t, got, err, api.ErrArg, wrong)
		got, err = read(wrong, nil, wrong.From, 1)
		refused(t, got, err, api.ErrArg, wrong)
	}
	for _, count := range []int{0, -1, -2, math.MinInt, math.MinInt + 6} {
		for _, from := range []int{4, 5, 7, 8, -1, math.MinInt, math.MaxInt} { // ahead of BadAddress
			got, err = read(w, made(3, of), from, count)
			refused(t, got, err, api.ErrArg, from, count)
		}
	}
}

func TestReadsNoOtherCells(t *testing.T) {
	readsNotOthers(t, cells.Bits, bit)
	readsNotOthers(t, cells.Words, register)
}

func readsFar[T either](t *testing.T, read reading[T], of func(int) T) {
	w := api.Window{From: 5, Count: 3}
	for _, n := range far {
		got, err := read(w, made(3, of), n, 1)
		refused(t, got, err, api.BadAddress, n)
		for _, count := range far {
			if count < 1 {
				continue
			}
			for _, from := range []int{n, 5, 7, -1, 0} {
				got, err = read(w, made(3, of), from, count)
				refused(t, got, err, api.BadAddress, from, count)
			}
		}
	}
}

func TestReadsNothingFarAway(t *testing.T) {
	readsFar(t, cells.Bits, bit)
	readsFar(t, cells.Words, register)
}

func readsFresh[T either](t *testing.T, read reading[T], of, other func(int) T) {
	w := api.Window{From: 5, Count: 3}
	whole := made(8, of)
	l := whole[2:5] // with cells ahead and behind that are none of the window's
	got, err := read(w, l, 5, 3)
	same(t, "read", got, err, made(8, of)[2:5], api.OK)
	for k := range got {
		got[k] = other(k + 2)
	}
	if !slices.Equal(whole, made(8, of)) {
		t.Errorf("what was told is memory of what was handed in: %v", whole)
	}
	got, _ = read(w, l, 6, 1)
	beyond := got[:cap(got)]
	for k := range beyond {
		beyond[k] = other(k + 3)
	}
	if !slices.Equal(whole, made(8, of)) {
		t.Errorf("behind what was told stands what was handed in: %v", whole)
	}
	got, err = read(api.Window{From: 5, Count: 4}, l, 5, 4) // whole has a fourth one, but l has not
	refused(t, got, err, api.ErrArg, "behind the length")
}

func TestReadsIntoNewMemory(t *testing.T) {
	readsFresh(t, cells.Bits, bit, otherBit)
	readsFresh(t, cells.Words, register, otherRegister)
}

// CE2: SetBits, SetWords and Mask.

func TestSetExample(t *testing.T) {
	w := api.Window{From: 5, Count: 3}
	got, err := cells.SetWords(w, []uint16{7, 8, 9}, 6, []uint16{1, 2})
	same(t, "SetWords at 6", got, err, []uint16{7, 1, 2}, api.OK)
	got, err = cells.SetWords(w, []uint16{7, 8, 9}, 7, []uint16{1, 2})
	same(t, "SetWords at 7", got, err, nil, api.BadAddress)
	bits, err := cells.SetBits(w, []bool{true, true, false}, 5, []bool{false})
	same(t, "SetBits at 5", bits, err, []bool{false, true, false}, api.OK)
	bits, err = cells.SetBits(w, []bool{true, true, false}, 4, []bool{false})
	same(t, "SetBits at 4", bits, err, nil, api.BadAddress)
}

func writesEach[T either](t *testing.T, write writing[T], of, other func(int) T) {
	for _, w := range smallWindows() {
		l := made(w.Count, of)
		for from := w.From - 3; from <= w.From+w.Count+3; from++ {
			for count := range w.Count + 3 {
				with := made(count, func(k int) T { return other(from + k - w.From) })
				got, err := write(w, l, from, with)
				want, wantErr := written(w, l, from, with)
				same(t, "write", got, err, want, wantErr)
			}
		}
	}
}

func TestWritesEachWindow(t *testing.T) {
	writesEach(t, cells.SetBits, bit, otherBit)
	writesEach(t, cells.SetWords, register, otherRegister)
}

func writesWhole[T either](t *testing.T, write writing[T], of, other func(int) T) {
	w := api.Window{From: 0, Count: 65536}
	l, others := made(w.Count, of), made(65537, other)
	got, err := write(w, l, 0, others[:65536])
	same(t, "all places", got, err, others[:65536], api.OK)
	got, err = write(w, l, 65535, others[65535:65536])
	same(t, "the last place", got, err, append(slices.Clone(l[:65535]), others[65535]), api.OK)
	got, err = write(w, l, 0, others)
	refused(t, got, err, api.BadAddress, "more than all")
	got, err = write(w, l, 1, others[:65536])
	refused(t, got, err, api.BadAddress, "all, from 1 on")
	for _, from := range []int{-1, 65535, 65536} {
		got, err = write(w, l, from, others[:2])
		refused(t, got, err, api.BadAddress, from)
	}
}

func TestWritesAllPlaces(t *testing.T) {
	writesWhole(t, cells.SetBits, bit, otherBit)
	writesWhole(t, cells.SetWords, register, otherRegister)
}

func writesNotOthers[T either](t *testing.T, write writing[T], of, other func(int) T) {
	w, with := api.Window{From: 5, Count: 3}, made(1, other)
	for _, n := range []int{0, 1, 2, 4, 5, 8} {
		got, err := write(w, made(n, of), 6, with)
		refused(t, got, err, api.ErrArg, n)
		got, err = write(w, made(n, of), 60, with) // ahead of BadAddress
		refused(t, got, err, api.ErrArg, n)
	}
	for _, wrong := range wrongWindows {
		n := min(max(wrong.Count, 0), 65537)
		got, err := write(wrong, made(n, of), wrong.From, with)
		refused(t, got, err, api.ErrArg, wrong)
		got, err = write(wrong, nil, wrong.From, with)
		refused(t, got, err, api.ErrArg, wrong)
	}
	for _, from := range append([]int{4, 5, 6, 7, 8, 9, -1}, far...) { // ahead of BadAddress
		for _, none := range [][]T{nil, {}, with[:0]} {
			got, err := write(w, made(3, of), from, none)
			refused(t, got, err, api.ErrArg, from)
		}
	}
	got, err := write(api.Window{From: 5}, nil, 5, with)
	refused(t, got, err, api.BadAddress, "a window without a place")
}

func TestWritesNoOtherCells(t *testing.T) {
	writesNotOthers(t, cells.SetBits, bit, otherBit)
	writesNotOthers(t, cells.SetWords, register, otherRegister)
}

func writesFar[T either](t *testing.T, write writing[T], of, other func(int) T) {
	for _, from := range far {
		for count := 1; count <= 4; count++ {
			got, err := write(api.Window{From: 5, Count: 3}, made(3, of), from, made(count, other))
			refused(t, got, err, api.BadAddress, from, count)
		}
	}
}

func TestWritesNothingFarAway(t *testing.T) {
	writesFar(t, cells.SetBits, bit, otherBit)
	writesFar(t, cells.SetWords, register, otherRegister)
}

func writesFresh[T either](t *testing.T, write writing[T], of, other func(int) T) {
	w := api.Window{From: 5, Count: 3}
	whole, others := made(8, of), made(8, other)
	l, with := whole[2:5], others[1:3]
	got, err := write(w, l, 6, with)
	want, _ := written(w, made(8, of)[2:5], 6, made(8, other)[1:3])
	same(t, "write", got, err, want, api.OK)
	beyond := got[:cap(got)]
	for k := range beyond { // each cell, as it is in neither
		beyond[k] = other(k + 2)
	}
	for k := range beyond {
		beyond[k] = of(k + 1)
	}
	if !slices.Equal(whole, made(8, of)) || !slices.Equal(others, made(8, other)) {
		t.Errorf("what was told is memory of what was handed in: %v, %v", whole, others)
	}
	got, err = write(api.Window{From: 5, Count: 4}, l, 6, with) // whole has a fourth one, but l has not
	refused(t, got, err, api.ErrArg, "behind the length")
	got, err = write(w, l, 6, l[:2]) // with may be memory of l
	want, _ = written(w, made(8, of)[2:5], 6, made(8, of)[2:4])
	same(t, "write its own", got, err, want, api.OK)
	if !slices.Equal(whole, made(8, of)) {
		t.Errorf("what was handed in has changed: %v", whole)
	}
}

func TestWritesIntoNewMemory(t *testing.T) {
	writesFresh(t, cells.SetBits, bit, otherBit)
	writesFresh(t, cells.SetWords, register, otherRegister)
}

func TestMask(t *testing.T) {
	for _, c := range [][4]uint16{
		{0x12, 0xF2, 0x25, 0x17}, {0, 0, 0, 0}, {65535, 0, 0, 0}, {65535, 65535, 65535, 65535}, {0, 65535, 65535, 0},
		{0x1234, 0xFF00, 0xABCD, 0x12CD}, {0x1234, 0x00FF, 0xABCD, 0xAB34}, {0x8001, 0x8000, 0, 0x8000}, {0, 0x7FFF, 0x8000, 0x8000},
	} {
		if got := cells.Mask(c[0], c[1], c[2]); got != c[3] {
			t.Errorf("Mask(%x, %x, %x) = %x, not %x", c[0], c[1], c[2], got, c[3])
		}
	}
}

func TestMaskBitByBit(t *testing.T) {
	some := []uint16{0, 1, 2, 3, 128, 255, 256, 0x0F0F, 0x5555, 0xAAAA, 0x7FFF, 0x8000, 0x8001, 0xFF00, 65534, 65535}
	for _, w := range some {
		for _, and := range some {
			for _, or := range some {
				got := cells.Mask(w, and, or)
				for k := range 16 {
					from := or
					if and>>k&1 == 1 {
						from = w
					}
					if got>>k&1 != from>>k&1 {
						t.Fatalf("bit %d of Mask(%x, %x, %x) = %x", k, w, and, or, got)
					}
				}
			}
		}
	}
}

// CE3: what follows.

func readsWhatWasWritten[T either](t *testing.T, read reading[T], write writing[T], of, other func(int) T) {
	w := api.Window{From: 65500, Count: 36}
	l := made(w.Count, of)
	for from := w.From; from < 65536; from++ {
		for count := 1; from+count <= 65536; count++ {
			with := made(count, func(k int) T { return other(from + k - w.From) })
			now, err := write(w, l, from, with)
			if err != api.OK || len(now) != len(l) {
				t.Fatalf("write %d, %d: %d cells, %d", from, count, len(now), err)
			}
			got, err := read(w, now, from, count)
			same(t, "what was written", got, err, with, api.OK)
			k := from - w.From
			if !slices.Equal(now[:k], l[:k]) || !slices.Equal(now[k+count:], l[k+count:]) {
				t.Fatalf("write %d, %d: others have changed", from, count)
			}
		}
	}
}

func TestWhatWasWrittenIsRead(t *testing.T) {
	readsWhatWasWritten(t, cells.Bits, cells.SetBits, bit, otherBit)
	readsWhatWasWritten(t, cells.Words, cells.SetWords, register, otherRegister)
}

func TestMaskByAllAndByNone(t *testing.T) {
	for n := range 65536 {
		w := uint16(n)
		if got := cells.Mask(w, 65535, ^w); got != w {
			t.Fatalf("Mask(%d, 65535, %d) = %d", w, ^w, got)
		}
		if got := cells.Mask(^w, 0, w); got != w {
			t.Fatalf("Mask(%d, 0, %d) = %d", ^w, w, got)
		}
	}
}
