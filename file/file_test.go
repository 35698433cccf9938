package file_test

import (
	"math"
	"slices"
	"testing"

	"bilge/api"
	"bilge/file"
)

// either is a cell of one of the two sorts.
type either interface{ bool | uint16 }

// coil, input, hold and reg are what stands at a place in these tests; no two of the tables have the same cells.
func coil(at int) bool   { return at%3 == 0 }
func input(at int) bool  { return at%5 < 2 }
func hold(at int) uint16 { return uint16(40503*at + 258) }
func reg(at int) uint16  { return uint16(30011*at + 7) }

// notBit and notWord tell other cells than those that stand at the places.
func notBit(of func(int) bool) func(int) bool      { return func(at int) bool { return !of(at) } }
func notWord(of func(int) uint16) func(int) uint16 { return func(at int) uint16 { return ^of(at) } }

// span makes the cells of so many places from one on.
func span[T either](from, count int, of func(int) T) []T {
	var l []T
	for k := range count {
		l = append(l, of(from+k))
	}
	return l
}

// full tells a file whose cells are those of these tests.
func full(b api.Bank) api.File {
	return api.File{
		Bank:    b,
		Coils:   span(b.Coils.From, b.Coils.Count, coil),
		Inputs:  span(b.Inputs.From, b.Inputs.Count, input),
		Holding: span(b.Holding.From, b.Holding.Count, hold),
		Regs:    span(b.Regs.From, b.Regs.Count, reg),
	}
}

// some is a bank whose windows have other places and other sizes each.
var some = api.Bank{
	Coils:   api.Window{From: 3, Count: 5},
	Inputs:  api.Window{From: 65529, Count: 7},
	Holding: api.Window{From: 10, Count: 6},
	Regs:    api.Window{From: 0, Count: 4},
	Broken:  api.Window{From: 12, Count: 2},
}

// wrongWindows may not be.
var wrongWindows = []api.Window{
	{From: -1}, {From: -1, Count: 3}, {From: 0, Count: -1}, {From: 3, Count: -1}, {From: 65536}, {From: 65535, Count: 2},
	{From: 65534, Count: 3}, {From: 1, Count: 65536}, {From: 0, Count: 65537}, {From: math.MaxInt, Count: math.MaxInt},
	{From: math.MinInt, Count: 3}, {From: math.MaxInt, Count: 3}, {From: 1 << 32, Count: 3}, {From: 0, Count: math.MinInt},
	{From: 0, Count: math.MaxInt}, {From: -3, Count: 3},
}

// rightWindows may be.
var rightWindows = []api.Window{
	{}, {From: 0, Count: 1}, {From: 0, Count: 3}, {From: 7}, {From: 7, Count: 2}, {From: 0, Count: 65535}, {From: 0, Count: 65536},
	{From: 1, Count: 65535}, {From: 65535}, {From: 65535, Count: 1}, {From: 65534, Count: 2}, {From: 32768, Count: 32768},
}

// far are numbers at the ends of int, and at those of other types.
var far = []int{
	math.MinInt, math.MinInt + 1, math.MinInt + 65536, -1 << 32, -1 << 31, -65537, -65536, -65535,
	65535, 65536, 65537, 131072, 1 << 31, 1 << 32, 1<<32 + 1, math.MaxInt - 65536, math.MaxInt - 1, math.MaxInt,
}

// windowsOf tells where a bank keeps its windows.
func windowsOf(b *api.Bank) []*api.Window {
	return []*api.Window{&b.Coils, &b.Inputs, &b.Holding, &b.Regs, &b.Broken}
}

// spoilt tells files that may not be, each for one reason alone.
func spoilt() []api.File {
	var all []api.File
	for k := range 5 {
		for _, w := range wrongWindows {
			f := full(some)
			*windowsOf(&f.Bank)[k] = w
			all = append(all, f)
		}
	}
	for _, n := range []int{-1, 1} { // as many cells as another window, or as none, would have
		for k := range 4 {
			b := some
			windowsOf(&b)[k].Count += n
			f := full(b)
			f.Bank = some
			all = append(all, f)
		}
	}
	none := [4]api.File{full(some), full(some), full(some), full(some)}
	none[0].Coils, none[1].Inputs, none[2].Holding, none[3].Regs = nil, []bool{}, nil, []uint16{}
	all = append(all, none[:]...)
	behind := [4]api.File{full(some), full(some), full(some), full(some)} // one cell stands behind the length
	behind[0].Coils = behind[0].Coils[:4]
	behind[1].Inputs = behind[1].Inputs[:6]
	behind[2].Holding = behind[2].Holding[:5]
	behind[3].Regs = behind[3].Regs[:3]
	return append(all, behind[:]...)
}

// equal holds all that two files hold against one another.
func equal(a, b api.File) bool {
	return a.Bank == b.Bank && slices.Equal(a.Coils, b.Coils) && slices.Equal(a.Inputs, b.Inputs) &&
		slices.Equal(a.Holding, b.Holding) && slices.Equal(a.Regs, b.Regs)
}

// isFile fails, if an answer is another file than what was asked for.
func isFile(t *testing.T, what string, f api.File, err api.Errno, want api.File) {
	t.Helper()
	if err != api.OK || !equal(f, want) {
		t.Fatalf("%s: %v, %d, not %v", what, f, err, want)
	}
}

// noFile fails, if a call answers anything but an error and no file.
func noFile(t *testing.T, f api.File, err, want api.Errno, about ...any) {
	t.Helper()
	if err != want || !equal(f, api.File{}) {
		t.Fatalf("%v: %v, %d, not error %d", about, f, err, want)
	}
}

// are fails, if an answer is other cells than what was asked for.
func are[T either](t *testing.T, l []T, err api.Errno, want []T, wantErr api.Errno, about ...any) {
	t.Helper()
	if err != wantErr || !slices.Equal(l, want) {
		t.Fatalf("%v: %v, %d, not %v, %d", about, l, err, want, wantErr)
	}
}

// whole tells all of a list's memory, what stands behind its length too.
func whole[T either](l []T) []T { return l[:cap(l)] }

// bare tells whether nothing but zero cells stands behind a list's length.
func bare[T either](l []T) bool {
	var none T
	return !slices.ContainsFunc(whole(l)[len(l):], func(c T) bool { return c != none })
}

// turn changes all cells of a file, and those behind them.
func turn(f api.File) {
	for _, l := range [][]bool{whole(f.Coils), whole(f.Inputs)} {
		for k := range l {
			l[k] = !l[k]
		}
	}
	for _, l := range [][]uint16{whole(f.Holding), whole(f.Regs)} {
		for k := range l {
			l[k] = ^l[k]
		}
	}
}

// framed tells a file whose cells stand among others that are none of its own, and a call that asks whether all of them are as they were.
func framed(b api.Bank) (api.File, func() bool) {
	lists := func() ([]bool, []bool, []uint16, []uint16) {
		return span(b.Coils.From-2, b.Coils.Count+4, coil), span(b.Inputs.From-2, b.Inputs.Count+4, input),
			span(b.Holding.From-2, b.Holding.Count+4, hold), span(b.Regs.From-2, b.Regs.Count+4, reg)
	}
	c, i, h, r := lists()
	f := api.File{Bank: b, Coils: c[2 : 2+b.Coils.Count], Inputs: i[2 : 2+b.Inputs.Count],
		Holding: h[2 : 2+b.Holding.Count], Regs: r[2 : 2+b.Regs.Count]}
	return f, func() bool {
		c2, i2, h2, r2 := lists()
		return slices.Equal(c, c2) && slices.Equal(i, i2) && slices.Equal(h, h2) && slices.Equal(r, r2)
	}
}

// fresh fails, if a call of a file answers one that shares memory with that, or two of whose lists share some.
func fresh(t *testing.T, what string, call func(api.File) (api.File, api.Errno)) {
	t.Helper()
	f, unchanged := framed(some)
	got, err := call(f)
	if err != api.OK || !unchanged() {
		t.Fatalf("%s: error %d, or what was handed in has changed", what, err)
	}
	if !bare(got.Coils) || !bare(got.Inputs) || !bare(got.Holding) || !bare(got.Regs) {
		t.Errorf("%s: what stands behind the lists that were handed in is handed out", what)
	}
	want := api.File{Bank: got.Bank, Coils: slices.Clone(got.Coils), Inputs: slices.Clone(got.Inputs),
		Holding: slices.Clone(got.Holding), Regs: slices.Clone(got.Regs)}
	turn(got)
	if !unchanged() {
		t.Errorf("%s: what was told is memory of what was handed in", what)
	}
	turn(got)
	turn(f)
	if !equal(got, want) {
		t.Errorf("%s: what was handed in is memory of what was told", what)
	}

	b := some // all lists of one sort are the same memory
	b.Coils, b.Holding = b.Inputs, b.Regs
	b.Coils.From, b.Holding.From = some.Coils.From, some.Holding.From
	f = full(b)
	f.Coils, f.Holding = f.Inputs, f.Regs
	got, err = call(f)
	if err != api.OK {
		t.Fatalf("%s: error %d", what, err)
	}
	bits, words := slices.Clone(got.Inputs), slices.Clone(got.Regs)
	turn(api.File{Coils: got.Coils, Holding: got.Holding})
	if !slices.Equal(got.Inputs, bits) || !slices.Equal(got.Regs, words) {
		t.Errorf("%s: two lists of what was told share their memory", what)
	}
}

// FI1: New, Right, Same and Copy.

// asNew tells a file in which all cells are 0.
func asNew(b api.Bank) api.File {
	return api.File{Bank: b, Coils: make([]bool, b.Coils.Count), Inputs: make([]bool, b.Inputs.Count),
		Holding: make([]uint16, b.Holding.Count), Regs: make([]uint16, b.Regs.Count)}
}

func TestNew(t *testing.T) {
	f, err := file.New(some)
	isFile(t, "some places", f, err, asNew(some))
	f, err = file.New(api.Bank{})
	isFile(t, "no place", f, err, api.File{})
	all := api.Window{Count: 65536}
	most := api.Bank{Coils: all, Inputs: all, Holding: all, Regs: all, Broken: all}
	f, err = file.New(most)
	isFile(t, "all places", f, err, asNew(most))
}

func TestNewOfEachWindow(t *testing.T) {
	for k := range 5 {
		for _, w := range rightWindows {
			for _, b := range []api.Bank{{}, some} {
				*windowsOf(&b)[k] = w
				f, err := file.New(b)
				isFile(t, "a window that may be", f, err, asNew(b))
			}
		}
		for _, w := range wrongWindows {
			for _, b := range []api.Bank{{}, some} {
				*windowsOf(&b)[k] = w
				f, err := file.New(b)
				noFile(t, f, err, api.ErrArg, "window", k, w)
			}
		}
	}
}

func TestNewIsNewMemory(t *testing.T) {
	one, _ := file.New(some)
	other, _ := file.New(some)
	turn(one)
	if !equal(other, asNew(some)) {
		t.Errorf("two files share their memory: %v", other)
	}
	turn(api.File{Coils: one.Coils, Holding: one.Holding})
	want := asNew(some)
	turn(api.File{Inputs: want.Inputs, Regs: want.Regs})
	if !equal(one, want) {
		t.Errorf("two tables share their memory: %v", one)
	}
}

func TestRight(t *testing.T) {
	for _, f := range []api.File{{}, full(some), asNew(some), {Coils: []bool{}, Inputs: []bool{}, Holding: []uint16{}, Regs: []uint16{}}} {
		if !file.Right(f) {
			t.Errorf("%v may be", f)
		}
	}
	for k := range 5 {
		for _, w := range rightWindows {
			b := some
			*windowsOf(&b)[k] = w
			if f := asNew(b); !file.Right(f) {
				t.Errorf("window %d: %v may be", k, w)
			}
		}
	}
	f, _ := framed(some)
	if !file.Right(f) {
		t.Errorf("a file may be, whatever stands behind its lists")
	}
	for _, f := range spoilt() {
		if file.Right(f) {
			t.Errorf("%v may not be", f)
		}
	}
}

func TestRightOfTooFewCells(t *testing.T) {
	for _, f := range []api.File{
		{Coils: []bool{true}}, {Inputs: []bool{true}}, {Holding: []uint16{0}}, {Regs: []uint16{0}},
		{Bank: api.Bank{Coils: api.Window{Count: 1}}}, {Bank: api.Bank{Inputs: api.Window{Count: 1}}},
		{Bank: api.Bank{Holding: api.Window{Count: 1}}}, {Bank: api.Bank{Regs: api.Window{Count: 1}}},
		{Bank: api.Bank{Coils: api.Window{Count: 1}}, Inputs: []bool{true}},
		{Bank: api.Bank{Inputs: api.Window{Count: 1}}, Coils: []bool{true}},
		{Bank: api.Bank{Holding: api.Window{Count: 1}}, Regs: []uint16{1}},
		{Bank: api.Bank{Regs: api.Window{Count: 1}}, Holding: []uint16{1}},
	} {
		if file.Right(f) {
			t.Errorf("%v may not be", f)
		}
	}
	if f := (api.File{Bank: api.Bank{Broken: api.Window{Count: 65536}}}); !file.Right(f) {
		t.Errorf("%v may be: what does not work has no cells of its own", f)
	}
}

func TestSame(t *testing.T) {
	for _, f := range append(spoilt(), full(some), api.File{}, asNew(some)) {
		g := api.File{Bank: f.Bank, Coils: slices.Clone(f.Coils), Inputs: slices.Clone(f.Inputs),
			Holding: slices.Clone(f.Holding), Regs: slices.Clone(f.Regs)}
		if !file.Same(f, f) || !file.Same(f, g) || !file.Same(g, f) {
			t.Errorf("%v is not the same as itself", f)
		}
	}
	empty := api.File{Coils: []bool{}, Inputs: []bool{}, Holding: []uint16{}, Regs: []uint16{}}
	if !file.Same(empty, api.File{}) || !file.Same(api.File{}, empty) {
		t.Errorf("a list without elements is the same as none")
	}
	f, unchanged := framed(some)
	g := full(some)
	if !file.Same(f, g) || !file.Same(g, f) || !unchanged() {
		t.Errorf("what stands behind the lists is held against one another, or was changed")
	}
}

func TestNotSame(t *testing.T) {
	differ := func(f, g api.File, about ...any) {
		t.Helper()
		if file.Same(f, g) || file.Same(g, f) {
			t.Errorf("the same, though another one: %v", about)
		}
	}
	for k := range 5 {
		f, g := full(some), full(some)
		windowsOf(&g.Bank)[k].From++
		differ(f, g, "From", k)
		g = full(some)
		windowsOf(&g.Bank)[k].Count++
		differ(f, g, "Count", k)
	}
	for _, turned := range turnedCells(full(some)) {
		differ(full(some), turned, "a cell", turned)
	}
	for k := range 4 {
		b := some
		windowsOf(&b)[k].Count++
		g := full(b)
		g.Bank = some
		differ(full(some), g, "one cell more", k)
	}
	all := append(spoilt(), full(some), asNew(some), api.File{}) // those of these that are not the same differ
	for _, f := range all {
		for _, g := range all {
			if file.Same(f, g) != equal(f, g) {
				t.Fatalf("%v and %v", f, g)
			}
		}
	}
}

// turnedCells tells as many files as a file has cells: each with another one of them that is another one.
func turnedCells(f api.File) []api.File {
	var all []api.File
	for k := range f.Coils {
		g := f
		g.Coils = slices.Clone(f.Coils)
		g.Coils[k] = !g.Coils[k]
		all = append(all, g)
	}
	for k := range f.Inputs {
		g := f
		g.Inputs = slices.Clone(f.Inputs)
		g.Inputs[k] = !g.Inputs[k]
		all = append(all, g)
	}
	for k := range f.Holding {
		g, h := f, f
		g.Holding, h.Holding = slices.Clone(f.Holding), slices.Clone(f.Holding)
		g.Holding[k] ^= 1
		h.Holding[k] ^= 1 << 15
		all = append(all, g, h)
	}
	for k := range f.Regs {
		g, h := f, f
		g.Regs, h.Regs = slices.Clone(f.Regs), slices.Clone(f.Regs)
		g.Regs[k] ^= 1
		h.Regs[k] ^= 1 << 15
		all = append(all, g, h)
	}
	return all
}

// copied is Copy, as a call that could fail.
func copied(f api.File) (api.File, api.Errno) { return file.Copy(f), api.OK }

func TestCopy(t *testing.T) {
	for _, f := range append(spoilt(), full(some), api.File{}, asNew(some)) {
		if g := file.Copy(f); !equal(f, g) {
			t.Errorf("%v is copied as %v", f, g)
		}
	}
	for _, f := range turnedCells(full(some)) {
		if g := file.Copy(f); !equal(f, g) {
			t.Errorf("%v is copied as %v", f, g)
		}
	}
	fresh(t, "Copy", copied)
}

// FI2: Bits and Words.

func TestExample(t *testing.T) {
	f, err := file.New(api.Bank{Holding: api.Window{Count: 4}, Broken: api.Window{From: 2, Count: 1}})
	isFile(t, "New", f, err, api.File{Bank: f.Bank, Holding: make([]uint16, 4)})
	l, err := file.Words(f, false, 1, 1)
	are(t, l, err, []uint16{0}, api.OK, 1, 1)
	l, err = file.Words(f, false, 1, 2)
	are(t, l, err, nil, api.BadDevice, 1, 2)
	l, err = file.Words(f, false, 3, 2)
	are(t, l, err, nil, api.BadAddress, 3, 2)
}

// has tells whether a place is one of a window's, which may be.
func has(w api.Window, at int) bool { return at >= w.From && at < w.From+w.Count }

// asked is what the document's words say of so many places of a window, one by one, where some do not work.
func asked(w, broken api.Window, from, count int) api.Errno {
	if count < 1 {
		return api.ErrArg
	}
	err := api.OK
	for at := from; at < from+count; at++ {
		if !has(w, at) {
			return api.BadAddress
		}
		if has(broken, at) {
			err = api.BadDevice
		}
	}
	return err
}

// reads asks for each few places of a window, and of those around it.
func reads[T either](t *testing.T, w, broken api.Window, of func(int) T, read func(from, count int) ([]T, api.Errno)) {
	t.Helper()
	for from := w.From - 3; from <= w.From+w.Count+3; from++ {
		for count := -2; count <= w.Count+3; count++ {
			got, err := read(from, count)
			var want []T
			wantErr := asked(w, broken, from, count)
			if wantErr == api.OK {
				want = span(from, count, of)
			}
			are(t, got, err, want, wantErr, "read", w, broken, from, count)
		}
	}
}

// banks tells banks of a window here and there, that go together in all ways, with windows that do not work beside, in and around them.
func banks() []api.Bank {
	var all []api.Bank
	for _, b := range []api.Bank{
		some, {}, {Coils: api.Window{From: 1, Count: 3}, Inputs: api.Window{From: 2, Count: 3}, Holding: api.Window{From: 1, Count: 4}, Regs: api.Window{From: 2, Count: 4}},
		{Coils: api.Window{From: 65530, Count: 6}, Inputs: api.Window{From: 65535, Count: 1}, Holding: api.Window{From: 65531, Count: 5}, Regs: api.Window{From: 65532, Count: 4}},
		{Coils: api.Window{From: 8}, Inputs: api.Window{Count: 1}, Holding: api.Window{From: 0, Count: 5}, Regs: api.Window{From: 65535}},
	} {
		all = append(all, b)
		for from := b.Holding.From - 2; from <= b.Holding.From+b.Holding.Count+1; from++ {
			for count := range b.Holding.Count + 4 {
				if from >= 0 && from < 65536 && from+count <= 65536 {
					b.Broken = api.Window{From: from, Count: count}
					all = append(all, b)
				}
			}
		}
		b.Broken = api.Window{Count: 65536}
		all = append(all, b)
	}
	return all
}

func TestReadsEachTable(t *testing.T) {
	for _, b := range banks() {
		f := full(b)
		reads(t, b.Coils, api.Window{}, coil, func(from, count int) ([]bool, api.Errno) { return file.Bits(f, false, from, count) })
		reads(t, b.Inputs, api.Window{}, input, func(from, count int) ([]bool, api.Errno) { return file.Bits(f, true, from, count) })
		reads(t, b.Holding, b.Broken, hold, func(from, count int) ([]uint16, api.Errno) { return file.Words(f, false, from, count) })
		reads(t, b.Regs, api.Window{}, reg, func(from, count int) ([]uint16, api.Errno) { return file.Words(f, true, from, count) })
		if !equal(f, full(b)) {
			t.Fatalf("a file has changed as it was read: %v", f)
		}
	}
}

func TestReadsAllPlaces(t *testing.T) {
	all := api.Window{Count: 65536}
	f := full(api.Bank{Coils: all, Inputs: all, Holding: all, Regs: all, Broken: api.Window{From: 65535, Count: 1}})
	for _, inputs := range []bool{false, true} {
		bits, err := file.Bits(f, inputs, 0, 65536)
		want := f.Coils
		if inputs {
			want = f.Inputs
		}
		are(t, bits, err, want, api.OK, "all bits", inputs)
		bits, err = file.Bits(f, inputs, 1, 65536)
		are(t, bits, err, nil, api.BadAddress, "one bit beyond", inputs)
	}
	words, err := file.Words(f, true, 0, 65536)
	are(t, words, err, f.Regs, api.OK, "all input registers")
	words, err = file.Words(f, false, 0, 65535)
	are(t, words, err, f.Holding[:65535], api.OK, "all that work")
	for _, from := range []int{0, 65535} {
		words, err = file.Words(f, false, from, 65536-from)
		are(t, words, err, nil, api.BadDevice, "up to what does not work", from)
		words, err = file.Words(f, false, from, 65537-from)
		are(t, words, err, nil, api.BadAddress, "and beyond", from)
	}
}

func TestReadsNothingFarAway(t *testing.T) {
	b := some
	b.Inputs, b.Broken = api.Window{From: 20, Count: 3}, api.Window{Count: 65536}
	f := full(b)
	for _, n := range far {
		for _, inputs := range []bool{false, true} {
			bits, err := file.Bits(f, inputs, n, 1)
			are(t, bits, err, nil, api.BadAddress, "Bits", inputs, n)
			words, err := file.Words(f, inputs, n, 1)
			are(t, words, err, nil, api.BadAddress, "Words", inputs, n)
			for _, from := range append([]int{-1, 0, 3, 10, 12, 20}, far...) {
				want := api.ErrArg
				if n > 0 {
					want = api.BadAddress
				}
				bits, err = file.Bits(f, inputs, from, n)
				are(t, bits, err, nil, want, "Bits", inputs, from, n)
				words, err = file.Words(f, inputs, from, n)
				are(t, words, err, nil, want, "Words", inputs, from, n)
			}
		}
	}
}

func TestReadsNoWrongFile(t *testing.T) {
	for _, f := range spoilt() {
		for _, asked := range [][2]int{{3, 1}, {10, 1}, {0, 1}, {65530, 1}, {12, 1}, {40, 1}, {-1, 1}, {3, 0}, {10, -1}} { // ErrArg comes first
			for _, inputs := range []bool{false, true} {
				bits, err := file.Bits(f, inputs, asked[0], asked[1])
				are(t, bits, err, nil, api.ErrArg, "Bits", f, inputs, asked)
				words, err := file.Words(f, inputs, asked[0], asked[1])
				are(t, words, err, nil, api.ErrArg, "Words", f, inputs, asked)
			}
		}
	}
}

func readsFresh[T either](t *testing.T, read func(f api.File) ([]T, api.Errno), other func(T) T) {
	t.Helper()
	f, unchanged := framed(some)
	got, err := read(f)
	if err != api.OK || len(got) == 0 || !bare(got) {
		t.Fatalf("%v, error %d", whole(got), err)
	}
	want := slices.Clone(got)
	for k, c := range whole(got) {
		whole(got)[k] = other(c)
	}
	if !unchanged() {
		t.Errorf("what was told is memory of what was handed in")
	}
	got, _ = read(f)
	turn(f)
	if !slices.Equal(got, want) {
		t.Errorf("what was handed in is memory of what was told")
	}
}

func TestReadsIntoNewMemory(t *testing.T) {
	otherBit, otherWord := func(b bool) bool { return !b }, func(w uint16) uint16 { return ^w }
	readsFresh(t, func(f api.File) ([]bool, api.Errno) { return file.Bits(f, false, 4, 2) }, otherBit)
	readsFresh(t, func(f api.File) ([]bool, api.Errno) { return file.Bits(f, true, 65529, 7) }, otherBit)
	readsFresh(t, func(f api.File) ([]uint16, api.Errno) { return file.Words(f, false, 10, 2) }, otherWord)
	readsFresh(t, func(f api.File) ([]uint16, api.Errno) { return file.Words(f, true, 0, 4) }, otherWord)
}

// FI3: SetBits, SetWords and Sense.

// put tells cells with others from a place on.
func put[T either](w api.Window, l []T, from int, with []T) []T {
	l = slices.Clone(l)
	for k, v := range with {
		l[from+k-w.From] = v
	}
	return l
}

// stands fails, if a write is not answered as the document's words say.
func stands(t *testing.T, f api.File, err, wantErr api.Errno, want func() api.File, about ...any) {
	t.Helper()
	if wantErr != api.OK {
		noFile(t, f, err, wantErr, about...)
		return
	}
	if err != api.OK || !equal(f, want()) {
		t.Fatalf("%v: %v, %d, not %v", about, f, err, want())
	}
}

func TestSetBitsEverywhere(t *testing.T) {
	for _, b := range banks() {
		f := full(b)
		for from := b.Coils.From - 3; from <= b.Coils.From+b.Coils.Count+3; from++ {
			for count := range b.Coils.Count + 3 {
				with := span(from, count, notBit(coil))
				got, err := file.SetBits(f, from, with)
				stands(t, got, err, asked(b.Coils, api.Window{}, from, count), func() api.File {
					want := full(b)
					want.Coils = put(b.Coils, want.Coils, from, with)
					return want
				}, "SetBits", b, from, count)
				if !slices.Equal(with, span(from, count, notBit(coil))) {
					t.Fatalf("what was handed in has changed: %v", with)
				}
			}
		}
		if !equal(f, full(b)) {
			t.Fatalf("a file has changed: %v", f)
		}
	}
}

func TestSetWordsEverywhere(t *testing.T) {
	for _, b := range banks() {
		f := full(b)
		for from := b.Holding.From - 3; from <= b.Holding.From+b.Holding.Count+3; from++ {
			for count := range b.Holding.Count + 3 {
				with := span(from, count, notWord(hold))
				got, err := file.SetWords(f, from, with)
				stands(t, got, err, asked(b.Holding, b.Broken, from, count), func() api.File {
					want := full(b)
					want.Holding = put(b.Holding, want.Holding, from, with)
					return want
				}, "SetWords", b, from, count)
				if !slices.Equal(with, span(from, count, notWord(hold))) {
					t.Fatalf("what was handed in has changed: %v", with)
				}
			}
		}
		if !equal(f, full(b)) {
			t.Fatalf("a file has changed: %v", f)
		}
	}
}

func TestSetsAllPlaces(t *testing.T) {
	all := api.Window{Count: 65536}
	b := api.Bank{Coils: all, Holding: all, Broken: api.Window{From: 65535, Count: 1}}
	f := full(b)
	bits, words := span(0, 65537, notBit(coil)), span(0, 65537, notWord(hold))
	want := full(b)
	want.Coils = bits[:65536]
	got, err := file.SetBits(f, 0, bits[:65536])
	isFile(t, "all coils", got, err, want)
	want = full(b)
	want.Holding = append(slices.Clone(words[:65535]), hold(65535))
	got, err = file.SetWords(f, 0, words[:65535])
	isFile(t, "all that work", got, err, want)
	got, err = file.SetWords(f, 0, words[:65536])
	noFile(t, got, err, api.BadDevice, "all holding registers")
	got, err = file.SetWords(f, 65535, words[:1])
	noFile(t, got, err, api.BadDevice, "the last one")
	for _, from := range []int{0, 1} {
		got, err = file.SetBits(f, from, bits[from:])
		noFile(t, got, err, api.BadAddress, "all coils and one", from)
		got, err = file.SetWords(f, from, words[from:])
		noFile(t, got, err, api.BadAddress, "all holding registers and one", from)
	}
}

func TestSetsNothing(t *testing.T) { // ErrArg comes ahead of BadAddress and of BadDevice
	for _, from := range append([]int{-1, 0, 2, 3, 9, 10, 12, 13, 15, 16, 17}, far...) {
		for _, bits := range [][]bool{nil, {}, make([]bool, 0, 2)} {
			got, err := file.SetBits(full(some), from, bits)
			noFile(t, got, err, api.ErrArg, "SetBits", from)
		}
		for _, words := range [][]uint16{nil, {}, make([]uint16, 0, 2)} {
			got, err := file.SetWords(full(some), from, words)
			noFile(t, got, err, api.ErrArg, "SetWords", from)
		}
	}
}

func TestSetsNothingFarAway(t *testing.T) {
	b := some
	b.Inputs, b.Broken = api.Window{From: 20, Count: 3}, api.Window{Count: 65536}
	f := full(b)
	for _, at := range far {
		for count := 1; count <= 5; count++ {
			got, err := file.SetBits(f, at, make([]bool, count))
			noFile(t, got, err, api.BadAddress, "SetBits", at, count)
			got, err = file.SetWords(f, at, make([]uint16, count))
			noFile(t, got, err, api.BadAddress, "SetWords", at, count)
		}
		for _, words := range []bool{false, true} {
			got, err := file.Sense(f, words, at, 1)
			noFile(t, got, err, api.BadAddress, "Sense", words, at)
		}
	}
}

func TestWritesNoWrongFile(t *testing.T) {
	for _, f := range spoilt() {
		for _, at := range []int{3, 10, 0, 65530, 12, 40, -1} { // ErrArg comes first
			for count := range 2 {
				got, err := file.SetBits(f, at, make([]bool, count))
				noFile(t, got, err, api.ErrArg, "SetBits", f, at)
				got, err = file.SetWords(f, at, make([]uint16, count))
				noFile(t, got, err, api.ErrArg, "SetWords", f, at)
			}
			for _, words := range []bool{false, true} {
				got, err := file.Sense(f, words, at, 1)
				noFile(t, got, err, api.ErrArg, "Sense", f, words, at)
			}
		}
	}
}

func TestSenseEverywhere(t *testing.T) {
	for _, b := range banks() {
		f := full(b)
		for at := b.Inputs.From - 3; at <= b.Inputs.From+b.Inputs.Count+3; at++ {
			for value := range 2 {
				got, err := file.Sense(f, false, at, value)
				stands(t, got, err, asked(b.Inputs, api.Window{}, at, 1), func() api.File {
					want := full(b)
					want.Inputs = put(b.Inputs, want.Inputs, at, []bool{value == 1})
					return want
				}, "Sense", b, at, value)
			}
		}
		for at := b.Regs.From - 3; at <= b.Regs.From+b.Regs.Count+3; at++ {
			got, err := file.Sense(f, true, at, 4660+at)
			stands(t, got, err, asked(b.Regs, api.Window{}, at, 1), func() api.File {
				want := full(b)
				want.Regs = put(b.Regs, want.Regs, at, []uint16{uint16((4660 + at) % 65536)})
				return want
			}, "Sense", b, at)
		}
		if !equal(f, full(b)) {
			t.Fatalf("a file has changed: %v", f)
		}
	}
}

func TestSenseEachValue(t *testing.T) {
	f := full(api.Bank{Inputs: api.Window{From: 4, Count: 2}, Regs: api.Window{From: 9, Count: 1}})
	for _, c := range []struct {
		value int
		word  uint16
	}{
		{0, 0}, {1, 1}, {2, 2}, {255, 255}, {256, 256}, {32767, 32767}, {32768, 32768}, {65535, 65535}, {65536, 0}, {65537, 1},
		{131071, 65535}, {131072, 0}, {-1, 65535}, {-2, 65534}, {-32768, 32768}, {-65535, 1}, {-65536, 0}, {-65537, 65535},
		{1 << 32, 0}, {1<<32 + 3, 3}, {-1 << 32, 0}, {-1<<32 - 3, 65533}, {math.MaxInt, 65535}, {math.MinInt, 0}, {math.MinInt + 5, 5},
	} {
		want := file.Copy(f)
		want.Regs = []uint16{c.word}
		got, err := file.Sense(f, true, 9, c.value)
		isFile(t, "a register", got, err, want)
		for at := 4; at < 6; at++ {
			want = file.Copy(f)
			want.Inputs = put(f.Bank.Inputs, f.Inputs, at, []bool{c.value != 0})
			got, err = file.Sense(f, false, at, c.value)
			isFile(t, "a discrete input", got, err, want)
		}
	}
}

func TestWritesIntoNewMemory(t *testing.T) {
	bits, words := span(0, 5, coil), span(0, 5, hold)
	fresh(t, "SetBits", func(f api.File) (api.File, api.Errno) { return file.SetBits(f, 4, bits[1:3]) })
	fresh(t, "SetBits of all", func(f api.File) (api.File, api.Errno) { return file.SetBits(f, 3, bits) })
	fresh(t, "SetWords", func(f api.File) (api.File, api.Errno) { return file.SetWords(f, 10, words[1:3]) })
	fresh(t, "Sense", func(f api.File) (api.File, api.Errno) { return file.Sense(f, false, 65530, 1) })
	fresh(t, "Sense of a register", func(f api.File) (api.File, api.Errno) { return file.Sense(f, true, 1, 1) })
	if !slices.Equal(bits, span(0, 5, coil)) || !slices.Equal(words, span(0, 5, hold)) {
		t.Errorf("what was told is memory of what was to be written: %v, %v", bits, words)
	}
	f := full(some) // what is written may be memory of the file
	want := put(some.Coils, f.Coils, 4, f.Coils[:3])
	got, err := file.SetBits(f, 4, f.Coils[:3])
	are(t, got.Coils, err, want, api.OK, "its own coils")
	if !equal(f, full(some)) {
		t.Errorf("a file has changed: %v", f)
	}
}

// FI4: what follows.

// tables is what was written, place by place.
type tables struct {
	bank          api.Bank
	coils, inputs map[int]bool
	holding, regs map[int]uint16
}

// known tells what was written at so many places of a window from one on; nothing was, where there is none.
func known[T either](w api.Window, cells map[int]T) []T {
	return span(w.From, w.Count, func(at int) T { return cells[at] })
}

// file tells the file that was written.
func (s *tables) file() api.File {
	return api.File{Bank: s.bank, Coils: known(s.bank.Coils, s.coils), Inputs: known(s.bank.Inputs, s.inputs),
		Holding: known(s.bank.Holding, s.holding), Regs: known(s.bank.Regs, s.regs)}
}

// learn writes cells place by place, if they may be.
func learn[T either](cells map[int]T, err api.Errno, from int, with []T) api.Errno {
	if err == api.OK {
		for k, v := range with {
			cells[from+k] = v
		}
	}
	return err
}

// chance tells numbers that look like chance, the same ones each time.
func chance(seed uint64) func(n int) int {
	return func(n int) int {
		seed = seed*6364136223846793005 + 1442695040888963407
		return int(seed>>33) % n
	}
}

// step writes something by chance into a file and into what is known of it, and tells the error that the document's words ask for.
func (s *tables) step(f api.File, pick func(int) int) (api.File, api.Errno, api.Errno) {
	count, value := pick(4), pick(200000)-100000
	bits, words := make([]bool, count), make([]uint16, count)
	for k := range count {
		bits[k], words[k] = pick(2) == 1, uint16(pick(65536))
	}
	around := func(w api.Window) int { return w.From - 2 + pick(w.Count+4) }
	switch b := s.bank; pick(4) {
	case 0:
		from := around(b.Coils)
		got, err := file.SetBits(f, from, bits)
		return got, err, learn(s.coils, asked(b.Coils, api.Window{}, from, count), from, bits)
	case 1:
		from := around(b.Holding)
		got, err := file.SetWords(f, from, words)
		return got, err, learn(s.holding, asked(b.Holding, b.Broken, from, count), from, words)
	case 2:
		at := around(b.Inputs)
		got, err := file.Sense(f, false, at, value%2)
		return got, err, learn(s.inputs, asked(b.Inputs, api.Window{}, at, 1), at, []bool{value%2 != 0})
	default:
		at := around(b.Regs)
		got, err := file.Sense(f, true, at, value)
		return got, err, learn(s.regs, asked(b.Regs, api.Window{}, at, 1), at, []uint16{uint16((value + 131072) % 65536)})
	}
}

func TestLongRuns(t *testing.T) {
	for n, b := range banks() {
		pick := chance(uint64(n))
		s := tables{b, map[int]bool{}, map[int]bool{}, map[int]uint16{}, map[int]uint16{}}
		f, err := file.New(b)
		isFile(t, "New", f, err, s.file())
		for range 150 {
			ahead := s.file()
			got, err, want := s.step(f, pick)
			if !equal(f, ahead) {
				t.Fatalf("a file has changed: %v, not %v", f, ahead)
			}
			if want != api.OK {
				noFile(t, got, err, want, b)
				continue
			}
			isFile(t, "a write", got, err, s.file())
			if !file.Right(got) || !file.Same(got, s.file()) || file.Same(got, ahead) != equal(got, ahead) {
				t.Fatalf("%v: it may not be, or is another one", got)
			}
			f = got
		}
	}
}

func TestWhatWasWrittenIsRead(t *testing.T) {
	b := api.Bank{Coils: api.Window{From: 65516, Count: 20}, Holding: api.Window{From: 5, Count: 20}, Inputs: api.Window{From: 9, Count: 3}, Regs: api.Window{From: 65530, Count: 6}}
	f := full(b)
	for from := range 20 {
		for count := 1; from+count <= 20; count++ {
			bits := span(65516+from, count, notBit(coil))
			now, err := file.SetBits(f, 65516+from, bits)
			got, readErr := file.Bits(now, false, 65516+from, count)
			are(t, got, err, bits, readErr, "SetBits", from, count)
			words := span(5+from, count, notWord(hold))
			now, err = file.SetWords(now, 5+from, words)
			regs, readErr := file.Words(now, false, 5+from, count)
			are(t, regs, err, words, readErr, "SetWords", from, count)
			again, err := file.SetBits(now, 65516+from, span(65516+from, count, coil))
			if err != api.OK {
				t.Fatalf("SetBits: %d", err)
			}
			again, err = file.SetWords(again, 5+from, span(5+from, count, hold))
			isFile(t, "what was there first", again, err, f)
		}
	}
	for at := b.Inputs.From; at < b.Inputs.From+b.Inputs.Count; at++ {
		now, err := file.Sense(f, false, at, 1)
		got, readErr := file.Bits(now, true, at, 1)
		are(t, got, err, []bool{true}, readErr, "Sense", at)
	}
	for at := b.Regs.From; at < b.Regs.From+b.Regs.Count; at++ {
		now, err := file.Sense(f, true, at, -at)
		got, readErr := file.Words(now, true, at, 1)
		are(t, got, err, []uint16{uint16(65536 - at)}, readErr, "Sense of a register", at)
	}
}
