package data_test

import (
	"math"
	"math/rand"
	"slices"
	"testing"

	"bilge/api"
	"bilge/ask"
	"bilge/data"
	"bilge/tell"
)

// functions are the tables', reading those that change nothing.
var (
	functions = []int{1, 2, 3, 4, 5, 6, 15, 16, 22, 23}
	reading   = []int{1, 2, 3, 4}
)

// some is a bank whose windows have other places and other sizes each; what does not work lies among the holding registers, and its places are those of other tables too.
var some = api.Bank{
	Coils:   api.Window{From: 3, Count: 21},
	Inputs:  api.Window{From: 65520, Count: 16},
	Holding: api.Window{From: 10, Count: 12},
	Regs:    api.Window{From: 0, Count: 15},
	Broken:  api.Window{From: 14, Count: 2},
}

// far are numbers at the ends of int, and at those of other types.
var far = []int{
	math.MinInt, math.MinInt + 1, -1 << 32, -1 << 31, -65537, -65536, -65535, -256, -1,
	65536, 65537, 65536 + 3, 131072, 1 << 31, 1 << 32, 1<<32 + 3, math.MaxInt - 1, math.MaxInt,
}

// The tables of these tests, in the order of a bank's windows.
const (
	coils = iota
	inputs
	holding
	regs
	tables
)

// place is a place of one of the tables.
type place struct{ table, at int }

// memory is a file, place by place: what stands at each, a bit as 0 or 1; there is no other place.
type memory struct {
	bank  api.Bank
	cells map[place]int
}

// windowsOf tells where a bank keeps its windows.
func windowsOf(b *api.Bank) []*api.Window {
	return []*api.Window{&b.Coils, &b.Inputs, &b.Holding, &b.Regs, &b.Broken}
}

// remember tells the memory of a bank: all cells differ from those around them, and from those of the other tables.
func remember(b api.Bank) memory {
	m := memory{b, map[place]int{}}
	for table, w := range windowsOf(&b)[:tables] {
		for at := w.From; at < w.From+w.Count; at++ {
			m.cells[place{table, at}] = (40503*at + 30011*table + 258) % 65536
			if table == coils || table == inputs {
				m.cells[place{table, at}] = (at + table) / 2 % 2
			}
		}
	}
	return m
}

// file tells the file of a memory.
func (m memory) file() api.File {
	f := api.File{Bank: m.bank}
	bits := []*[]bool{coils: &f.Coils, inputs: &f.Inputs}
	for table, l := range bits {
		w := *windowsOf(&m.bank)[table]
		for at := w.From; at < w.From+w.Count; at++ {
			*l = append(*l, m.cells[place{table, at}] == 1)
		}
	}
	words := []*[]uint16{holding: &f.Holding, regs: &f.Regs}
	for table, l := range words {
		w := *windowsOf(&m.bank)[table]
		for at := w.From; l != nil && at < w.From+w.Count; at++ {
			*l = append(*l, uint16(m.cells[place{table, at}]))
		}
	}
	return f
}

// placesOf tells an ask's places.
func placesOf(a api.Ask) []place {
	table := map[int]int{1: coils, 2: inputs, 3: holding, 4: regs, 5: coils, 6: holding, 15: coils, 16: holding, 22: holding, 23: holding}[a.Function]
	count := a.Count
	if a.Function == 5 || a.Function == 6 || a.Function == 22 {
		count = 1
	}
	var l []place
	for k := range count {
		l = append(l, place{table, a.Addr + k})
	}
	for k := range a.Many {
		l = append(l, place{table, a.From + k})
	}
	return l
}

// code tells by which exception an ask is refused, place by place.
func (m memory) code(a api.Ask) api.Errno {
	code := api.OK
	for _, p := range placesOf(a) {
		if _, ok := m.cells[p]; !ok {
			return api.BadAddress
		}
		if b := m.bank.Broken; p.table == holding && p.at >= b.From && p.at < b.From+b.Count {
			code = api.BadDevice
		}
	}
	return code
}

// do does an ask place by place, and tells what is told.
func (m memory) do(a api.Ask) api.Tell {
	t := api.Tell{Function: a.Function}
	if t.Code = m.code(a); t.Code != api.OK {
		return t
	}
	l := placesOf(a)
	switch a.Function {
	case 1, 2:
		for _, p := range l {
			t.Bits = append(t.Bits, m.cells[p] == 1)
		}
	case 3, 4:
		for _, p := range l {
			t.Regs = append(t.Regs, uint16(m.cells[p]))
		}
	case 5, 6:
		m.cells[l[0]] = a.Value
		if a.Function == 5 {
			m.cells[l[0]] /= 65280
		}
		t.Addr, t.Value = a.Addr, a.Value
	case 15:
		for k, set := range a.Bits {
			m.cells[l[k]] = 0
			if set {
				m.cells[l[k]] = 1
			}
		}
		t.Addr, t.Count = a.Addr, a.Count
	case 16, 23:
		for k, r := range a.Regs {
			m.cells[l[k]] = int(r)
		}
		if a.Function == 16 {
			t.Addr, t.Count = a.Addr, a.Count
			break
		}
		for _, p := range l[a.Count:] {
			t.Regs = append(t.Regs, uint16(m.cells[p]))
		}
	case 22:
		old, now := m.cells[l[0]], 0
		for bit := 1; bit < 65536; bit *= 2 {
			from := old
			if a.And/bit%2 == 0 {
				from = a.Or
			}
			now += from / bit % 2 * bit
		}
		m.cells[l[0]] = now
		t.Addr, t.And, t.Or = a.Addr, a.And, a.Or
	}
	return t
}

// bitsOf and regsOf tell so many cells to be written.
func bitsOf(n int) []bool {
	l := make([]bool, n)
	for k := range l {
		l[k] = k%3 == 0 || k%7 == 1
	}
	return l
}

func regsOf(n int) []uint16 {
	l := make([]uint16, n)
	for k := range l {
		l[k] = uint16(977*k + 515)
	}
	return l
}

// asking tells an ask of a function for so many places from one on; of 23 it reads what it writes.
func asking(function, addr, count int) api.Ask {
	a := api.Ask{Function: function, Addr: addr}
	switch function {
	case 5:
		a.Value = 65280
	case 6:
		a.Value = 0xABCD
	case 22:
		a.And, a.Or = 0x0FF2, 0x2505
	case 15:
		a.Count, a.Bits = count, bitsOf(count)
	case 16:
		a.Count, a.Regs = count, regsOf(count)
	case 23:
		return exchange(addr, count, addr, count)
	default:
		a.Count = count
	}
	return a
}

// exchange tells an ask that writes so many registers from a place on, and reads so many from another.
func exchange(addr, count, from, many int) api.Ask {
	return api.Ask{Function: 23, Addr: addr, Count: count, From: from, Many: many, Regs: regsOf(count)}
}

// equal holds all that two files hold against one another, sameTell all that two tells do.
func equal(a, b api.File) bool {
	return a.Bank == b.Bank && slices.Equal(a.Coils, b.Coils) && slices.Equal(a.Inputs, b.Inputs) &&
		slices.Equal(a.Holding, b.Holding) && slices.Equal(a.Regs, b.Regs)
}

func sameTell(a, b api.Tell) bool {
	return a.Function == b.Function && a.Code == b.Code && a.Addr == b.Addr && a.Count == b.Count && a.Value == b.Value &&
		a.And == b.And && a.Or == b.Or && slices.Equal(a.Bits, b.Bits) && slices.Equal(a.Regs, b.Regs)
}

// twin tells a file in memory of its own.
func twin(f api.File) api.File {
	return api.File{Bank: f.Bank, Coils: slices.Clone(f.Coils), Inputs: slices.Clone(f.Inputs),
		Holding: slices.Clone(f.Holding), Regs: slices.Clone(f.Regs)}
}

// does fails, if an ask is done, refused or told otherwise than place by place; it answers the file behind it, and what is told.
func does(t *testing.T, m memory, f api.File, a api.Ask) (api.File, api.Tell) {
	t.Helper()
	before := twin(f)
	if code := data.Code(f, a); code != m.code(a) {
		t.Fatalf("Code of %v: %d, not %d", a, code, m.code(a))
	}
	now, told, err := data.Do(f, a)
	want := m.do(a)
	if err != api.OK || !sameTell(told, want) {
		t.Fatalf("Do of %v: told %v, %d, not %v", a, told, err, want)
	}
	if !equal(now, m.file()) {
		t.Fatalf("Do of %v: the file is %v, not %v", a, now, m.file())
	}
	if !equal(f, before) {
		t.Fatalf("Do of %v: the file that was handed in is changed", a)
	}
	follows(t, before, now, a, told)
	return now, told
}

// follows fails, if what DA4 says does not hold of one ask.
func follows(t *testing.T, before, now api.File, a api.Ask, told api.Tell) {
	t.Helper()
	if !tell.Right(a, told) {
		t.Fatalf("%v does not answer %v", told, a)
	}
	if still := told.Code != api.OK || !data.Writes(a.Function); still && !equal(now, before) {
		t.Fatalf("%v, told %v, changes the file", a, told)
	}
	if told.Code != api.OK {
		return
	}
	_, bits, err := data.Do(now, api.Ask{Function: 1, Addr: a.Addr, Count: a.Count})
	if a.Function == 15 && (err != api.OK || !slices.Equal(bits.Bits, a.Bits)) {
		t.Fatalf("%v: reads %v, %d", a, bits, err)
	}
	_, words, err := data.Do(now, api.Ask{Function: 3, Addr: a.Addr, Count: a.Count})
	if (a.Function == 16 || a.Function == 23) && (err != api.OK || !slices.Equal(words.Regs, a.Regs)) {
		t.Fatalf("%v: reads %v, %d", a, words, err)
	}
}

// once does an ask of a new memory.
func once(t *testing.T, b api.Bank, a api.Ask) api.Tell {
	t.Helper()
	m := remember(b)
	_, told := does(t, m, m.file(), a)
	return told
}

// says fails, if what is said to a file, and the file behind it, is otherwise than by hand.
func says(t *testing.T, f api.File, pdu []byte, now api.File, said []byte) {
	t.Helper()
	before, bytes := twin(f), slices.Clone(pdu)
	got, b, err := data.Serve(f, pdu)
	if err != api.OK || !slices.Equal(b, said) || !equal(got, now) {
		t.Fatalf("Serve of %v: %v, %d, not %v; the file is %v, not %v", pdu, b, err, said, got, now)
	}
	if !equal(f, before) || !slices.Equal(pdu, bytes) {
		t.Fatalf("Serve of %v: what was handed in is changed", pdu)
	}
}

// wrongFiles tells files that may not be, each for one reason alone.
func wrongFiles() []api.File {
	wrong := []api.Window{{From: -1}, {From: -1, Count: 3}, {Count: -1}, {From: 65536}, {From: 65535, Count: 2},
		{Count: 65537}, {From: math.MaxInt, Count: math.MaxInt}, {From: math.MinInt, Count: 3}, {Count: math.MinInt}}
	var all []api.File
	for k := range 5 {
		for _, w := range wrong {
			f := remember(some).file()
			*windowsOf(&f.Bank)[k] = w
			all = append(all, f)
		}
	}
	for k := range tables {
		for _, n := range []int{-1, 1} {
			b := some
			windowsOf(&b)[k].Count += n
			if k == inputs {
				windowsOf(&b)[k].From -= n
			}
			f := remember(b).file()
			f.Bank = some
			all = append(all, f)
		}
	}
	none := [tables]api.File{}
	for k := range none {
		none[k] = remember(some).file()
	}
	none[coils].Coils, none[inputs].Inputs, none[holding].Holding, none[regs].Regs = nil, []bool{}, nil, []uint16{}
	return append(all, none[:]...)
}

// wrongAsks tells asks that may not be, each for one reason alone, though their places are in the tables of some.
func wrongAsks() []api.Ask {
	all := []api.Ask{{}, {Function: 7, Addr: 10, Count: 1}, {Function: 257, Addr: 10, Count: 1}, {Function: -1, Addr: 10, Count: 1},
		{Function: 5, Addr: 10, Value: 1}, {Function: 5, Addr: 10, Value: 65281}, {Function: 6, Addr: 10, Value: 65536}, {Function: 6, Addr: 10, Value: -1},
		{Function: 22, Addr: 10, And: 65536}, {Function: 22, Addr: 10, Or: -1}, {Function: 22, Addr: 10, Value: 1}, {Function: 5, Addr: 10, Count: 1},
		{Function: 3, Addr: 10, Count: 126}, {Function: 1, Addr: 10, Count: 2001}, exchange(10, 122, 10, 1), exchange(10, 1, 10, 126), exchange(10, 1, 10, 0)}
	for _, function := range functions {
		for _, n := range far {
			a := asking(function, 10, 1)
			a.Addr = n
			all = append(all, a)
			a = asking(function, 10, 1)
			a.Count = n
			all = append(all, a)
		}
		a, b := asking(function, 10, 1), asking(function, 10, 1)
		a.Bits, b.Regs = append(a.Bits, true), append(b.Regs, 1)
		all = append(all, a, b)
		if a = asking(function, 10, 1); a.Count == 1 {
			a.Count = 0
			all = append(all, a)
		}
	}
	return all
}

// nothing fails, if a call answers anything but an error.
func nothing(t *testing.T, f api.File, a api.Ask) {
	t.Helper()
	if code := data.Code(f, a); code != api.ErrArg {
		t.Fatalf("Code of %v, %v: %d, not ErrArg", f, a, code)
	}
	if now, told, err := data.Do(f, a); err != api.ErrArg || !equal(now, api.File{}) || !sameTell(told, api.Tell{}) {
		t.Fatalf("Do of %v, %v: %v, %v, %d, not nothing and ErrArg", f, a, now, told, err)
	}
}

// DA1: Code and Writes.

func TestWrites(t *testing.T) {
	write := []int{5, 6, 15, 16, 22, 23}
	for function := -300; function < 1000; function++ {
		if data.Writes(function) != slices.Contains(write, function) {
			t.Errorf("function %d: %v", function, data.Writes(function))
		}
	}
	for _, n := range far {
		if data.Writes(n) {
			t.Errorf("function %d writes", n)
		}
	}
	for _, of := range write {
		for _, n := range []int{of + 256, of - 256, of + 65536, of + 1<<32, of + math.MinInt, of + 128, -of} {
			if data.Writes(n) {
				t.Errorf("function %d writes", n)
			}
		}
	}
}

func TestCodeByHand(t *testing.T) {
	f := remember(some).file()
	for _, c := range []struct {
		a    api.Ask
		code api.Errno
	}{
		{asking(1, 3, 21), api.OK}, {asking(1, 3, 22), api.BadAddress}, {asking(1, 2, 2), api.BadAddress}, {asking(1, 23, 1), api.OK},
		{asking(1, 24, 1), api.BadAddress}, {asking(1, 14, 2), api.OK},
		{asking(2, 65520, 16), api.OK}, {asking(2, 65535, 1), api.OK}, {asking(2, 65535, 2), api.BadAddress}, {asking(2, 65519, 1), api.BadAddress},
		{asking(3, 10, 4), api.OK}, {asking(3, 10, 5), api.BadDevice}, {asking(3, 15, 1), api.BadDevice}, {asking(3, 16, 6), api.OK},
		{asking(3, 16, 7), api.BadAddress}, {asking(3, 10, 13), api.BadAddress}, {asking(3, 9, 1), api.BadAddress}, {asking(3, 9, 13), api.BadAddress},
		{asking(4, 0, 15), api.OK}, {asking(4, 14, 1), api.OK}, {asking(4, 14, 2), api.BadAddress}, {asking(4, 15, 1), api.BadAddress},
		{asking(5, 14, 1), api.OK}, {asking(5, 3, 1), api.OK}, {asking(5, 2, 1), api.BadAddress}, {asking(5, 24, 1), api.BadAddress},
		{asking(6, 13, 1), api.OK}, {asking(6, 14, 1), api.BadDevice}, {asking(6, 16, 1), api.OK}, {asking(6, 22, 1), api.BadAddress}, {asking(6, 9, 1), api.BadAddress},
		{asking(15, 3, 21), api.OK}, {asking(15, 4, 21), api.BadAddress}, {asking(15, 14, 2), api.OK},
		{asking(16, 10, 4), api.OK}, {asking(16, 13, 2), api.BadDevice}, {asking(16, 13, 10), api.BadAddress}, {asking(16, 65535, 2), api.BadAddress},
		{asking(22, 21, 1), api.OK}, {asking(22, 15, 1), api.BadDevice}, {asking(22, 22, 1), api.BadAddress},
		{exchange(10, 4, 16, 6), api.OK}, {exchange(16, 6, 10, 4), api.OK}, {exchange(14, 1, 10, 4), api.BadDevice}, {exchange(10, 4, 14, 1), api.BadDevice},
		{exchange(14, 1, 14, 1), api.BadDevice}, {exchange(22, 1, 14, 1), api.BadAddress}, {exchange(14, 1, 22, 1), api.BadAddress},
		{exchange(22, 1, 10, 1), api.BadAddress}, {exchange(10, 1, 22, 1), api.BadAddress}, {exchange(9, 1, 9, 1), api.BadAddress},
	} {
		if code := data.Code(f, c.a); code != c.code {
			t.Errorf("Code of %v: %d, not %d", c.a, code, c.code)
		}
		once(t, some, c.a)
	}
}

// banks are banks of few places: what does not work lies in, around, and beside the holding registers, at either end of them, and at either end of all places; some tables have no place.
func banks() []api.Bank {
	l := []api.Bank{some, {}, {Broken: api.Window{Count: 65536}}}
	for _, broken := range []api.Window{{}, {From: 10}, {From: 8, Count: 2}, {From: 8, Count: 3}, {From: 9, Count: 9}, {From: 11, Count: 1}, {From: 15, Count: 1}, {From: 15, Count: 65521}, {From: 16, Count: 3}, {Count: 65536}} {
		l = append(l, api.Bank{Holding: api.Window{From: 10, Count: 6}, Broken: broken, Regs: api.Window{From: 9, Count: 2}, Inputs: api.Window{Count: 1}})
	}
	return append(l,
		api.Bank{Coils: api.Window{From: 65535, Count: 1}, Holding: api.Window{From: 65532, Count: 4}, Broken: api.Window{From: 65534, Count: 1}, Inputs: api.Window{From: 65533, Count: 2}, Regs: api.Window{From: 65535, Count: 1}},
		api.Bank{Coils: api.Window{Count: 2}, Holding: api.Window{Count: 3}, Broken: api.Window{Count: 1}, Inputs: api.Window{From: 1, Count: 9}, Regs: api.Window{Count: 3}})
}

// near tells the places around a bank's windows, and around both ends of all places.
func near(b api.Bank) []int {
	l := []int{0, 1, 2, 255, 256, 32768, 65533, 65534, 65535}
	for _, w := range windowsOf(&b) {
		l = append(l, w.From-1, w.From, w.From+1, w.From+w.Count/2, w.From+w.Count-1, w.From+w.Count, w.From+w.Count+1)
	}
	slices.Sort(l)
	l = slices.Compact(l)
	return slices.DeleteFunc(l, func(at int) bool { return at < 0 || at > 65535 })
}

// each ask of one range near the windows is done, or refused, as place by place.
func TestEachPlace(t *testing.T) {
	for _, b := range banks() {
		for _, function := range functions {
			for _, at := range near(b) {
				for _, count := range []int{1, 2, 3, 4, 5, 6, 7, 12, 13, 15, 16, 21, 22} {
					once(t, b, asking(function, at, count))
				}
			}
		}
	}
}

// 23 has two ranges.
func TestEachTwoRanges(t *testing.T) {
	for _, broken := range []api.Window{{}, {From: 2, Count: 1}, {From: 4, Count: 2}, {From: 5, Count: 9}} {
		b := api.Bank{Holding: api.Window{From: 1, Count: 5}, Broken: broken}
		for addr := range 8 {
			for count := 1; count < 7; count++ {
				for from := range 8 {
					for many := 1; many < 7; many++ {
						once(t, b, exchange(addr, count, from, many))
					}
				}
			}
		}
	}
}

// all functions can ask for as many places as they may, up to the last one that there is; one place on, there is one too few.
func TestMostPlaces(t *testing.T) {
	all := api.Window{Count: 65536}
	m := remember(api.Bank{Coils: all, Inputs: all, Holding: all, Regs: all})
	f := m.file()
	for function, most := range map[int]int{1: 2000, 2: 2000, 3: 125, 4: 125, 5: 1, 6: 1, 15: 1968, 16: 123, 22: 1, 23: 121} {
		for _, at := range []int{0, 30000, 65536 - most, 65536 - most + 1} {
			if at > 65535 {
				continue
			}
			a := asking(function, at, most)
			code := api.OK
			if at+most > 65536 {
				code = api.BadAddress
			}
			if got := data.Code(f, a); got != code {
				t.Errorf("function %d, %d from %d on: %d", function, most, at, got)
			}
			now, told, err := data.Do(f, a)
			want := m.do(a)
			if f = m.file(); err != api.OK || !sameTell(told, want) || !equal(now, f) {
				t.Errorf("function %d, %d from %d on: Code %d, error %d, or another file", function, most, at, told.Code, err)
			}
		}
	}
	if code := data.Code(f, exchange(0, 121, 65536-125, 125)); code != api.OK {
		t.Errorf("125 are read: %d", code)
	}
}

func TestWrongFiles(t *testing.T) {
	for _, f := range wrongFiles() {
		for _, function := range functions {
			nothing(t, f, asking(function, 10, 1))
			nothing(t, f, asking(function, 65535, 2)) // a place that there is not comes behind
		}
		nothing(t, f, api.Ask{})
	}
}

func TestWrongAsks(t *testing.T) {
	for _, a := range wrongAsks() {
		if ask.Right(a) {
			t.Fatalf("%v may be", a)
		}
		nothing(t, remember(some).file(), a)
		nothing(t, api.File{}, a)
	}
}

// DA2: Do.

func TestDoByHand(t *testing.T) {
	f := api.File{
		Bank: api.Bank{Coils: api.Window{From: 5, Count: 4}, Inputs: api.Window{From: 7, Count: 2},
			Holding: api.Window{From: 2, Count: 5}, Regs: api.Window{From: 0, Count: 2}, Broken: api.Window{From: 6, Count: 1}},
		Coils: []bool{true, false, false, true}, Inputs: []bool{false, true}, Holding: []uint16{18, 7, 8, 9, 10}, Regs: []uint16{300, 400},
	}
	coils := func(l ...bool) api.File { g := f; g.Coils = l; return g }
	holding := func(l ...uint16) api.File { g := f; g.Holding = l; return g }
	for _, c := range []struct {
		a    api.Ask
		now  api.File
		told api.Tell
	}{
		{api.Ask{Function: 1, Addr: 5, Count: 3}, f, api.Tell{Function: 1, Bits: []bool{true, false, false}}},
		{api.Ask{Function: 1, Addr: 8, Count: 1}, f, api.Tell{Function: 1, Bits: []bool{true}}},
		{api.Ask{Function: 2, Addr: 7, Count: 2}, f, api.Tell{Function: 2, Bits: []bool{false, true}}},
		{api.Ask{Function: 3, Addr: 3, Count: 3}, f, api.Tell{Function: 3, Regs: []uint16{7, 8, 9}}},
		{api.Ask{Function: 4, Addr: 1, Count: 1}, f, api.Tell{Function: 4, Regs: []uint16{400}}},
		{api.Ask{Function: 5, Addr: 6, Value: 65280}, coils(true, true, false, true), api.Tell{Function: 5, Addr: 6, Value: 65280}},
		{api.Ask{Function: 5, Addr: 6}, f, api.Tell{Function: 5, Addr: 6}},
		{api.Ask{Function: 5, Addr: 8}, coils(true, false, false, false), api.Tell{Function: 5, Addr: 8}},
		{api.Ask{Function: 6, Addr: 5, Value: 65535}, holding(18, 7, 8, 65535, 10), api.Tell{Function: 6, Addr: 5, Value: 65535}},
		{api.Ask{Function: 6, Addr: 2}, holding(0, 7, 8, 9, 10), api.Tell{Function: 6, Addr: 2}},
		{api.Ask{Function: 15, Addr: 6, Count: 3, Bits: []bool{true, true, false}}, coils(true, true, true, false), api.Tell{Function: 15, Addr: 6, Count: 3}},
		{api.Ask{Function: 16, Addr: 3, Count: 2, Regs: []uint16{1, 2}}, holding(18, 1, 2, 9, 10), api.Tell{Function: 16, Addr: 3, Count: 2}},
		{api.Ask{Function: 22, Addr: 2, And: 242, Or: 37}, holding(23, 7, 8, 9, 10), api.Tell{Function: 22, Addr: 2, And: 242, Or: 37}},
		{api.Ask{Function: 22, Addr: 3, And: 65535, Or: 65535}, f, api.Tell{Function: 22, Addr: 3, And: 65535, Or: 65535}},
		{api.Ask{Function: 22, Addr: 3, Or: 65534}, holding(18, 65534, 8, 9, 10), api.Tell{Function: 22, Addr: 3, Or: 65534}},
		{api.Ask{Function: 23, From: 2, Many: 3, Addr: 3, Count: 1, Regs: []uint16{99}}, holding(18, 99, 8, 9, 10), api.Tell{Function: 23, Regs: []uint16{18, 99, 8}}},
		{api.Ask{Function: 23, From: 2, Many: 1, Addr: 3, Count: 3, Regs: []uint16{4, 5, 6}}, holding(18, 4, 5, 6, 10), api.Tell{Function: 23, Regs: []uint16{18}}},
		{api.Ask{Function: 23, From: 5, Many: 1, Addr: 4, Count: 2, Regs: []uint16{4, 5}}, holding(18, 7, 4, 5, 10), api.Tell{Function: 23, Regs: []uint16{5}}},
		{api.Ask{Function: 23, From: 5, Many: 2, Addr: 2, Count: 1, Regs: []uint16{4}}, f, api.Tell{Function: 23, Code: api.BadDevice}},
		{api.Ask{Function: 23, From: 2, Many: 1, Addr: 5, Count: 2, Regs: []uint16{4, 5}}, f, api.Tell{Function: 23, Code: api.BadDevice}},
		{api.Ask{Function: 23, From: 7, Many: 1, Addr: 2, Count: 1, Regs: []uint16{4}}, f, api.Tell{Function: 23, Code: api.BadAddress}},
		{api.Ask{Function: 16, Addr: 5, Count: 2, Regs: []uint16{1, 2}}, f, api.Tell{Function: 16, Code: api.BadDevice}},
		{api.Ask{Function: 16, Addr: 5, Count: 3, Regs: []uint16{1, 2, 3}}, f, api.Tell{Function: 16, Code: api.BadAddress}},
		{api.Ask{Function: 15, Addr: 8, Count: 2, Bits: []bool{false, false}}, f, api.Tell{Function: 15, Code: api.BadAddress}},
		{api.Ask{Function: 22, Addr: 6, Or: 1}, f, api.Tell{Function: 22, Code: api.BadDevice}},
		{api.Ask{Function: 3, Addr: 6, Count: 1}, f, api.Tell{Function: 3, Code: api.BadDevice}},
		{api.Ask{Function: 2, Addr: 5, Count: 1}, f, api.Tell{Function: 2, Code: api.BadAddress}},
		{api.Ask{Function: 4, Addr: 2, Count: 1}, f, api.Tell{Function: 4, Code: api.BadAddress}},
	} {
		now, told, err := data.Do(f, c.a)
		if err != api.OK || !equal(now, c.now) || !sameTell(told, c.told) {
			t.Errorf("Do of %v: %v, %v, %d, not %v, %v", c.a, now, told, err, c.now, c.told)
		}
		if code := data.Code(f, c.a); code != c.told.Code {
			t.Errorf("Code of %v: %d", c.a, code)
		}
		pdu, _ := ask.Print(c.a)
		said, _ := tell.Print(c.a, c.told)
		says(t, f, pdu, c.now, said)
	}
}

func TestEachValue(t *testing.T) {
	b := api.Bank{Holding: api.Window{From: 1, Count: 3}, Coils: api.Window{From: 1, Count: 3}}
	m := remember(b)
	f := m.file()
	for n := range 65536 {
		f, _ = does(t, m, f, api.Ask{Function: 6, Addr: 1 + n%3, Value: n})
		f, _ = does(t, m, f, api.Ask{Function: 5, Addr: 1 + n%3, Value: n % 2 * 65280})
		f, _ = does(t, m, f, api.Ask{Function: 22, Addr: 1 + n/7%3, And: n, Or: 65535 - n*31%65536})
	}
}

// long runs of asks by chance are done as place by place.
func TestRuns(t *testing.T) {
	r := rand.New(rand.NewSource(17))
	fine, refused := map[int]int{}, map[api.Errno]int{}
	for _, b := range banks() {
		m := remember(b)
		f := m.file()
		for range 1500 {
			a := chance(r, b)
			var told api.Tell
			if f, told = does(t, m, f, a); told.Code == api.OK {
				fine[a.Function]++
			}
			refused[told.Code]++
		}
	}
	for _, function := range functions {
		if fine[function] < 100 {
			t.Errorf("function %d is done %d times", function, fine[function])
		}
	}
	if refused[api.BadAddress] < 1000 || refused[api.BadDevice] < 300 {
		t.Errorf("refused: %v", refused)
	}
}

// chance tells an ask by chance, whose places are near the windows that it is for.
func chance(r *rand.Rand, b api.Bank) api.Ask {
	function := functions[r.Intn(len(functions))]
	table := placesOf(asking(function, 0, 1))[0].table
	w := *windowsOf(&b)[table]
	at := func() int { return min(max(w.From-1+r.Intn(w.Count+2), 0), 65535) }
	count := func() int { return 1 + r.Intn(1+r.Intn(w.Count+1)) }
	a := asking(function, at(), count())
	if function == 23 {
		a.From, a.Many = at(), count()
	}
	for k := range a.Regs {
		a.Regs[k] = uint16(r.Intn(65536))
	}
	for k := range a.Bits {
		a.Bits[k] = r.Intn(2) == 0
	}
	switch function {
	case 5:
		a.Value = 65280 * r.Intn(2)
	case 6:
		a.Value = r.Intn(65536)
	case 22:
		a.And, a.Or = r.Intn(65536), r.Intn(65536)
	}
	return a
}

// DA3: Serve.

func TestServeExample(t *testing.T) {
	four := func(l ...uint16) api.File {
		return api.File{Bank: api.Bank{Holding: api.Window{Count: 4}}, Holding: l}
	}
	says(t, four(0, 0, 0, 0), []byte{6, 0, 1, 0, 9}, four(0, 9, 0, 0), []byte{6, 0, 1, 0, 9})
	says(t, four(0, 9, 0, 0), []byte{3, 0, 0, 0, 2}, four(0, 9, 0, 0), []byte{3, 4, 0, 0, 0, 9})
	says(t, four(0, 9, 0, 0), []byte{3, 0, 3, 0, 2}, four(0, 9, 0, 0), []byte{131, 2})
}

func TestServeByHand(t *testing.T) {
	f := api.File{
		Bank:  api.Bank{Coils: api.Window{From: 19, Count: 12}, Holding: api.Window{From: 2, Count: 5}, Broken: api.Window{From: 6, Count: 1}},
		Coils: []bool{true, false, true, true, false, false, true, true, true, false, true, true}, Holding: []uint16{18, 7, 8, 9, 10},
	}
	g := twin(f)
	g.Coils[0], g.Coils[1], g.Coils[2] = false, true, false
	h := twin(f)
	h.Holding[1], h.Holding[2] = 258, 772
	for _, c := range []struct {
		pdu  []byte
		now  api.File
		said []byte
	}{
		{[]byte{1, 0, 19, 0, 10}, f, []byte{1, 2, 205, 1}},
		{[]byte{1, 0, 19, 0, 13}, f, []byte{129, 2}},
		{[]byte{1, 0, 19, 0, 0}, f, []byte{129, 3}},
		{[]byte{1, 0, 19, 7, 209}, f, []byte{129, 3}}, // 2001: the number comes before the place
		{[]byte{1, 0, 19, 7, 208}, f, []byte{129, 2}},
		{[]byte{1, 0, 19, 0}, f, []byte{129, 3}},
		{[]byte{1, 0, 19, 0, 1, 0}, f, []byte{129, 3}},
		{[]byte{1}, f, []byte{129, 3}},
		{[]byte{2, 0, 19, 0, 1}, f, []byte{130, 2}},
		{[]byte{3, 0, 6, 0, 1}, f, []byte{131, 4}},
		{[]byte{4, 0, 2, 0, 1}, f, []byte{132, 2}},
		{[]byte{5, 0, 19, 1, 0}, f, []byte{133, 3}},
		{[]byte{5, 0, 18, 255, 0}, f, []byte{133, 2}},
		{[]byte{15, 0, 19, 0, 3, 1, 2}, g, []byte{15, 0, 19, 0, 3}},
		{[]byte{15, 0, 19, 0, 3, 1, 250}, g, []byte{15, 0, 19, 0, 3}}, // the bits behind Count are not looked at
		{[]byte{15, 0, 19, 0, 3, 2, 2, 0}, f, []byte{143, 3}},
		{[]byte{16, 0, 3, 0, 2, 4, 1, 2, 3, 4}, h, []byte{16, 0, 3, 0, 2}},
		{[]byte{16, 0, 3, 0, 2, 4, 1, 2, 3}, f, []byte{144, 3}},
		{[]byte{16, 0, 5, 0, 2, 4, 1, 2, 3, 4}, f, []byte{144, 4}},
		{[]byte{22, 0, 6, 0, 0, 0, 0}, f, []byte{150, 4}},
		{[]byte{23, 0, 2, 0, 3, 0, 3, 0, 2, 4, 1, 2, 3, 4}, h, []byte{23, 6, 0, 18, 1, 2, 3, 4}},
		{[]byte{23, 0, 6, 0, 3, 0, 3, 0, 2, 4, 1, 2, 3, 4}, f, []byte{151, 2}},
		{[]byte{7}, f, []byte{135, 1}},
		{[]byte{127, 1, 2, 3}, f, []byte{255, 1}},
	} {
		says(t, f, c.pdu, c.now, c.said)
	}
}

// each first byte: with nothing behind it, with what 3 would have, and with too much.
func TestEachFirstByte(t *testing.T) {
	f := remember(some).file()
	for first := range 256 {
		for _, rest := range [][]byte{nil, {0, 10, 0, 1}, {0, 10, 0, 1, 7, 7, 7, 7, 7, 7}, make([]byte, 300)} {
			pdu := append([]byte{byte(first)}, rest...)
			switch {
			case first == 0 || first > 127:
				silent(t, f, pdu, api.ErrNone)
			case !slices.Contains(functions, first):
				says(t, f, pdu, f, []byte{byte(first + 128), 1})
			case len(rest) != 4:
				says(t, f, pdu, f, []byte{byte(first + 128), 3})
			case first == 3:
				says(t, f, pdu, f, []byte{3, 2, byte(f.Holding[0] >> 8), byte(f.Holding[0])})
			}
		}
	}
}

// silent fails, if something is said, or the file is told otherwise than it was.
func silent(t *testing.T, f api.File, pdu []byte, want api.Errno) {
	t.Helper()
	before := twin(f)
	now, said, err := data.Serve(f, pdu)
	if err != want || len(said) != 0 || !equal(now, before) || !equal(f, before) {
		t.Fatalf("Serve of %v: %v, %v, %d, not the file, nothing and error %d", pdu, now, said, err, want)
	}
}

func TestServeEmpty(t *testing.T) {
	for _, b := range banks() {
		f := remember(b).file()
		silent(t, f, nil, api.ErrShort)
		silent(t, f, []byte{}, api.ErrShort)
		silent(t, f, []byte{3, 0, 10, 0, 1}[:0], api.ErrShort) // what stands behind is not read
		silent(t, f, []byte{0}, api.ErrNone)
		silent(t, f, []byte{131, 0, 10, 0, 1}, api.ErrNone)
	}
}

func TestServeOfWrongFiles(t *testing.T) {
	for _, f := range wrongFiles() {
		for _, pdu := range [][]byte{nil, {0}, {128}, {7}, {3}, {3, 0, 10, 0, 1}, {6, 0, 10, 0, 1}, {1, 255, 255, 0, 2}} {
			if now, said, err := data.Serve(f, pdu); err != api.ErrArg || len(said) != 0 || !equal(now, api.File{}) {
				t.Fatalf("Serve of %v, %v: %v, %v, %d, not nothing and ErrArg", f, pdu, now, said, err)
			}
		}
	}
}

// what is said to a file in long runs comes to what is asked of it: whole asks, and those that are spoilt or cut.
func TestServeRuns(t *testing.T) {
	r := rand.New(rand.NewSource(18))
	kinds := map[api.Errno]int{}
	for _, b := range banks() {
		m := remember(b)
		f := m.file()
		for range 1500 {
			pdu, _ := ask.Print(chance(r, b))
			switch r.Intn(6) {
			case 0:
				pdu[r.Intn(len(pdu))] = byte(r.Intn(256))
			case 1:
				pdu = pdu[:r.Intn(len(pdu)+1)]
			case 2:
				pdu = append(pdu, byte(r.Intn(256)))
			}
			kinds[serves(t, m, &f, pdu)]++
		}
	}
	for _, code := range []api.Errno{api.OK, api.BadFunction, api.BadAddress, api.BadValue, api.BadDevice, api.ErrShort, api.ErrNone} {
		if kinds[code] < 20 {
			t.Errorf("%d were answered by %d", kinds[code], code)
		}
	}
}

// serves fails, if what is said to a file is answered otherwise than place by place; it tells the error, or the code that is said.
func serves(t *testing.T, m memory, f *api.File, pdu []byte) api.Errno {
	t.Helper()
	if len(pdu) == 0 {
		silent(t, *f, pdu, api.ErrShort)
		return api.ErrShort
	}
	if pdu[0] == 0 || pdu[0] > 127 {
		silent(t, *f, pdu, api.ErrNone)
		return api.ErrNone
	}
	a, err := ask.Parse(pdu)
	if err != api.OK {
		says(t, *f, pdu, *f, []byte{pdu[0] + 128, byte(err)})
		return err
	}
	want := m.do(a)
	said := []byte{pdu[0] + 128, byte(want.Code)}
	if want.Code == api.OK {
		said, _ = tell.Print(a, want)
	}
	now := m.file()
	says(t, *f, pdu, now, said)
	*f = now
	return want.Code
}

// DA4: what follows; what one ask comes to is looked at by does.

// an exception of what is said changes nothing, whichever it is; nor does what reads.
func TestNothingChanges(t *testing.T) {
	f := remember(some).file()
	for first := range 256 {
		for _, addr := range []int{9, 10, 14, 65535} {
			for n := range 12 {
				pdu := append([]byte{byte(first), byte(addr / 256), byte(addr), 0, 1, 2}, make([]byte, n)...)[:n+1]
				now, said, err := data.Serve(f, pdu)
				refused := err == api.OK && said[0] > 127
				if still := err != api.OK || refused || slices.Contains(reading, first); still && !equal(now, f) {
					t.Fatalf("%v changes the file", pdu)
				}
			}
		}
	}
}

func TestWrittenIsRead(t *testing.T) {
	m := remember(some)
	f := m.file()
	for n := range 200 {
		f, _ = does(t, m, f, api.Ask{Function: 5, Addr: 3 + n%21, Value: n / 21 % 2 * 65280})
		_, told, _ := data.Do(f, api.Ask{Function: 1, Addr: 3 + n%21, Count: 1})
		if !slices.Equal(told.Bits, []bool{n/21%2 == 1}) {
			t.Fatalf("coil %d: %v", 3+n%21, told)
		}
		f, _ = does(t, m, f, api.Ask{Function: 6, Addr: 16 + n%6, Value: 257 * n % 65536})
		_, told, _ = data.Do(f, api.Ask{Function: 3, Addr: 16 + n%6, Count: 1})
		if !slices.Equal(told.Regs, []uint16{uint16(257 * n)}) {
			t.Fatalf("register %d: %v", 16+n%6, told)
		}
		f, told, _ = data.Do(f, api.Ask{Function: 23, Addr: 16, Count: 2, Regs: []uint16{uint16(n), 5}, From: 17, Many: 1})
		m.cells[place{holding, 16}], m.cells[place{holding, 17}] = n, 5
		if !slices.Equal(told.Regs, []uint16{5}) {
			t.Fatalf("23 tells %v", told)
		}
	}
}

// Rules 4 and 5: memory.

// framed tells a file whose cells stand among others that are none of its own, and a call that asks whether all of them are as they were.
func framed() (api.File, func() bool) {
	wide := some
	for _, w := range []*api.Window{&wide.Coils, &wide.Holding} {
		w.From, w.Count = w.From-2, w.Count+4
	}
	wide.Inputs.From, wide.Inputs.Count = wide.Inputs.From-4, wide.Inputs.Count+4
	wide.Regs.Count += 4
	g := remember(wide).file()
	was := twin(g)
	f := api.File{Bank: some, Coils: g.Coils[2:23], Inputs: g.Inputs[2:18], Holding: g.Holding[2:14], Regs: g.Regs[2:17]}
	return f, func() bool { return equal(g, was) }
}

// turn changes all cells of lists, and those behind them.
func turn(bits [][]bool, words [][]uint16) {
	for _, l := range bits {
		for k := range l[:cap(l)] {
			l[:cap(l)][k] = !l[:cap(l)][k]
		}
	}
	for _, l := range words {
		for k := range l[:cap(l)] {
			l[:cap(l)][k] = ^l[:cap(l)][k]
		}
	}
}

// bare tells whether nothing but zero cells stands behind a list's length.
func bare[T comparable](l []T) bool {
	var none T
	return !slices.ContainsFunc(l[:cap(l)][len(l):], func(c T) bool { return c != none })
}

// fresh fails, if a file that is told shares memory with the one that was handed in, or hands out what stands behind that one's lists.
func fresh(t *testing.T, what any, f, got api.File, unchanged func() bool) {
	t.Helper()
	if !unchanged() {
		t.Fatalf("%v: what was handed in is changed", what)
	}
	if !bare(got.Coils) || !bare(got.Inputs) || !bare(got.Holding) || !bare(got.Regs) {
		t.Errorf("%v: what stands behind the lists is handed out", what)
	}
	bits, words := [][]bool{got.Coils, got.Inputs}, [][]uint16{got.Holding, got.Regs}
	turn(bits, words)
	if !unchanged() {
		t.Errorf("%v: what was told is memory of what was handed in", what)
	}
	turn(bits, words)
	want := twin(got)
	turn([][]bool{f.Coils, f.Inputs}, [][]uint16{f.Holding, f.Regs})
	if !equal(got, want) {
		t.Errorf("%v: what was handed in is memory of what was told", what)
	}
}

// memoryAsks are asks of each function that are done, and some that are refused.
func memoryAsks() []api.Ask {
	var l []api.Ask
	for _, function := range functions {
		at := map[int]int{2: 65522, 4: 3}[function]
		if at == 0 {
			at = 16
		}
		l = append(l, asking(function, at, 3), asking(function, 200, 3), asking(function, 14, 1))
	}
	return append(l, exchange(16, 3, 10, 4), exchange(16, 3, 14, 1), exchange(14, 3, 10, 1))
}

func TestDoMemory(t *testing.T) {
	for _, a := range memoryAsks() {
		f, unchanged := framed()
		asked := a
		asked.Bits, asked.Regs = append(slices.Clone(a.Bits), true, true)[:len(a.Bits)], append(slices.Clone(a.Regs), 7, 7)[:len(a.Regs)]
		now, told, err := data.Do(f, asked)
		if err != api.OK || !ask.Same(a, asked) || !bare(told.Bits) || !bare(told.Regs) {
			t.Fatalf("%v: error %d, or what was handed in is changed, or what stands behind it is told", a, err)
		}
		kept := twin(now)
		bits, words := slices.Clone(told.Bits), slices.Clone(told.Regs)
		turn([][]bool{asked.Bits}, [][]uint16{asked.Regs})
		if !equal(now, kept) || !slices.Equal(told.Bits, bits) || !slices.Equal(told.Regs, words) {
			t.Errorf("%v: the ask's list is kept", a)
		}
		turn([][]bool{told.Bits}, [][]uint16{told.Regs})
		if !equal(now, kept) {
			t.Errorf("%v: the file and what is told share memory", a)
		}
		turn([][]bool{told.Bits}, [][]uint16{told.Regs})
		fresh(t, a, f, now, unchanged)
		if !slices.Equal(told.Bits, bits) || !slices.Equal(told.Regs, words) {
			t.Errorf("%v: what is told is memory of a file", a)
		}
		if _, unchanged = framed(); data.Code(f, a) == api.ErrArg || !unchanged() {
			t.Errorf("%v: Code changes what was handed in", a)
		}
	}
}

func TestCodeChangesNothing(t *testing.T) {
	for _, a := range memoryAsks() {
		f, unchanged := framed()
		asked := a
		asked.Bits, asked.Regs = slices.Clone(a.Bits), slices.Clone(a.Regs)
		if data.Code(f, asked); !unchanged() || !ask.Same(a, asked) {
			t.Errorf("%v: what was handed in is changed", a)
		}
	}
}

func TestServeMemory(t *testing.T) {
	pdus := [][]byte{nil, {0}, {200}, {7}, {3}, {15, 0, 16, 0, 3, 1, 250}}
	for _, a := range memoryAsks() {
		pdu, _ := ask.Print(a)
		pdus = append(pdus, pdu)
	}
	for _, pdu := range pdus {
		f, unchanged := framed()
		whole := append(slices.Clone(pdu), 3, 0, 1, 0, 1, 9)
		before := slices.Clone(whole)
		now, said, _ := data.Serve(f, whole[:len(pdu)])
		other, again, _ := data.Serve(f, pdu)
		if !slices.Equal(whole, before) || !slices.Equal(said, again) || !equal(now, other) {
			t.Fatalf("%v: %v and %v, or what was handed in is changed, or what stands behind it is read", pdu, said, again)
		}
		for k := range said[:cap(said)] {
			said[:cap(said)][k] ^= 255
		}
		if !slices.Equal(whole, before) {
			t.Errorf("%v: what is said is memory of what was handed in", pdu)
		}
		for k := range whole {
			whole[k] ^= 255
		}
		if !equal(now, other) {
			t.Errorf("%v: what was handed in is kept", pdu)
		}
		fresh(t, pdu, f, now, unchanged)
	}
}

// Rule 1: each call ends, and none panics.
func TestAnyArguments(t *testing.T) {
	r := rand.New(rand.NewSource(19))
	files := append(wrongFiles(), api.File{}, remember(some).file())
	number := func() int {
		if r.Intn(2) == 0 {
			return far[r.Intn(len(far))]
		}
		return r.Intn(30) - 2
	}
	for range 20000 {
		f := files[r.Intn(len(files))]
		a := api.Ask{Function: number(), Addr: number(), Count: number(), Value: number(), And: number(), Or: number(), From: number(), Many: number(),
			Bits: bitsOf(r.Intn(4)), Regs: regsOf(r.Intn(4))}
		now, told, err := data.Do(f, a)
		if right := err == api.OK; right == (data.Code(f, a) == api.ErrArg) || right == sameTell(told, api.Tell{}) || !right && !equal(now, api.File{}) {
			t.Fatalf("%v, %v: %v, %v, %d", f, a, now, told, err)
		}
		pdu := make([]byte, r.Intn(12))
		for k := range pdu {
			pdu[k] = byte(r.Intn(24))
		}
		_, said, err := data.Serve(f, pdu)
		if (err == api.OK) != (len(said) > 0) {
			t.Fatalf("%v, %v: %v, %d", f, pdu, said, err)
		}
	}
}
