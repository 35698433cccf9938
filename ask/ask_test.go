package ask_test

import (
	"math"
	"math/rand"
	"slices"
	"testing"

	"bilge/api"
	"bilge/ask"
)

// functions are the tables'.
var functions = []int{1, 2, 3, 4, 5, 6, 15, 16, 22, 23}

// far are numbers at the ends of int, and at those of other types.
var far = []int{
	math.MinInt, math.MinInt + 1, -1 << 32, -1 << 31, -65537, -65536, -65535, -65280, -256, -2, -1,
	65536, 65537, 65536 + 255, 65536 + 65280, 131072, 2 * 65280, 1 << 31, 1 << 32, 1<<32 + 1, math.MaxInt - 1, math.MaxInt,
}

// bitAt and regAt are what these tests hand over.
func bitAt(k int) bool   { return k%3 == 0 || k%7 == 1 }
func regAt(k int) uint16 { return uint16(40503*k + 258) }

// bitsOf and regsOf tell so many of them.
func bitsOf(n int) []bool {
	l := make([]bool, n)
	for k := range l {
		l[k] = bitAt(k)
	}
	return l
}

func regsOf(n int) []uint16 {
	l := make([]uint16, n)
	for k := range l {
		l[k] = regAt(k)
	}
	return l
}

// plain tells an ask of a function that may be, of so many places.
func plain(function, count int) api.Ask {
	a := api.Ask{Function: function, Addr: 0x1234}
	switch function {
	case 1, 2, 3, 4:
		a.Count = count
	case 5:
		a.Value = 65280
	case 6:
		a.Value = 0xABCD
	case 15:
		a.Count, a.Bits = count, bitsOf(count)
	case 16:
		a.Count, a.Regs = count, regsOf(count)
	case 22:
		a.And, a.Or = 0x00F2, 0x2500
	case 23:
		a.From, a.Many, a.Count, a.Regs = 0x0607, 5, count, regsOf(count)
	}
	return a
}

// counted tells the functions that ask for a number of places, and up to how many.
var counted = map[int]int{1: 2000, 2: 2000, 3: 125, 4: 125, 15: 1968, 16: 123, 23: 121}

// two tells a number's bytes.
func two(n int) []byte { return []byte{byte(n / 256), byte(n % 256)} }

// said tells the bytes of an ask that may be, put together by hand.
func said(a api.Ask) []byte {
	b := []byte{byte(a.Function)}
	add := func(l ...int) {
		for _, n := range l {
			b = append(b, two(n)...)
		}
	}
	switch a.Function {
	case 1, 2, 3, 4:
		add(a.Addr, a.Count)
	case 5, 6:
		add(a.Addr, a.Value)
	case 15:
		add(a.Addr, a.Count)
		l := make([]byte, (a.Count+7)/8)
		for k, set := range a.Bits {
			if set {
				l[k/8] += 1 << (k % 8)
			}
		}
		b = append(append(b, byte(len(l))), l...)
	case 16:
		add(a.Addr, a.Count)
		b = append(b, byte(2*a.Count))
		for _, r := range a.Regs {
			add(int(r))
		}
	case 22:
		add(a.Addr, a.And, a.Or)
	case 23:
		add(a.From, a.Many, a.Addr, a.Count)
		b = append(b, byte(2*a.Count))
		for _, r := range a.Regs {
			add(int(r))
		}
	}
	return b
}

// understood tells what the document understands of bytes, place by place.
func understood(b []byte) (api.Ask, api.Errno) {
	if len(b) == 0 {
		return api.Ask{}, api.ErrShort
	}
	if !slices.Contains(functions, int(b[0])) {
		return api.Ask{}, api.BadFunction
	}
	a := api.Ask{Function: int(b[0])}
	at := func(i int) int { return 256*int(b[i]) + int(b[i+1]) }
	length := map[int]int{22: 7, 15: 6, 16: 6, 23: 10}[a.Function]
	if length == 0 {
		length = 5
	}
	if len(b) < length {
		return api.Ask{}, api.BadValue
	}
	a.Addr = at(1)
	switch a.Function {
	case 5, 6:
		a.Value = at(3)
	case 22:
		a.And, a.Or = at(3), at(5)
	case 23:
		a.From, a.Many, a.Addr, a.Count = at(1), at(3), at(5), at(7)
	default:
		a.Count = at(3)
	}
	if bound := counted[a.Function]; bound > 0 && (a.Count < 1 || a.Count > bound) {
		return api.Ask{}, api.BadValue
	}
	wrong := a.Function == 5 && a.Value != 0 && a.Value != 65280 || a.Function == 23 && (a.Many < 1 || a.Many > 125)
	bytes := 0
	switch a.Function {
	case 15:
		bytes = (a.Count + 7) / 8
		wrong = wrong || int(b[5]) != bytes
	case 16:
		bytes = 2 * a.Count
		wrong = wrong || int(b[5]) != bytes
	case 23:
		bytes = 2 * a.Count
		wrong = wrong || int(b[9]) != bytes
	}
	if wrong || len(b) != length+bytes {
		return api.Ask{}, api.BadValue
	}
	for k := range a.Count {
		switch a.Function {
		case 15:
			a.Bits = append(a.Bits, b[length+k/8]>>(k%8)&1 == 1)
		case 16, 23:
			a.Regs = append(a.Regs, uint16(at(length+2*k)))
		}
	}
	return a, api.OK
}

// equal holds all that two asks hold against one another.
func equal(a, b api.Ask) bool {
	return a.Function == b.Function && a.Addr == b.Addr && a.Count == b.Count && a.Value == b.Value && a.And == b.And && a.Or == b.Or &&
		a.From == b.From && a.Many == b.Many && slices.Equal(a.Bits, b.Bits) && slices.Equal(a.Regs, b.Regs)
}

// mayBe fails, if an ask may not be, or is said otherwise than by hand.
func mayBe(t *testing.T, a api.Ask) {
	t.Helper()
	b, err := ask.Print(a)
	if !ask.Right(a) || err != api.OK || !slices.Equal(b, said(a)) {
		t.Fatalf("%v: Right %v, Print %v, %d, not true and %v", a, ask.Right(a), b, err, said(a))
	}
}

// mayNotBe fails, if an ask may be, or is said.
func mayNotBe(t *testing.T, a api.Ask) {
	t.Helper()
	if b, err := ask.Print(a); ask.Right(a) || err != api.ErrArg || len(b) != 0 {
		t.Fatalf("%v: Right %v, Print %v, %d, not false, nothing and ErrArg", a, ask.Right(a), b, err)
	}
}

// is fails, if bytes are understood otherwise than as an ask.
func is(t *testing.T, b []byte, want api.Ask) {
	t.Helper()
	if a, err := ask.Parse(b); err != api.OK || !equal(a, want) {
		t.Fatalf("Parse(%v): %v, %d, not %v", b, a, err, want)
	}
}

// isNone fails, if bytes are understood, or refused by another error.
func isNone(t *testing.T, b []byte, want api.Errno) {
	t.Helper()
	if a, err := ask.Parse(b); err != want || !equal(a, api.Ask{}) {
		t.Fatalf("Parse(%v): %v, %d, not nothing and error %d", b, a, err, want)
	}
}

// numbersOf tells where an ask keeps its numbers, but its function.
func numbersOf(a *api.Ask) map[string]*int {
	return map[string]*int{
		"Addr": &a.Addr, "Count": &a.Count, "Value": &a.Value, "And": &a.And, "Or": &a.Or, "From": &a.From, "Many": &a.Many,
	}
}

// fieldsOf tells which numbers an ask of a function has.
func fieldsOf(function int) []string {
	switch function {
	case 5, 6:
		return []string{"Addr", "Value"}
	case 22:
		return []string{"Addr", "And", "Or"}
	case 23:
		return []string{"From", "Many", "Addr", "Count"}
	}
	return []string{"Addr", "Count"}
}

// AS1: Known.

func TestKnown(t *testing.T) {
	for function := -70000; function <= 70000; function++ {
		if got := ask.Known(function); got != slices.Contains(functions, function) {
			t.Fatalf("Known(%d): %v", function, got)
		}
	}
	for _, n := range far {
		for _, function := range functions {
			// 65536 and 4294967296 more have the same low bytes.
			if ask.Known(n) || n > 0 && ask.Known(n+function) && !slices.Contains(functions, n+function) {
				t.Fatalf("Known(%d) or Known(%d)", n, n+function)
			}
		}
	}
}

// AS1: Right, and Print of each function.

func TestPrintByHand(t *testing.T) {
	for _, c := range []struct {
		a    api.Ask
		want []byte
	}{
		{api.Ask{Function: 1, Addr: 19, Count: 37}, []byte{1, 0, 19, 0, 37}},
		{api.Ask{Function: 2, Addr: 65535, Count: 2000}, []byte{2, 255, 255, 7, 208}},
		{api.Ask{Function: 3, Addr: 107, Count: 3}, []byte{3, 0, 107, 0, 3}},
		{api.Ask{Function: 4, Addr: 258, Count: 125}, []byte{4, 1, 2, 0, 125}},
		{api.Ask{Function: 5, Addr: 172, Value: 65280}, []byte{5, 0, 172, 255, 0}},
		{api.Ask{Function: 5, Addr: 172}, []byte{5, 0, 172, 0, 0}},
		{api.Ask{Function: 6, Addr: 3, Value: 9}, []byte{6, 0, 3, 0, 9}},
		{api.Ask{Function: 6, Value: 65535}, []byte{6, 0, 0, 255, 255}},
		{api.Ask{Function: 15, Addr: 19, Count: 10, Bits: []bool{true, false, true, true, false, false, true, true, true, false}},
			[]byte{15, 0, 19, 0, 10, 2, 205, 1}},
		{api.Ask{Function: 16, Addr: 1, Count: 2, Regs: []uint16{10, 258}}, []byte{16, 0, 1, 0, 2, 4, 0, 10, 1, 2}},
		{api.Ask{Function: 22, Addr: 4, And: 242, Or: 37}, []byte{22, 0, 4, 0, 242, 0, 37}},
		{api.Ask{Function: 22}, []byte{22, 0, 0, 0, 0, 0, 0}},
		{api.Ask{Function: 23, From: 3, Many: 6, Addr: 14, Count: 3, Regs: []uint16{255, 255, 255}},
			[]byte{23, 0, 3, 0, 6, 0, 14, 0, 3, 6, 0, 255, 0, 255, 0, 255}},
	} {
		if b, err := ask.Print(c.a); err != api.OK || !slices.Equal(b, c.want) || !ask.Right(c.a) {
			t.Errorf("Print(%v): %v, %d, not %v", c.a, b, err, c.want)
		}
		is(t, c.want, c.a)
	}
}

func TestEachCount(t *testing.T) {
	for function, bound := range counted {
		for count := 1; count <= bound; count++ {
			mayBe(t, plain(function, count))
			is(t, said(plain(function, count)), plain(function, count))
		}
		for _, count := range append([]int{0, bound + 1, bound + 2, 2001, 65535}, far...) {
			a := plain(function, 1)
			a.Count = count
			mayNotBe(t, a) // the list is still one of one place
			if count >= 0 && count < 70000 {
				mayNotBe(t, plain(function, count))
			}
		}
	}
}

func TestMany(t *testing.T) {
	for many := -300; many <= 70000; many++ {
		a := plain(23, 2)
		a.Many = many
		if many >= 1 && many <= 125 {
			mayBe(t, a)
		} else {
			mayNotBe(t, a)
		}
	}
}

func TestEachNumber(t *testing.T) {
	for _, function := range functions {
		for _, name := range fieldsOf(function) {
			if name == "Count" || name == "Many" {
				continue
			}
			a := plain(function, 2)
			for n := range 65536 {
				*numbersOf(&a)[name] = n
				if function == 5 && name == "Value" && n != 0 && n != 65280 {
					mayNotBe(t, a)
				} else {
					mayBe(t, a)
				}
			}
			for _, n := range far {
				*numbersOf(&a)[name] = n
				mayNotBe(t, a)
			}
		}
	}
}

func TestNothingElse(t *testing.T) {
	for _, function := range functions {
		a := plain(function, 2)
		mayBe(t, a)
		for name := range numbersOf(&a) {
			if slices.Contains(fieldsOf(function), name) {
				continue
			}
			for _, n := range append([]int{1, 2, 255, 256, 65280, 65535}, far...) {
				other := plain(function, 2)
				*numbersOf(&other)[name] = n
				mayNotBe(t, other)
			}
		}
		for n := range 20 {
			other := plain(function, 2)
			other.Bits = make([]bool, n)
			if n == 2 && function == 15 || n == 0 && function != 15 {
				mayBe(t, other)
			} else {
				mayNotBe(t, other)
			}
			other = plain(function, 2)
			other.Regs = make([]uint16, n)
			if n == 2 && (function == 16 || function == 23) || n == 0 && function != 16 && function != 23 {
				mayBe(t, other)
			} else {
				mayNotBe(t, other)
			}
		}
	}
}

func TestListsOfOtherLengths(t *testing.T) {
	for _, function := range []int{15, 16, 23} {
		for _, count := range []int{1, 2, 7, 8, 9, 120, 121} {
			for _, n := range []int{-2, -1, 1, 2} {
				a := plain(function, count)
				a.Count += n
				mayNotBe(t, a)
			}
			a := plain(function, count) // one more stands behind the length
			a.Count++
			a.Bits, a.Regs = append(a.Bits, true)[:len(a.Bits)], append(a.Regs, 7)[:len(a.Regs)]
			mayNotBe(t, a)
		}
	}
}

func TestOtherFunctions(t *testing.T) {
	for _, of := range functions {
		for function := -300; function < 1000; function++ {
			if !slices.Contains(functions, function) {
				a := plain(of, 2)
				a.Function = function
				mayNotBe(t, a)
			}
		}
		for _, n := range far {
			a := plain(of, 2)
			a.Function = n
			mayNotBe(t, a)
			if n > 0 && n < math.MaxInt-100 {
				a.Function = n + of
				mayNotBe(t, a)
			}
		}
	}
	mayNotBe(t, api.Ask{})
	mayNotBe(t, api.Ask{Addr: 1, Count: 1})
	mayNotBe(t, api.Ask{Function: 1})
}

// what one function's ask has, another's may not have, unless the table says the same of both.
func TestFunctionsOfOthersFields(t *testing.T) {
	same := map[int]int{1: 12, 2: 12, 3: 34, 4: 34}
	for _, of := range functions {
		for _, function := range functions {
			a := plain(of, 2)
			a.Function = function
			few := same[of] != 0 && same[function] != 0 // two places are few enough for all four
			if of == function || few || of == 5 && function == 6 {
				mayBe(t, a)
			} else {
				mayNotBe(t, a)
			}
		}
	}
}

// AS1: Same.

func TestSame(t *testing.T) {
	full := func() api.Ask {
		return api.Ask{Function: 1, Addr: 2, Count: 3, Value: 4, And: 5, Or: 6, From: 7, Many: 8, Bits: []bool{true, false, true}, Regs: []uint16{9, 10}}
	}
	others := []api.Ask{full()}
	for _, n := range []int{0, -1, 65536 + 1, 1 << 32, math.MaxInt, math.MinInt} {
		for name := range numbersOf(&api.Ask{}) {
			a := full()
			*numbersOf(&a)[name] = n
			others = append(others, a)
		}
		a := full()
		a.Function = n
		others = append(others, a)
	}
	for k := range 3 {
		a := full()
		a.Bits[k] = !a.Bits[k]
		others = append(others, a)
	}
	for k := range 2 {
		a := full()
		a.Regs[k] ^= 0x8000
		others = append(others, a)
		a = full()
		a.Regs[k] ^= 1
		others = append(others, a)
	}
	for _, n := range []int{0, 1, 2} {
		a := full()
		a.Bits = a.Bits[:n]
		others = append(others, a)
	}
	for _, n := range []int{0, 1} {
		a := full()
		a.Regs = a.Regs[:n]
		others = append(others, a)
	}
	long := full()
	long.Bits = append(long.Bits, false)
	others = append(others, long)
	long = full()
	long.Regs = append(long.Regs, 0)
	others = append(others, long, api.Ask{})
	for i, a := range others {
		for k, b := range others {
			if got := ask.Same(a, b); got != (i == k) {
				t.Errorf("Same(%v, %v): %v", a, b, got)
			}
		}
	}
	if !ask.Same(full(), full()) {
		t.Error("Same of lists in other memory: false")
	}
}

func TestSameOfChangedPlaces(t *testing.T) {
	a := api.Ask{Function: 1, Addr: 2, Count: 3, Value: 4, And: 5, Or: 6, From: 7, Many: 8}
	for one := range numbersOf(&a) {
		for other := range numbersOf(&a) {
			b := a
			x, y := numbersOf(&b)[one], numbersOf(&b)[other]
			*x, *y = *y, *x
			if ask.Same(a, b) != (one == other) {
				t.Errorf("Same with %s and %s in one another's places: %v", one, other, one != other)
			}
		}
	}
}

func TestSameOfNoLists(t *testing.T) {
	a, b := api.Ask{Function: 5}, api.Ask{Function: 5, Bits: []bool{}, Regs: []uint16{}}
	if !ask.Same(a, b) || !ask.Same(b, a) {
		t.Error("lists without elements are not the same")
	}
	one, other := []bool{true, false}, []bool{true, true}
	if !ask.Same(api.Ask{Bits: one[:1]}, api.Ask{Bits: other[:1]}) {
		t.Error("what stands behind a list's length is held against one another")
	}
}

// AS2: Parse.

func TestExamples(t *testing.T) {
	is(t, []byte{3, 0, 107, 0, 3}, api.Ask{Function: 3, Addr: 107, Count: 3})
	isNone(t, []byte{3, 0, 107, 0, 126}, api.BadValue)
	isNone(t, []byte{7}, api.BadFunction)
}

func TestEmpty(t *testing.T) {
	isNone(t, nil, api.ErrShort)
	isNone(t, []byte{}, api.ErrShort)
	isNone(t, []byte{3, 0, 107, 0, 3}[:0], api.ErrShort)
}

func TestEachFirstByte(t *testing.T) {
	for _, of := range functions {
		for function := range 256 {
			b := said(plain(of, 2))
			b[0] = byte(function)
			want, err := understood(b)
			if slices.Contains(functions, function) == (err == api.BadFunction) {
				t.Fatal("the reckoning is wrong")
			}
			if err == api.OK {
				is(t, b, want)
			} else {
				isNone(t, b, err)
			}
			if err == api.BadFunction {
				isNone(t, b[:1], err)
			} else {
				isNone(t, b[:1], api.BadValue)
			}
		}
	}
}

// bytes that are cut off, or that stand behind, make no ask.
func TestEachLength(t *testing.T) {
	for _, function := range functions {
		for _, count := range []int{1, 2, 8, 9, 16, 17, 121} {
			whole := said(plain(function, count))
			for n := 1; n < len(whole); n++ {
				isNone(t, whole[:n], api.BadValue)
			}
			for n := 1; n < 20; n++ {
				isNone(t, append(slices.Clone(whole), make([]byte, n)...), api.BadValue)
			}
		}
	}
	for _, n := range []int{253, 254, 255, 256, 257, 260, 261, 262, 1000, 65536, 70000} {
		for _, function := range functions {
			b := make([]byte, n)
			b[0], b[4] = byte(function), 1
			isNone(t, b, api.BadValue)
		}
	}
}

// N is the number of bytes that follow, and just those of Count places follow.
func TestEachN(t *testing.T) {
	for _, function := range []int{15, 16, 23} {
		at := 5
		if function == 23 {
			at = 9
		}
		for _, count := range []int{1, 2, 7, 8, 9, 16, 100, 121} {
			for n := range 256 {
				b := said(plain(function, count))
				if int(b[at]) == n {
					continue
				}
				b[at] = byte(n)
				isNone(t, b, api.BadValue)
				isNone(t, append(b[:at+1], make([]byte, n)...), api.BadValue) // as many as N says, but not as Count does
			}
		}
		for _, count := range []int{1, 2, 7, 8, 9, 16, 100, 121} {
			for _, other := range []int{0, count - 2, count - 1, count + 1, count + 2, count + 8, count + 256, 65535} {
				b := said(plain(function, count))
				copy(b[at-2:], two(max(other, 0)))
				want, err := understood(b)
				if err == api.OK {
					is(t, b, want)
				} else {
					isNone(t, b, err)
				}
			}
		}
	}
}

// where 256 bytes and more would have to follow, no N says so, not even one that has their low byte.
func TestNGoesNotRound(t *testing.T) {
	for _, count := range []int{2041, 2048, 2049, 4096, 65535} {
		list := make([]byte, (count+7)/8)
		isNone(t, slices.Concat([]byte{15, 0, 0}, two(count), []byte{byte(len(list))}, list), api.BadValue)
	}
	for _, count := range []int{124, 127, 128, 129, 256, 300} {
		list := make([]byte, 2*count)
		isNone(t, slices.Concat([]byte{16, 0, 0}, two(count), []byte{byte(len(list))}, list), api.BadValue)
		isNone(t, slices.Concat([]byte{23, 0, 0, 0, 1, 0, 0}, two(count), []byte{byte(len(list))}, list), api.BadValue)
	}
}

func TestEachCountSaid(t *testing.T) {
	for _, function := range []int{1, 2, 3, 4} {
		for count := range 65536 {
			b := slices.Concat([]byte{byte(function), 255, 255}, two(count))
			if count >= 1 && count <= counted[function] {
				is(t, b, api.Ask{Function: function, Addr: 65535, Count: count})
			} else {
				isNone(t, b, api.BadValue)
			}
		}
	}
	for many := range 65536 {
		b := slices.Concat([]byte{23, 1, 2}, two(many), []byte{3, 4, 0, 1, 2, 5, 6})
		if many >= 1 && many <= 125 {
			is(t, b, api.Ask{Function: 23, From: 258, Many: many, Addr: 772, Count: 1, Regs: []uint16{1286}})
		} else {
			isNone(t, b, api.BadValue)
		}
	}
	for function, bound := range counted {
		if function < 15 {
			continue
		}
		for count := range bound + 10 { // as many as there is room for in N, and some beyond
			b := said(plain(function, count))
			if count >= 1 && count <= bound {
				is(t, b, plain(function, count))
			} else {
				isNone(t, b, api.BadValue)
			}
		}
	}
}

func TestEachNumberSaid(t *testing.T) {
	for n := range 65536 {
		w := two(n)
		is(t, []byte{6, w[0], w[1], 1, 2}, api.Ask{Function: 6, Addr: n, Value: 258})
		is(t, []byte{6, 1, 2, w[0], w[1]}, api.Ask{Function: 6, Addr: 258, Value: n})
		is(t, []byte{22, 1, 2, w[0], w[1], 0, 7}, api.Ask{Function: 22, Addr: 258, And: n, Or: 7})
		is(t, []byte{22, 1, 2, 0, 7, w[0], w[1]}, api.Ask{Function: 22, Addr: 258, And: 7, Or: n})
		is(t, []byte{16, w[0], w[1], 0, 1, 2, w[1], w[0]}, api.Ask{Function: 16, Addr: n, Count: 1, Regs: []uint16{uint16(n%256*256 + n/256)}})
		if n == 0 || n == 65280 {
			is(t, []byte{5, w[0], w[1], w[0], w[1]}, api.Ask{Function: 5, Addr: n, Value: n})
		} else {
			isNone(t, []byte{5, 0, 0, w[0], w[1]}, api.BadValue)
		}
	}
}

// the bits behind Count in the last byte of 15 are not looked at; those of no other byte, and of no other function, are passed over.
func TestBitsBehind(t *testing.T) {
	for _, count := range []int{1, 2, 7, 8, 9, 15, 16, 17, 1961, 1967, 1968} {
		a := plain(15, count)
		for rest := range 256 {
			b := said(a)
			b[len(b)-1] ^= byte(rest)
			want, err := understood(b)
			if err != api.OK || equal(want, a) != (rest&(1<<((count-1)%8+1)-1) == 0) {
				t.Fatal("the reckoning is wrong")
			}
			is(t, b, want)
			if s, err := ask.Print(want); err != api.OK || !slices.Equal(s, said(want)) {
				t.Fatalf("Print(%v): %v, %d", want, s, err)
			}
		}
	}
}

// AS3: what is said is understood, and what is understood is said.

func TestSaidAndUnderstood(t *testing.T) {
	r := rand.New(rand.NewSource(15))
	for range 20000 {
		a := chance(r)
		b, err := ask.Print(a)
		if err != api.OK || !slices.Equal(b, said(a)) {
			t.Fatalf("Print(%v): %v, %d, not %v", a, b, err, said(a))
		}
		if len(b) > api.MaxPdu {
			t.Fatalf("Print(%v): %d bytes", a, len(b))
		}
		is(t, b, a)
	}
}

// chance tells an ask that may be.
func chance(r *rand.Rand) api.Ask {
	function := functions[r.Intn(len(functions))]
	a := plain(function, 1+r.Intn(max(counted[function], 1)))
	a.Addr = r.Intn(65536)
	switch function {
	case 5:
		a.Value = 65280 * r.Intn(2)
	case 6:
		a.Value = r.Intn(65536)
	case 22:
		a.And, a.Or = r.Intn(65536), r.Intn(65536)
	case 23:
		a.From, a.Many = r.Intn(65536), 1+r.Intn(125)
	}
	for k := range a.Bits {
		a.Bits[k] = r.Intn(2) == 0
	}
	for k := range a.Regs {
		a.Regs[k] = uint16(r.Intn(65536))
	}
	return a
}

// spoil changes bytes a little.
func spoil(r *rand.Rand, b []byte) []byte {
	switch r.Intn(5) {
	case 0:
		b[r.Intn(len(b))] = byte(r.Intn(256))
	case 1:
		b[r.Intn(min(len(b), 10))] ^= 1 << r.Intn(8)
	case 2:
		b = b[:r.Intn(len(b)+1)]
	case 3:
		b = append(b, byte(r.Intn(256)))
	}
	return b
}

func TestSpoilt(t *testing.T) {
	r := rand.New(rand.NewSource(16))
	fine := 0
	for range 100000 {
		b := spoil(r, said(chance(r)))
		want, err := understood(b)
		if err != api.OK {
			isNone(t, b, err)
			continue
		}
		fine++
		is(t, b, want)
		again, err := ask.Print(want)
		if err != api.OK || len(again) != len(b) {
			t.Fatalf("Print(%v): %v, %d", want, again, err)
		}
		last := len(b) - 1
		if want.Function == 15 && want.Count%8 != 0 {
			b[last] &= 1<<(want.Count%8) - 1
		}
		if !slices.Equal(again, b) {
			t.Fatalf("Print(%v): %v, not %v", want, again, b)
		}
	}
	if fine < 20000 || fine > 90000 {
		t.Fatalf("%d of 100000 were asks", fine)
	}
}

func TestShortBytes(t *testing.T) {
	r := rand.New(rand.NewSource(17))
	for range 300000 {
		b := make([]byte, r.Intn(14))
		for k := range b {
			b[k] = byte(r.Intn(3))
		}
		if len(b) > 0 {
			b[0] = byte(r.Intn(26))
		}
		if want, err := understood(b); err == api.OK {
			is(t, b, want)
		} else {
			isNone(t, b, err)
		}
	}
}

// Rules 4 and 5: memory.

func TestPrintMemory(t *testing.T) {
	for _, function := range functions {
		a := plain(function, 9)
		a.Bits, a.Regs = slices.Grow(a.Bits, 20), slices.Grow(a.Regs, 20)
		bitsBefore, regsBefore := slices.Clone(a.Bits[:cap(a.Bits)]), slices.Clone(a.Regs[:cap(a.Regs)])
		b, _ := ask.Print(a)
		for k := range b[:cap(b)] {
			b[:cap(b)][k] ^= 255
		}
		if !slices.Equal(bitsBefore, a.Bits[:cap(a.Bits)]) || !slices.Equal(regsBefore, a.Regs[:cap(a.Regs)]) {
			t.Errorf("function %d: what was handed in is changed", function)
		}
		if c, _ := ask.Print(a); !slices.Equal(c, said(a)) {
			t.Errorf("function %d: another answer after the first one was changed: %v", function, c)
		}
	}
}

func TestParseMemory(t *testing.T) {
	for _, function := range functions {
		want := plain(function, 9)
		whole := append(said(want), 1, 2, 3, 4, 5, 6, 7, 8)
		before := slices.Clone(whole)
		b := whole[:len(whole)-8] // what stands behind is not read
		a, err := ask.Parse(b)
		other, _ := ask.Parse(b)
		if err != api.OK || !slices.Equal(whole, before) {
			t.Fatalf("function %d: %d, %v", function, err, whole)
		}
		for k := range a.Bits[:cap(a.Bits)] {
			a.Bits[:cap(a.Bits)][k] = true
		}
		for k := range a.Regs[:cap(a.Regs)] {
			a.Regs[:cap(a.Regs)][k] = 1
		}
		if !slices.Equal(whole, before) || !equal(other, want) {
			t.Errorf("function %d: an answer shares memory", function)
		}
		for k := range whole {
			whole[k] = 255
		}
		if !equal(other, want) {
			t.Errorf("function %d: an answer hangs on the bytes that were handed in", function)
		}
	}
}
