package tell_test

import (
	"math"
	"math/rand"
	"slices"
	"testing"

	"bilge/api"
	"bilge/ask"
	"bilge/tell"
)

// functions are the tables'.
var functions = []int{1, 2, 3, 4, 5, 6, 15, 16, 22, 23}

// codes are those of exceptions.
var codes = []api.Errno{api.BadFunction, api.BadAddress, api.BadValue, api.BadDevice}

// far are numbers at the ends of int, and at those of other types.
var far = []int{
	math.MinInt, math.MinInt + 1, -1 << 32, -1 << 31, -65537, -65536, -65535, -65280, -256, -2, -1,
	65536, 65537, 65536 + 255, 65536 + 65280, 131072, 2 * 65280, 1 << 31, 1 << 32, 1<<32 + 1, math.MaxInt - 1, math.MaxInt,
}

// told tells up to how many cells each function tells; one that is not here tells none.
var told = map[int]int{1: 2000, 2: 2000, 3: 125, 4: 125, 23: 125}

// alike are numbers whose low bytes are those of a small one.
func alike(n int) []int {
	return []int{n + 256, n - 256, n + 65536, n - 65536, n + 1<<32, n - 1<<32, n + math.MinInt}
}

// bitsOf and regsOf tell so many cells.
func bitsOf(n int) []bool {
	l := make([]bool, n)
	for k := range l {
		l[k] = k%3 == 0 || k%7 == 1
	}
	return l
}

func regsOf(n int) []uint16 {
	l := make([]uint16, n)
	for k := range l {
		l[k] = uint16(40503*k + 258)
	}
	return l
}

// asking tells an ask of a function that may be, and that is told so many cells, if any.
func asking(function, count int) api.Ask {
	a := api.Ask{Function: function, Addr: 0x1234}
	switch function {
	case 1, 2, 3, 4:
		a.Count = count
	case 5:
		a.Value = 65280
	case 6:
		a.Value = 0xABCD
	case 15:
		a.Count, a.Bits = 11, bitsOf(11)
	case 16:
		a.Count, a.Regs = 3, regsOf(3)
	case 22:
		a.And, a.Or = 0x00F2, 0x2500
	case 23:
		a.From, a.Many, a.Count, a.Regs = 0x0607, count, 3, regsOf(3)
	}
	return a
}

// answer tells what answers an ask, put together by hand.
func answer(a api.Ask) api.Tell {
	t := api.Tell{Function: a.Function}
	switch a.Function {
	case 1, 2:
		t.Bits = bitsOf(a.Count)
	case 3, 4:
		t.Regs = regsOf(a.Count)
	case 23:
		t.Regs = regsOf(a.Many)
	case 5, 6:
		t.Addr, t.Value = a.Addr, a.Value
	case 15, 16:
		t.Addr, t.Count = a.Addr, a.Count
	case 22:
		t.Addr, t.And, t.Or = a.Addr, a.And, a.Or
	}
	return t
}

// said tells the bytes of what answers an ask, put together by hand.
func said(t api.Tell) []byte {
	if t.Code != api.OK {
		return []byte{byte(t.Function + 128), byte(t.Code)}
	}
	b := []byte{byte(t.Function)}
	add := func(l ...int) {
		for _, n := range l {
			b = append(b, byte(n/256), byte(n%256))
		}
	}
	switch t.Function {
	case 1, 2:
		l := make([]byte, (len(t.Bits)+7)/8)
		for k, set := range t.Bits {
			if set {
				l[k/8] += 1 << (k % 8)
			}
		}
		b = append(append(b, byte(len(l))), l...)
	case 3, 4, 23:
		b = append(b, byte(2*len(t.Regs)))
		for _, r := range t.Regs {
			add(int(r))
		}
	case 5, 6:
		add(t.Addr, t.Value)
	case 15, 16:
		add(t.Addr, t.Count)
	case 22:
		add(t.Addr, t.And, t.Or)
	}
	return b
}

// understood tells what the document understands of bytes that answer an ask that may be, place by place.
func understood(a api.Ask, b []byte) (api.Tell, api.Errno) {
	t := api.Tell{Function: a.Function}
	if len(b) == 2 && int(b[0]) == a.Function+128 && b[1] >= 1 && b[1] <= 4 {
		t.Code = api.Errno(b[1])
		return t, api.OK
	}
	if len(b) < 3 || int(b[0]) != a.Function {
		return api.Tell{}, api.ErrForm
	}
	fine := false
	switch a.Function {
	case 1, 2:
		fine = int(b[1]) == (a.Count+7)/8 && len(b) == 2+int(b[1])
		for k := 0; fine && k < 8*int(b[1]); k++ {
			set := b[2+k/8]>>(k%8)&1 == 1
			if k < a.Count {
				t.Bits = append(t.Bits, set)
			} else if set {
				fine = false
			}
		}
	case 3, 4, 23:
		n := a.Count
		if a.Function == 23 {
			n = a.Many
		}
		fine = int(b[1]) == 2*n && len(b) == 2+2*n
		for k := 0; fine && k < n; k++ {
			t.Regs = append(t.Regs, uint16(b[2+2*k])*256+uint16(b[3+2*k]))
		}
	default:
		t = answer(a)
		fine = slices.Equal(b, said(t))
	}
	if !fine {
		return api.Tell{}, api.ErrForm
	}
	return t, api.OK
}

// equal holds all that two tells hold against one another.
func equal(a, b api.Tell) bool {
	return a.Function == b.Function && a.Code == b.Code && a.Addr == b.Addr && a.Count == b.Count && a.Value == b.Value &&
		a.And == b.And && a.Or == b.Or && slices.Equal(a.Bits, b.Bits) && slices.Equal(a.Regs, b.Regs)
}

// answers fails, if a tell does not answer an ask, or is said otherwise than by hand.
func answers(t *testing.T, a api.Ask, is api.Tell) {
	t.Helper()
	b, err := tell.Print(a, is)
	if !tell.Right(a, is) || err != api.OK || !slices.Equal(b, said(is)) {
		t.Fatalf("%v, %v: Right %v, Print %v, %d, not true and %v", a, is, tell.Right(a, is), b, err, said(is))
	}
}

// answersNot fails, if a tell answers an ask, or is said.
func answersNot(t *testing.T, a api.Ask, is api.Tell) {
	t.Helper()
	if b, err := tell.Print(a, is); tell.Right(a, is) || err != api.ErrArg || len(b) != 0 {
		t.Fatalf("%v, %v: Right %v, Print %v, %d, not false, nothing and ErrArg", a, is, tell.Right(a, is), b, err)
	}
}

// is fails, if bytes are understood otherwise than as a tell.
func is(t *testing.T, a api.Ask, b []byte, want api.Tell) {
	t.Helper()
	if got, err := tell.Parse(a, b); err != api.OK || !equal(got, want) {
		t.Fatalf("Parse(%v, %v): %v, %d, not %v", a, b, got, err, want)
	}
}

// isNone fails, if bytes are understood, or refused by another error.
func isNone(t *testing.T, a api.Ask, b []byte, want api.Errno) {
	t.Helper()
	if got, err := tell.Parse(a, b); err != want || !equal(got, api.Tell{}) {
		t.Fatalf("Parse(%v, %v): %v, %d, not nothing and error %d", a, b, got, err, want)
	}
}

// asUnderstood fails, if bytes are understood otherwise than place by place.
func asUnderstood(t *testing.T, a api.Ask, b []byte) bool {
	t.Helper()
	want, err := understood(a, b)
	if err != api.OK {
		isNone(t, a, b, err)
		return false
	}
	is(t, a, b, want)
	return true
}

// numbersOf tells where a tell keeps its numbers, but its function and its code.
func numbersOf(t *api.Tell) map[string]*int {
	return map[string]*int{"Addr": &t.Addr, "Count": &t.Count, "Value": &t.Value, "And": &t.And, "Or": &t.Or}
}

// asksOf tells asks of a function, of few cells and of many, and with noughts only.
func asksOf(function int) []api.Ask {
	var l []api.Ask
	for _, count := range []int{1, 2, 7, 8, 9, 100, 124, 125} {
		l = append(l, asking(function, count))
	}
	if told[function] > 125 {
		l = append(l, asking(function, 1999), asking(function, 2000))
	}
	zero := asking(function, 1)
	switch function {
	case 15, 16:
		zero.Addr = 0
	default:
		zero.Addr, zero.Value, zero.And, zero.Or, zero.From = 0, 0, 0, 0, 0
	}
	return append(l, zero)
}

// byHand are asks, what answers them, and how it is said.
var byHand = []struct {
	a    api.Ask
	t    api.Tell
	said []byte
}{
	{api.Ask{Function: 1, Addr: 19, Count: 10}, api.Tell{Function: 1, Bits: []bool{true, false, true, true, false, false, true, true, true, false}},
		[]byte{1, 2, 205, 1}},
	{api.Ask{Function: 2, Count: 8}, api.Tell{Function: 2, Bits: []bool{false, false, false, false, false, false, false, true}}, []byte{2, 1, 128}},
	{api.Ask{Function: 2, Count: 1}, api.Tell{Function: 2, Bits: []bool{false}}, []byte{2, 1, 0}},
	{api.Ask{Function: 3, Count: 1}, api.Tell{Function: 3, Regs: []uint16{9}}, []byte{3, 2, 0, 9}},
	{api.Ask{Function: 3, Addr: 107, Count: 3}, api.Tell{Function: 3, Regs: []uint16{555, 0, 100}}, []byte{3, 6, 2, 43, 0, 0, 0, 100}},
	{api.Ask{Function: 4, Addr: 65535, Count: 1}, api.Tell{Function: 4, Regs: []uint16{65534}}, []byte{4, 2, 255, 254}},
	{api.Ask{Function: 5, Addr: 172, Value: 65280}, api.Tell{Function: 5, Addr: 172, Value: 65280}, []byte{5, 0, 172, 255, 0}},
	{api.Ask{Function: 5, Addr: 258}, api.Tell{Function: 5, Addr: 258}, []byte{5, 1, 2, 0, 0}},
	{api.Ask{Function: 6, Addr: 3, Value: 9}, api.Tell{Function: 6, Addr: 3, Value: 9}, []byte{6, 0, 3, 0, 9}},
	{api.Ask{Function: 6}, api.Tell{Function: 6}, []byte{6, 0, 0, 0, 0}},
	{api.Ask{Function: 15, Addr: 19, Count: 2, Bits: []bool{true, true}}, api.Tell{Function: 15, Addr: 19, Count: 2}, []byte{15, 0, 19, 0, 2}},
	{api.Ask{Function: 16, Addr: 258, Count: 1, Regs: []uint16{10}}, api.Tell{Function: 16, Addr: 258, Count: 1}, []byte{16, 1, 2, 0, 1}},
	{api.Ask{Function: 22, Addr: 4, And: 242, Or: 37}, api.Tell{Function: 22, Addr: 4, And: 242, Or: 37}, []byte{22, 0, 4, 0, 242, 0, 37}},
	{api.Ask{Function: 23, From: 3, Many: 2, Addr: 14, Count: 1, Regs: []uint16{255}}, api.Tell{Function: 23, Regs: []uint16{254, 2765}},
		[]byte{23, 4, 0, 254, 10, 205}},
	{api.Ask{Function: 23, From: 3, Many: 1, Addr: 14, Count: 2, Regs: []uint16{1, 2}}, api.Tell{Function: 23, Regs: []uint16{7}}, []byte{23, 2, 0, 7}},
	{api.Ask{Function: 1, Count: 2000}, api.Tell{Function: 1, Code: api.BadFunction}, []byte{129, 1}},
	{api.Ask{Function: 3, Count: 1}, api.Tell{Function: 3, Code: api.BadAddress}, []byte{131, 2}},
	{api.Ask{Function: 5, Addr: 2}, api.Tell{Function: 5, Code: api.BadValue}, []byte{133, 3}},
	{api.Ask{Function: 23, Many: 1, Count: 1, Regs: []uint16{0}}, api.Tell{Function: 23, Code: api.BadDevice}, []byte{151, 4}},
}

func TestByHand(t *testing.T) {
	for _, c := range byHand {
		if b, err := tell.Print(c.a, c.t); err != api.OK || !slices.Equal(b, c.said) || !tell.Right(c.a, c.t) {
			t.Errorf("Print(%v, %v): %v, %d, not %v", c.a, c.t, b, err, c.said)
		}
		is(t, c.a, c.said, c.t)
	}
}

// what answers one of the asks by hand answers none of another function.
func TestByHandOfOthers(t *testing.T) {
	for _, one := range byHand {
		for _, other := range byHand {
			if one.a.Function != other.a.Function {
				answersNot(t, other.a, one.t)
				isNone(t, other.a, one.said, api.ErrForm)
			}
		}
	}
}

// TE1: Right, and Print of each function.

func TestEachCount(t *testing.T) {
	for function, bound := range told {
		for count := 1; count <= bound; count++ {
			a := asking(function, count)
			answers(t, a, answer(a))
			is(t, a, said(answer(a)), answer(a))
		}
	}
	for count := 1; count <= 1968; count++ {
		a := api.Ask{Function: 15, Addr: 65535, Count: count, Bits: bitsOf(count)}
		answers(t, a, api.Tell{Function: 15, Addr: 65535, Count: count})
		is(t, a, said(answer(a)), answer(a))
	}
	for count := 1; count <= 123; count++ {
		a := api.Ask{Function: 16, Addr: 65535, Count: count, Regs: regsOf(count)}
		answers(t, a, api.Tell{Function: 16, Addr: 65535, Count: count})
		is(t, a, said(answer(a)), answer(a))
	}
}

func TestCellsOfOtherLengths(t *testing.T) {
	for _, function := range functions {
		for _, a := range asksOf(function) {
			bits, regs := len(answer(a).Bits), len(answer(a).Regs)
			for _, n := range []int{0, 1, 2, 3, 7, 8, 9, 11, 121, 125, 126, bits - 1, bits + 1, bits + 8, regs - 1, regs + 1, regs + 8, 2001} {
				other := answer(a)
				if other.Bits = bitsOf(max(n, 0)); len(other.Bits) != bits {
					answersNot(t, a, other)
				}
				other = answer(a)
				if other.Regs = regsOf(max(n, 0)); len(other.Regs) != regs {
					answersNot(t, a, other)
				}
			}
			if bits == regs { // none
				continue
			}
			other := answer(a)
			other.Bits, other.Regs = bitsOf(regs), regsOf(bits) // as many of the other sort
			answersNot(t, a, other)
			other = answer(a)
			other.Bits, other.Regs = other.Bits[:max(bits-1, 0)], other.Regs[:max(regs-1, 0)] // one stands behind the length
			answersNot(t, a, other)
		}
	}
}

// 23 tells as many registers as it reads, not as it writes.
func TestManyOf23(t *testing.T) {
	for _, many := range []int{1, 2, 60, 120, 121, 122, 125} {
		for _, count := range []int{1, 2, 60, 120, 121} {
			a := api.Ask{Function: 23, Many: many, Count: count, Regs: regsOf(count)}
			for _, n := range []int{1, 2, 60, 120, 121, 122, 125, 126} {
				is := api.Tell{Function: 23, Regs: regsOf(n)}
				if n == many {
					answers(t, a, is)
				} else {
					answersNot(t, a, is)
					isNone(t, a, said(is), api.ErrForm)
				}
			}
		}
	}
}

func TestEachNumber(t *testing.T) {
	for _, function := range functions {
		for _, a := range asksOf(function) {
			right := answer(a)
			answers(t, a, right)
			for name, at := range numbersOf(&right) {
				was := *at
				others := append([]int{0, 1, 2, 3, 255, 256, 65280, 65535, was - 1, was + 1, was + 65536, was - 65536, -was, was ^ 256, was + 1<<32}, far...)
				for _, n := range append(others, a.Addr, a.Count, a.Value, a.And, a.Or, a.From, a.Many) {
					other := answer(a)
					if *numbersOf(&other)[name] = n; n == was {
						answers(t, a, other)
					} else {
						answersNot(t, a, other)
					}
				}
			}
		}
	}
}

// the numbers of an ask are told again, whatever they are.
func TestEachNumberOfAsks(t *testing.T) {
	for n := range 65536 {
		value := n % 2 * 65280
		for _, a := range []api.Ask{
			{Function: 5, Addr: n, Value: value}, {Function: 6, Addr: n, Value: 258}, {Function: 6, Addr: 258, Value: n},
			{Function: 22, Addr: n, And: 1, Or: 2}, {Function: 22, Addr: 1, And: n, Or: 2}, {Function: 22, Addr: 1, And: 2, Or: n},
			{Function: 15, Addr: n, Count: 1, Bits: []bool{true}}, {Function: 16, Addr: n, Count: 1, Regs: []uint16{uint16(n)}},
		} {
			answers(t, a, answer(a))
			is(t, a, said(answer(a)), answer(a))
		}
	}
}

func TestOtherFunctions(t *testing.T) {
	for _, of := range functions {
		a := asking(of, 2)
		for function := -300; function < 1000; function++ {
			if function == of {
				continue
			}
			other := answer(a)
			other.Function = function
			answersNot(t, a, other)
			for _, code := range codes {
				answersNot(t, a, api.Tell{Function: function, Code: code})
			}
		}
		for _, n := range slices.Concat(far, alike(of), alike(of+128)) {
			other := answer(a)
			other.Function = n
			answersNot(t, a, other)
			answersNot(t, a, api.Tell{Function: n, Code: api.BadAddress})
		}
		answersNot(t, a, api.Tell{})
		answersNot(t, a, api.Tell{Code: api.BadAddress})
	}
}

// TE1: exceptions.

func TestEachCode(t *testing.T) {
	for _, function := range functions {
		for _, a := range asksOf(function) {
			for code := -300; code <= 1000; code++ {
				if code == 0 {
					continue
				}
				is := api.Tell{Function: function, Code: api.Errno(code)}
				if code >= 1 && code <= 4 {
					answers(t, a, is)
				} else {
					answersNot(t, a, is)
				}
				is = answer(a)
				is.Code = api.Errno(code)
				if len(is.Bits)+len(is.Regs)+is.Addr+is.Count+is.Value+is.And+is.Or > 0 { // else it is a bare exception again
					answersNot(t, a, is)
				}
			}
			for _, n := range slices.Concat(far, alike(1), alike(2), alike(3), alike(4)) {
				answersNot(t, a, api.Tell{Function: function, Code: api.Errno(n)})
			}
		}
	}
}

func TestExceptionAndNothingElse(t *testing.T) {
	for _, function := range functions {
		a := asking(function, 2)
		for _, code := range codes {
			bare := api.Tell{Function: function, Code: code}
			answers(t, a, bare)
			for name := range numbersOf(&bare) {
				for _, n := range append([]int{1, 2, 255, 65280, a.Addr, 65535}, far...) {
					other := bare
					*numbersOf(&other)[name] = n
					answersNot(t, a, other)
				}
			}
			for n := range 20 {
				other := bare
				if other.Bits = make([]bool, n); n > 0 {
					answersNot(t, a, other)
				} else {
					answers(t, a, other)
				}
				other = bare
				if other.Regs = make([]uint16, n); n > 0 {
					answersNot(t, a, other)
				} else {
					answers(t, a, other)
				}
			}
		}
	}
}

// TE1 and TE2: asks that may not be.

// wrongAsks are asks that may not be, each beside what would answer it.
func wrongAsks() []api.Ask {
	l := []api.Ask{{}, {Addr: 1, Count: 1}, {Function: 1}, {Function: 3}, {Function: 23, Count: 1, Regs: []uint16{1}}}
	for _, function := range functions {
		for _, n := range []int{-65536, -1, 65536, math.MinInt, math.MaxInt} {
			a := asking(function, 2)
			a.Addr = n
			l = append(l, a)
		}
		a := asking(function, 2)
		a.Regs = append(a.Regs, 7)
		l = append(l, a)
		a = asking(function, 2)
		a.Bits = append(a.Bits, true)
		l = append(l, a)
		if function != 23 {
			a = asking(function, 2)
			a.From = 1
			l = append(l, a)
			a = asking(function, 2)
			a.Many = 2
			l = append(l, a)
		}
		if bound := told[function]; bound > 0 {
			l = append(l, asking(function, 0), asking(function, bound+1), asking(function, 3000))
		}
	}
	for _, value := range []int{1, 255, 256, 65279, 65281, 65535, -1} {
		l = append(l, api.Ask{Function: 5, Value: value})
	}
	for _, function := range []int{-1, 0, 7, 8, 11, 14, 17, 20, 21, 24, 43, 127, 128, 129, 131, 151, 256 + 3, math.MaxInt} {
		a := asking(3, 1)
		a.Function = function
		l = append(l, a, api.Ask{Function: function})
	}
	return append(l, api.Ask{Function: 15, Count: 1969, Bits: bitsOf(1969)}, api.Ask{Function: 16, Count: 124, Regs: regsOf(124)},
		api.Ask{Function: 15}, api.Ask{Function: 16}, api.Ask{Function: 22, And: 65536}, api.Ask{Function: 22, Or: -1})
}

func TestAsksThatMayNotBe(t *testing.T) {
	for _, a := range wrongAsks() {
		if ask.Right(a) {
			t.Fatalf("%v may be", a)
		}
		answersNot(t, a, answer(a))
		answersNot(t, a, api.Tell{})
		answersNot(t, a, api.Tell{Function: a.Function})
		answersNot(t, a, api.Tell{Function: a.Function, Regs: []uint16{9}})
		for _, code := range codes {
			answersNot(t, a, api.Tell{Function: a.Function, Code: code})
		}
		isNone(t, a, said(answer(a)), api.ErrArg)
		isNone(t, a, nil, api.ErrArg)
		for first := range 256 {
			isNone(t, a, []byte{byte(first), 2}, api.ErrArg)
			isNone(t, a, []byte{byte(first), 2, 0, 9}, api.ErrArg)
		}
	}
}

// TE1: Same.

func TestSame(t *testing.T) {
	full := func() api.Tell {
		return api.Tell{Function: 1, Code: 2, Addr: 3, Count: 4, Value: 5, And: 6, Or: 7, Bits: []bool{true, false, true}, Regs: []uint16{9, 10}}
	}
	others := []api.Tell{full()}
	add := func(change func(*api.Tell)) {
		a := full()
		change(&a)
		others = append(others, a)
	}
	for _, n := range []int{0, -1, 65536 + 1, 1 << 32, math.MaxInt, math.MinInt} {
		for name := range numbersOf(&api.Tell{}) {
			add(func(a *api.Tell) { *numbersOf(a)[name] = n })
		}
		add(func(a *api.Tell) { a.Function = n })
		add(func(a *api.Tell) { a.Code = api.Errno(n) })
	}
	for k := range 3 {
		add(func(a *api.Tell) { a.Bits[k] = !a.Bits[k] })
		add(func(a *api.Tell) { a.Bits = a.Bits[:k] })
	}
	for k := range 2 {
		add(func(a *api.Tell) { a.Regs[k] ^= 0x8000 })
		add(func(a *api.Tell) { a.Regs[k] ^= 1 })
		add(func(a *api.Tell) { a.Regs = a.Regs[:k] })
	}
	add(func(a *api.Tell) { a.Bits = append(a.Bits, false) })
	add(func(a *api.Tell) { a.Regs = append(a.Regs, 0) })
	add(func(a *api.Tell) { *a = api.Tell{} })
	for i, a := range others {
		for k, b := range others {
			if got := tell.Same(a, b); got != (i == k) {
				t.Errorf("Same(%v, %v): %v", a, b, got)
			}
		}
	}
	if !tell.Same(full(), full()) {
		t.Error("Same of lists in other memory: false")
	}
}

func TestSameOfChangedPlaces(t *testing.T) {
	a := api.Tell{Function: 1, Code: 2, Addr: 3, Count: 4, Value: 5, And: 6, Or: 7}
	for one := range numbersOf(&a) {
		for other := range numbersOf(&a) {
			b := a
			x, y := numbersOf(&b)[one], numbersOf(&b)[other]
			*x, *y = *y, *x
			if tell.Same(a, b) != (one == other) {
				t.Errorf("Same with %s and %s in one another's places: %v", one, other, one != other)
			}
		}
	}
	if tell.Same(a, api.Tell{Function: 2, Code: 1, Addr: 3, Count: 4, Value: 5, And: 6, Or: 7}) {
		t.Error("Same with Function and Code in one another's places: true")
	}
}

func TestSameOfNoLists(t *testing.T) {
	a, b := api.Tell{Function: 5}, api.Tell{Function: 5, Bits: []bool{}, Regs: []uint16{}}
	if !tell.Same(a, b) || !tell.Same(b, a) {
		t.Error("lists without elements are not the same")
	}
	bits, regs := []bool{true, false}, []uint16{1, 2}
	if !tell.Same(api.Tell{Bits: bits[:1], Regs: regs[:1]}, api.Tell{Bits: []bool{true}, Regs: []uint16{1}}) {
		t.Error("what stands behind a list's length is looked at")
	}
	if !tell.Same(api.Tell{Function: 77, Code: 99, Addr: -1}, api.Tell{Function: 77, Code: 99, Addr: -1}) {
		t.Error("two that answer nothing are not the same")
	}
}

// TE1: Refusal.

func TestRefusal(t *testing.T) {
	numbers := slices.Clone(far)
	for n := -300; n <= 1000; n++ {
		numbers = append(numbers, n)
	}
	for n := range 5 {
		numbers = append(numbers, alike(n)...)
	}
	numbers = append(numbers, alike(127)...)
	for _, function := range numbers {
		for _, code := range numbers {
			b, err := tell.Refusal(function, api.Errno(code))
			if function < 1 || function > 127 || code < 1 || code > 4 {
				if err != api.ErrArg || len(b) != 0 {
					t.Fatalf("Refusal(%d, %d): %v, %d, not nothing and ErrArg", function, code, b, err)
				}
			} else if err != api.OK || !slices.Equal(b, []byte{byte(128 + function), byte(code)}) {
				t.Fatalf("Refusal(%d, %d): %v, %d", function, code, b, err)
			}
		}
	}
}

// TE2: Parse.

func TestTwoBytes(t *testing.T) {
	for _, function := range functions {
		asks := asksOf(function)
		for _, a := range []api.Ask{asks[0], asks[len(asks)-1]} {
			for first := range 256 {
				for code := range 256 {
					b := []byte{byte(first), byte(code)}
					if first == function+128 && code >= 1 && code <= 4 {
						is(t, a, b, api.Tell{Function: function, Code: api.Errno(code)})
					} else {
						isNone(t, a, b, api.ErrForm)
					}
				}
			}
		}
	}
}

func TestEachLength(t *testing.T) {
	for _, function := range functions {
		for _, a := range asksOf(function) {
			whole := said(answer(a))
			long := append(slices.Clone(whole), make([]byte, 300)...)
			for n := range long {
				if n == len(whole) {
					is(t, a, long[:n], answer(a))
				} else {
					isNone(t, a, long[:n], api.ErrForm)
				}
			}
			for _, code := range codes {
				refusal := []byte{byte(function + 128), byte(code), byte(code), 0, 0, 0, 0, 0, 0}
				for n := range refusal {
					if n == 2 {
						is(t, a, refusal[:n], api.Tell{Function: function, Code: code})
					} else {
						isNone(t, a, refusal[:n], api.ErrForm)
					}
				}
			}
			isNone(t, a, nil, api.ErrForm)
			isNone(t, a, []byte{}, api.ErrForm)
		}
	}
}

func TestFirstBytes(t *testing.T) {
	for _, function := range functions {
		for _, a := range asksOf(function) {
			for first := range 256 {
				b := said(answer(a))
				if b[0] = byte(first); first == function {
					is(t, a, b, answer(a))
				} else {
					isNone(t, a, b, api.ErrForm)
				}
			}
		}
	}
}

// N is the number of bytes that follow, and just those of the ask's cells follow.
func TestEachN(t *testing.T) {
	for function := range told {
		for _, a := range asksOf(function) {
			for n := range 256 {
				b := said(answer(a))
				if int(b[1]) == n {
					continue
				}
				b[1] = byte(n)
				isNone(t, a, b, api.ErrForm)
				isNone(t, a, append(b[:2], make([]byte, n)...), api.ErrForm) // as many as N says, but not as the ask does
				isNone(t, a, append([]byte{byte(function), byte(n)}, said(answer(a))[2:]...), api.ErrForm)
			}
		}
	}
}

// the cells of one more byte, and of one fewer, are not those of the ask, though they are as many as N says.
func TestOtherCountsSaid(t *testing.T) {
	for function, bound := range told {
		for _, count := range []int{1, 2, 7, 8, 9, 15, 16, 17, 124, 125, 1999, 2000} {
			for _, other := range []int{1, 2, 7, 8, 9, 15, 16, 17, 124, 125, 1999, 2000} {
				if count > bound || other > bound {
					continue
				}
				none := said(api.Tell{Function: function, Bits: make([]bool, other), Regs: make([]uint16, other)})
				asUnderstood(t, asking(function, count), none)
				asUnderstood(t, asking(function, count), said(answer(asking(function, other))))
			}
		}
	}
}

// the bits behind the last one of 1 and 2 are 0.
func TestSpareBits(t *testing.T) {
	for _, function := range []int{1, 2} {
		for _, count := range []int{1, 2, 3, 4, 5, 6, 7, 8, 9, 15, 16, 17, 1993, 1999, 2000} {
			a := asking(function, count)
			for last := range 256 {
				b := said(answer(a))
				b[len(b)-1] = byte(last)
				fine := asUnderstood(t, a, b)
				if spare := count%8 != 0 && last>>(count%8) != 0; fine == spare {
					t.Fatal("the reckoning is wrong")
				}
				if len(b) > 3 { // those of other bytes are none behind the last one
					b = said(answer(a))
					b[2] = byte(last)
					if !asUnderstood(t, a, b) {
						t.Fatal("the reckoning is wrong")
					}
				}
			}
		}
	}
}

// what tells an ask's numbers again is just those bytes.
func TestEachByteOfNumbers(t *testing.T) {
	for _, function := range []int{5, 6, 15, 16, 22} {
		for _, a := range asksOf(function) {
			for k := range said(answer(a)) {
				for n := range 256 {
					b := said(answer(a))
					if int(b[k]) == n {
						continue
					}
					b[k] = byte(n)
					isNone(t, a, b, api.ErrForm)
				}
			}
		}
	}
	// the whole ask is not said again by 15 and 16
	for _, function := range []int{15, 16} {
		b, _ := ask.Print(asking(function, 1))
		isNone(t, asking(function, 1), b, api.ErrForm)
	}
}

func TestEachRegister(t *testing.T) {
	for n := range 65536 {
		high, low := byte(n/256), byte(n%256)
		for _, function := range []int{3, 4, 23} {
			a := asking(function, 2)
			want := api.Tell{Function: function, Regs: []uint16{uint16(n), uint16(n%256*256 + n/256)}}
			answers(t, a, want)
			is(t, a, []byte{byte(function), 4, high, low, low, high}, want)
		}
	}
}

func TestEachByteOfBits(t *testing.T) {
	for n := range 65536 {
		for _, function := range []int{1, 2} {
			a := asking(function, 16)
			want := api.Tell{Function: function, Bits: make([]bool, 16)}
			for k := range 16 {
				want.Bits[k] = n>>k&1 == 1
			}
			answers(t, a, want)
			is(t, a, []byte{byte(function), 2, byte(n % 256), byte(n / 256)}, want)
		}
	}
}

// TE3: what is said is understood, and what is understood is said.

// chance tells an ask that may be, and what answers it.
func chance(r *rand.Rand) (api.Ask, api.Tell) {
	function := functions[r.Intn(len(functions))]
	a := asking(function, 1+r.Intn(max(told[function], 1)))
	a.Addr = r.Intn(65536)
	switch function {
	case 5:
		a.Value = 65280 * r.Intn(2)
	case 6:
		a.Value = r.Intn(65536)
	case 15:
		a.Count = 1 + r.Intn(1968)
		a.Bits = bitsOf(a.Count)
	case 16:
		a.Count = 1 + r.Intn(123)
		a.Regs = regsOf(a.Count)
	case 22:
		a.And, a.Or = r.Intn(65536), r.Intn(65536)
	case 23:
		a.From, a.Count = r.Intn(65536), 1+r.Intn(121)
		a.Regs = regsOf(a.Count)
	}
	if r.Intn(8) == 0 {
		return a, api.Tell{Function: function, Code: codes[r.Intn(4)]}
	}
	t := answer(a)
	for k := range t.Bits {
		t.Bits[k] = r.Intn(2) == 0
	}
	for k := range t.Regs {
		t.Regs[k] = uint16(r.Intn(65536))
	}
	return a, t
}

func TestSaidAndUnderstood(t *testing.T) {
	r := rand.New(rand.NewSource(16))
	for range 20000 {
		a, want := chance(r)
		answers(t, a, want)
		b, _ := tell.Print(a, want)
		if len(b) > api.MaxPdu {
			t.Fatalf("Print(%v, %v): %d bytes", a, want, len(b))
		}
		is(t, a, b, want)
	}
}

// spoil changes bytes a little.
func spoil(r *rand.Rand, b []byte) []byte {
	switch r.Intn(6) {
	case 0:
		b[r.Intn(len(b))] = byte(r.Intn(256))
	case 1:
		b[r.Intn(min(len(b), 7))] ^= 1 << r.Intn(8)
	case 2:
		b = b[:r.Intn(len(b)+1)]
	case 3:
		b = append(b, byte(r.Intn(256)))
	case 4:
		b[len(b)-1] ^= 1 << r.Intn(8)
	}
	return b
}

func TestSpoilt(t *testing.T) {
	r := rand.New(rand.NewSource(17))
	fine := 0
	for range 60000 {
		a, was := chance(r)
		b := spoil(r, said(was))
		if !asUnderstood(t, a, b) {
			continue
		}
		fine++
		got, _ := tell.Parse(a, b)
		if !tell.Right(a, got) {
			t.Fatalf("Parse(%v, %v): %v does not answer it", a, b, got)
		}
		if again, err := tell.Print(a, got); err != api.OK || !slices.Equal(again, b) {
			t.Fatalf("Print(%v, %v): %v, %d, not %v", a, got, again, err, b)
		}
	}
	if fine < 10000 || fine > 50000 {
		t.Fatalf("%d of 60000 were answers", fine)
	}
}

func TestShortBytes(t *testing.T) {
	r := rand.New(rand.NewSource(18))
	asks := []api.Ask{{Function: 1, Count: 1}, {Function: 2, Count: 9}, {Function: 3, Count: 1}, {Function: 4, Count: 2}, {Function: 5}, {Function: 6, Value: 1},
		{Function: 15, Count: 1, Bits: []bool{true}}, {Function: 16, Count: 2, Regs: []uint16{1, 2}}, {Function: 22, Or: 1},
		{Function: 23, Many: 1, Count: 2, Regs: []uint16{0, 0}}}
	fine := 0
	for range 300000 {
		a := asks[r.Intn(len(asks))]
		b := make([]byte, r.Intn(9))
		for k := range b {
			b[k] = byte(r.Intn(3))
		}
		if len(b) > 0 {
			b[0] = byte(a.Function + 128*r.Intn(2))
		}
		if len(b) > 1 && r.Intn(2) == 0 {
			b[1] = byte(len(b) - 2)
		}
		if asUnderstood(t, a, b) {
			fine++
		}
	}
	if fine < 5000 {
		t.Fatalf("%d were answers", fine)
	}
}

// Rules 4 and 5: memory.

func TestPrintMemory(t *testing.T) {
	for _, function := range functions {
		a := asking(function, 9)
		is := answer(a)
		is.Bits, is.Regs = slices.Grow(is.Bits, 20), slices.Grow(is.Regs, 20)
		bits, regs := slices.Clone(is.Bits[:cap(is.Bits)]), slices.Clone(is.Regs[:cap(is.Regs)])
		asked := asking(function, 9)
		b, _ := tell.Print(a, is)
		for k := range b[:cap(b)] {
			b[:cap(b)][k] ^= 255
		}
		if !slices.Equal(bits, is.Bits[:cap(is.Bits)]) || !slices.Equal(regs, is.Regs[:cap(is.Regs)]) || !ask.Same(a, asked) {
			t.Errorf("function %d: what was handed in is changed", function)
		}
		answers(t, a, is) // after the first answer was changed
	}
	one, _ := tell.Refusal(3, 2)
	one[0], one[1] = 0, 0
	if other, _ := tell.Refusal(3, 2); !slices.Equal(other, []byte{131, 2}) {
		t.Errorf("Refusal after another one was changed: %v", other)
	}
}

func TestParseMemory(t *testing.T) {
	for _, function := range functions {
		a := asking(function, 9)
		want := answer(a)
		whole := append(said(want), 1, 2, 3, 4, 5, 6, 7, 8)
		before := slices.Clone(whole)
		b := whole[:len(whole)-8] // what stands behind is not read
		got, err := tell.Parse(a, b)
		other, _ := tell.Parse(a, b)
		if err != api.OK || !slices.Equal(whole, before) || !ask.Same(a, asking(function, 9)) {
			t.Fatalf("function %d: %d, %v, %v", function, err, whole, a)
		}
		for k := range got.Bits[:cap(got.Bits)] {
			got.Bits[:cap(got.Bits)][k] = true
		}
		for k := range got.Regs[:cap(got.Regs)] {
			got.Regs[:cap(got.Regs)][k] = 1
		}
		for k := range whole {
			whole[k] = 255
		}
		if !equal(other, want) || !ask.Same(a, asking(function, 9)) {
			t.Errorf("function %d: an answer shares memory", function)
		}
	}
}
