package bits_test

import (
	"math"
	"slices"
	"testing"

	"bilge/api"
	"bilge/bits"
)

// numberBits is the n lowest bits of a number, the lowest one first.
func numberBits(number, n int) []bool {
	l := make([]bool, n)
	for k := range l {
		l[k] = number%2 == 1
		number /= 2
	}
	return l
}

// everyList calls check with each list of up to most bits, and the number that they are.
func everyList(most int, check func(l []bool, number int)) {
	for n := range most + 1 {
		for number := range 1 << n {
			check(numberBits(number, n), number)
		}
	}
}

// numberBytes is the bytes of a number, the low one first.
func numberBytes(number, size int) []byte {
	b := make([]byte, size)
	for i := range b {
		b[i] = byte(number % 256)
		number /= 256
	}
	return b
}

// pattern is n bits in which no two bytes near one another are the same.
func pattern(n int) []bool {
	l := make([]bool, n)
	for k := range l {
		l[k] = k*k%7 < 3
	}
	return l
}

// BI1: Size.

func TestSizeOfSomeNumbers(t *testing.T) {
	cases := []struct{ n, want int }{
		{math.MinInt, 0},
		{math.MinInt + 1, 0},
		{-9, 0},
		{-8, 0},
		{-7, 0},
		{-1, 0},
		{0, 0},
		{1, 1},
		{7, 1},
		{8, 1},
		{9, 2},
		{15, 2},
		{16, 2},
		{17, 3},
		{2000, 250},
		{2001, 251},
		{math.MaxInt - 8, math.MaxInt / 8},
		{math.MaxInt - 7, math.MaxInt / 8},
		{math.MaxInt - 6, math.MaxInt/8 + 1},
		{math.MaxInt, math.MaxInt/8 + 1},
	}
	for _, c := range cases {
		if got := bits.Size(c.n); got != c.want {
			t.Errorf("Size(%d) = %d, want %d", c.n, got, c.want)
		}
	}
}

func TestSizeGrowsByOneAtEachEighthBit(t *testing.T) {
	want := 0
	for n := range 5000 {
		if n%8 == 1 {
			want++
		}
		if got := bits.Size(n); got != want {
			t.Fatalf("Size(%d) = %d, want %d", n, got, want)
		}
	}
}

// BI1: Pack.

func TestPackOfSomeLists(t *testing.T) {
	cases := []struct {
		list []bool
		want []byte
	}{
		{nil, nil},
		{[]bool{}, nil},
		{[]bool{false}, []byte{0}},
		{[]bool{true}, []byte{1}},
		{[]bool{true, false, true}, []byte{5}},
		{[]bool{false, false, false, false, false, false, false, true}, []byte{128}},
		{[]bool{false, false, false, false, false, false, false, false, true}, []byte{0, 1}},
		{[]bool{true, false, false, false, false, false, false, false, false}, []byte{1, 0}},
		{slices.Repeat([]bool{true}, 8), []byte{255}},
		{slices.Repeat([]bool{true}, 9), []byte{255, 1}},
		{slices.Repeat([]bool{true}, 15), []byte{255, 127}},
		{slices.Repeat([]bool{true}, 16), []byte{255, 255}},
		{slices.Repeat([]bool{true}, 17), []byte{255, 255, 1}},
		{slices.Repeat([]bool{false}, 17), []byte{0, 0, 0}},
	}
	for _, c := range cases {
		if got := bits.Pack(c.list); !slices.Equal(got, c.want) {
			t.Errorf("Pack(%v) = %v, want %v", c.list, got, c.want)
		}
	}
}

func TestPackOfEachShortList(t *testing.T) {
	everyList(17, func(l []bool, number int) {
		got, want := bits.Pack(l), numberBytes(number, (len(l)+7)/8)
		if !slices.Equal(got, want) {
			t.Fatalf("Pack(%v) = %v, want %v", l, got, want)
		}
	})
}

func TestPackPutsEachBitAtItsPlace(t *testing.T) {
	const n = 2003
	for k := range n {
		l := make([]bool, n)
		l[k] = true
		want := make([]byte, 251)
		want[k/8] = []byte{1, 2, 4, 8, 16, 32, 64, 128}[k%8]
		if got := bits.Pack(l); !slices.Equal(got, want) {
			t.Fatalf("Pack of %d bits, the bit %d set: wrong bytes %v", n, k, got)
		}
	}
}

func TestPackReadsNothingBehindTheLength(t *testing.T) {
	list := slices.Repeat([]bool{true}, 24)
	if got := bits.Pack(list[:3]); !slices.Equal(got, []byte{7}) {
		t.Errorf("Pack of 3 bits of 24 = %v, want [7]", got)
	}
	if got := bits.Pack(list[:10]); !slices.Equal(got, []byte{255, 3}) {
		t.Errorf("Pack of 10 bits of 24 = %v, want [255 3]", got)
	}
}

func TestPackKeepsNothing(t *testing.T) {
	list := pattern(20)
	first, second := bits.Pack(list), bits.Pack(list)
	first[0] ^= 255
	if !slices.Equal(list, pattern(20)) {
		t.Errorf("Pack changed its bits: %v", list)
	}
	list[0] = !list[0]
	if !slices.Equal(second, bits.Pack(pattern(20))) {
		t.Errorf("an answer of Pack shares memory: %v", second)
	}
}

// BI2: Unpack.

func TestUnpackOfSomeBytes(t *testing.T) {
	cases := []struct {
		bytes []byte
		n     int
		want  []bool
	}{
		{nil, 0, nil},
		{[]byte{}, 0, nil},
		{[]byte{0}, 1, []bool{false}},
		{[]byte{1}, 1, []bool{true}},
		{[]byte{5}, 3, []bool{true, false, true}},
		{[]byte{1}, 8, []bool{true, false, false, false, false, false, false, false}},
		{[]byte{128}, 8, []bool{false, false, false, false, false, false, false, true}},
		{[]byte{0, 1}, 9, []bool{false, false, false, false, false, false, false, false, true}},
		{[]byte{1, 0}, 9, []bool{true, false, false, false, false, false, false, false, false}},
		{[]byte{255, 255}, 16, slices.Repeat([]bool{true}, 16)},
		{[]byte{255, 255, 1}, 17, slices.Repeat([]bool{true}, 17)},
	}
	for _, c := range cases {
		got, err := bits.Unpack(c.bytes, c.n)
		if err != api.OK || !slices.Equal(got, c.want) {
			t.Errorf("Unpack(%v, %d) = %v, %d, want %v, 0", c.bytes, c.n, got, int(err), c.want)
		}
	}
}

func TestUnpackPassesOverWhatStandsBehind(t *testing.T) {
	for first := range 256 {
		for n := 1; n <= 8; n++ {
			got, err := bits.Unpack([]byte{byte(first)}, n)
			if err != api.OK || !slices.Equal(got, numberBits(first, n)) {
				t.Fatalf("Unpack([%d], %d) = %v, %d", first, n, got, int(err))
			}
			got, err = bits.Unpack([]byte{200, byte(first)}, 8+n)
			if err != api.OK || !slices.Equal(got, numberBits(256*first+200, 8+n)) {
				t.Fatalf("Unpack([200 %d], %d) = %v, %d", first, 8+n, got, int(err))
			}
		}
	}
}

func TestUnpackTellsEachBitOfItsPlace(t *testing.T) {
	const n = 2003
	for k := range n {
		b := make([]byte, 251)
		b[k/8] = []byte{1, 2, 4, 8, 16, 32, 64, 128}[k%8]
		want := make([]bool, n)
		want[k] = true
		if got, err := bits.Unpack(b, n); err != api.OK || !slices.Equal(got, want) {
			t.Fatalf("Unpack of %d bits, the bit %d set: wrong bits, error %d", n, k, int(err))
		}
	}
}

func TestUnpackRefuses(t *testing.T) {
	cases := []struct {
		bytes []byte
		n     int
		want  api.Errno
	}{
		{nil, -1, api.ErrArg},
		{[]byte{1}, -1, api.ErrArg}, // it is too long, too: the argument comes first
		{[]byte{1, 2}, -8, api.ErrArg},
		{nil, math.MinInt, api.ErrArg},
		{make([]byte, 300), math.MinInt, api.ErrArg},
		{nil, 1, api.ErrShort},
		{[]byte{}, 8, api.ErrShort},
		{[]byte{1}, 9, api.ErrShort},
		{[]byte{1, 2}[:1], 16, api.ErrShort}, // the second byte lies behind the length
		{[]byte{1, 2}, 17, api.ErrShort},
		{nil, math.MaxInt, api.ErrShort},
		{make([]byte, 300), math.MaxInt, api.ErrShort},
		{make([]byte, 300), math.MaxInt - 7, api.ErrShort},
		{[]byte{0}, 0, api.ErrLong},
		{[]byte{1, 0}, 1, api.ErrLong},
		{[]byte{1, 0}, 8, api.ErrLong},
		{[]byte{1, 0, 0}, 9, api.ErrLong},
		{[]byte{1, 0, 0}, 16, api.ErrLong},
		{make([]byte, 300), 9, api.ErrLong},
	}
	for _, c := range cases {
		if got, err := bits.Unpack(c.bytes, c.n); err != c.want || len(got) != 0 {
			t.Errorf("Unpack of %d bytes, %d = %v, %d, want nothing, %d", len(c.bytes), c.n, got, int(err), int(c.want))
		}
	}
}

func TestUnpackOfEachLength(t *testing.T) {
	for size := range 12 {
		for n := -20; n < 100; n++ {
			want := api.OK
			switch {
			case n < 0:
				want = api.ErrArg
			case 8*size < n:
				want = api.ErrShort
			case 8*size >= n+8:
				want = api.ErrLong
			}
			got, err := bits.Unpack(make([]byte, size), n)
			if err != want || err == api.OK && len(got) != n || err != api.OK && len(got) != 0 {
				t.Errorf("Unpack of %d bytes, %d = %d bits, %d, want %d", size, n, len(got), int(err), int(want))
			}
		}
	}
}

func TestUnpackKeepsNothing(t *testing.T) {
	bytes := []byte{0xa5, 0xff, 0x03}
	first, _ := bits.Unpack(bytes, 18)
	second, _ := bits.Unpack(bytes, 18)
	want := slices.Clone(second)
	first[0] = !first[0]
	if !slices.Equal(bytes, []byte{0xa5, 0xff, 0x03}) {
		t.Errorf("Unpack changed its bytes: %v", bytes)
	}
	bytes[0] = 0
	if !slices.Equal(second, want) {
		t.Errorf("an answer of Unpack shares memory: %v", second)
	}
}

// BI2: Tidy.

func TestTidyOfEachByteAndNumber(t *testing.T) {
	for last := range 256 {
		for n := -9; n < 30; n++ {
			want := n >= 1 && n <= 8 && last < 1<<max(n, 0)
			if got := bits.Tidy([]byte{byte(last)}, n); got != want {
				t.Fatalf("Tidy([%d], %d) = %v, want %v", last, n, got, want)
			}
			want = n >= 9 && n <= 16 && last < 1<<max(n-8, 0)
			if got := bits.Tidy([]byte{255, byte(last)}, n); got != want {
				t.Fatalf("Tidy([255 %d], %d) = %v, want %v", last, n, got, want)
			}
		}
	}
}

func TestTidyOfTheEdges(t *testing.T) {
	cases := []struct {
		bytes []byte
		n     int
		want  bool
	}{
		{nil, 0, true},
		{[]byte{}, 0, true},
		{[]byte{1}[:0], 0, true},
		{[]byte{0}, 0, false},
		{nil, -1, false},
		{nil, -8, false},
		{[]byte{0}, -1, false},
		{nil, math.MinInt, false},
		{[]byte{0}, math.MinInt, false},
		{nil, 1, false},
		{nil, math.MaxInt, false},
		{[]byte{0}, math.MaxInt, false},
		{[]byte{5}, 3, true},
		{[]byte{5}, 2, false},
		{[]byte{5, 0}, 3, false},
		{[]byte{5, 255}[:1], 3, true}, // what lies behind the length is not looked at
		{[]byte{255, 255}, 16, true},
		{[]byte{255, 255}, 17, false},
		{[]byte{255, 255, 1}, 17, true},
		{[]byte{255, 255, 2}, 17, false},
	}
	for _, c := range cases {
		if got := bits.Tidy(c.bytes, c.n); got != c.want {
			t.Errorf("Tidy(%v, %d) = %v, want %v", c.bytes, c.n, got, c.want)
		}
	}
}

func TestTidyLeavesItsBytesAlone(t *testing.T) {
	bytes := []byte{255, 255}
	bits.Tidy(bytes, 9)
	bits.Tidy(bytes, 16)
	if !slices.Equal(bytes, []byte{255, 255}) {
		t.Errorf("Tidy changed its bytes: %v", bytes)
	}
}

// BI3: Ones.

func TestOnesOfSomeLists(t *testing.T) {
	cases := []struct {
		list []bool
		want int
	}{
		{nil, 0},
		{[]bool{}, 0},
		{[]bool{false}, 0},
		{[]bool{true}, 1},
		{[]bool{true, false, true}, 2},
		{[]bool{true, true, true, true}[:2], 2}, // two more lie behind the length
		{slices.Repeat([]bool{true}, 2000), 2000},
		{slices.Repeat([]bool{false, true, false}, 700), 700},
	}
	for _, c := range cases {
		if got := bits.Ones(c.list); got != c.want {
			t.Errorf("Ones of %d bits = %d, want %d", len(c.list), got, c.want)
		}
	}
}

func TestOnesOfEachShortList(t *testing.T) {
	everyList(12, func(l []bool, number int) {
		want := 0
		for ; number > 0; number /= 2 {
			want += number % 2
		}
		before := slices.Clone(l)
		if got := bits.Ones(l); got != want {
			t.Fatalf("Ones(%v) = %d, want %d", l, got, want)
		}
		if !slices.Equal(l, before) {
			t.Fatalf("Ones changed its bits: %v, they were %v", l, before)
		}
	})
}

// BI3: Flags.

func TestFlagsOfSomeBits(t *testing.T) {
	if got := bits.Flags(); got != 0 {
		t.Errorf("Flags() = %d, want 0", got)
	}
	if got := bits.Flags(true); got != 1 {
		t.Errorf("Flags(true) = %d, want 1", got)
	}
	if got := bits.Flags(false, true); got != 2 {
		t.Errorf("Flags(false, true) = %d, want 2", got)
	}
	if got := bits.Flags(true, false, true); got != 5 {
		t.Errorf("Flags(true, false, true) = %d, want 5", got)
	}
	if got := bits.Flags(false, false, false, false, false, false, false, true); got != 128 {
		t.Errorf("Flags of the eighth bit = %d, want 128", got)
	}
	if got := bits.Flags(false, false, false, false, false, false, false, false, true); got != 0 {
		t.Errorf("Flags of the ninth bit = %d, want 0", got)
	}
	if got := bits.Flags(slices.Repeat([]bool{true}, 2000)...); got != 255 {
		t.Errorf("Flags of 2000 bits = %d, want 255", got)
	}
	if got := bits.Flags(slices.Repeat([]bool{true}, 8)[:3]...); got != 7 {
		t.Errorf("Flags of 3 bits of 8 = %d, want 7", got)
	}
}

func TestFlagsOfEachShortList(t *testing.T) {
	everyList(11, func(l []bool, number int) {
		before := slices.Clone(l)
		if got, want := bits.Flags(l...), byte(number%256); got != want {
			t.Fatalf("Flags(%v) = %d, want %d", l, got, want)
		}
		if !slices.Equal(l, before) {
			t.Fatalf("Flags changed its bits: %v, they were %v", l, before)
		}
	})
}

// BI4: what follows.

func TestWhatWasPackedIsUnpacked(t *testing.T) {
	check := func(l []bool) {
		b := bits.Pack(l)
		if len(b) != bits.Size(len(l)) || !bits.Tidy(b, len(l)) {
			t.Fatalf("Pack of %d bits: %v is not tidy", len(l), b)
		}
		if got, err := bits.Unpack(b, len(l)); err != api.OK || !slices.Equal(got, l) {
			t.Fatalf("Unpack(Pack) of %d bits = %v, %d, want %v, 0", len(l), got, int(err), l)
		}
	}
	everyList(14, func(l []bool, _ int) { check(l) })
	for n := range 2100 {
		check(pattern(n))
	}
}

func TestWhatIsTidyIsPackedAgain(t *testing.T) {
	check := func(b []byte, n int) {
		if !bits.Tidy(b, n) {
			return
		}
		l, err := bits.Unpack(b, n)
		if err != api.OK || !slices.Equal(bits.Pack(l), b) {
			t.Fatalf("Pack(Unpack(%v, %d)) = %v, error %d", b, n, bits.Pack(l), int(err))
		}
	}
	check(nil, 0)
	for number := range 1 << 16 {
		for n := 9; n <= 16; n++ {
			check(numberBytes(number, 2), n)
		}
	}
	for number := range 1 << 8 {
		for n := 1; n <= 8; n++ {
			check(numberBytes(number, 1), n)
		}
	}
}

func TestWhatIsNotTidyIsTidiedByPackingAgain(t *testing.T) {
	for number := range 1 << 8 {
		for n := 1; n <= 8; n++ {
			b := []byte{byte(number)}
			l, err := bits.Unpack(b, n)
			same := err == api.OK && slices.Equal(bits.Pack(l), b)
			if same != bits.Tidy(b, n) {
				t.Fatalf("Tidy(%v, %d) = %v, yet packing again says %v", b, n, bits.Tidy(b, n), same)
			}
		}
	}
}
