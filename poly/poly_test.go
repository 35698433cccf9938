package poly_test

import (
	"math/bits"
	"slices"
	"testing"

	"bilge/poly"
)

// terms is the coefficients of x to the 16, x to the 15, x squared, and 1, the highest one first.
var terms = []int{1, 1, 0, 0, 0, 0, 0, 0, 0, 0, 0, 0, 0, 0, 1, 0, 1}

// divided is the remainder of bytes by a long division on paper: their bits, 16 noughts behind them, are taken as coefficients, the first one as the highest; r stands against the first 16.
func divided(r uint16, b []byte) uint16 {
	var paper []int
	for _, x := range b {
		for k := range 8 {
			paper = append(paper, int(x>>k&1))
		}
	}
	paper = append(paper, make([]int, 16)...)
	for k := range 16 {
		paper[k] ^= int(r >> k & 1)
	}
	for len(paper) > 16 {
		if paper[0] == 1 {
			for k, term := range terms {
				paper[k] ^= term
			}
		}
		paper = paper[1:]
	}
	var rest uint16
	for k, bit := range paper {
		rest |= uint16(bit) << k
	}
	return rest
}

// pattern is n bytes in which those near one another differ; seed makes unlike patterns.
func pattern(n int, seed uint32) []byte {
	b := make([]byte, n)
	for i := range b {
		seed = seed*1664525 + 1013904223
		b[i] = byte(seed >> 24)
	}
	return b
}

// everyRemainder calls check with each remainder.
func everyRemainder(check func(r uint16)) {
	for r := range 1 << 16 {
		check(uint16(r))
	}
}

// PO1: Bit.

func TestBitOfSomeRemainders(t *testing.T) {
	cases := []struct {
		r    uint16
		one  bool
		want uint16
	}{
		{0, false, 0},
		{0, true, 40961},
		{1, false, 40961},
		{1, true, 0},
		{2, false, 1},
		{2, true, 40960},
		{3, false, 40960},
		{3, true, 1},
		{32768, false, 16384},
		{32768, true, 57345},
		{40961, false, 61441},
		{40961, true, 20480},
		{65534, false, 32767},
		{65534, true, 57342},
		{65535, false, 57342},
		{65535, true, 32767},
	}
	for _, c := range cases {
		if got := poly.Bit(c.r, c.one); got != c.want {
			t.Errorf("Bit(%d, %v) = %d, want %d", c.r, c.one, got, c.want)
		}
	}
}

func TestBitIsAStepOfTheDivisionInTheOtherOrder(t *testing.T) {
	everyRemainder(func(r uint16) {
		for _, one := range []bool{false, true} {
			// With the highest coefficient at the high end, a step goes one place up, and the polynomial is 32773.
			upright := uint32(bits.Reverse16(r))
			if one {
				upright ^= 32768
			}
			upright <<= 1
			if upright >= 65536 {
				upright ^= 65536 + 32773
			}
			if got, want := poly.Bit(r, one), bits.Reverse16(uint16(upright)); got != want {
				t.Fatalf("Bit(%d, %v) = %d, want %d", r, one, got, want)
			}
		}
	})
}

// PO1: Byte.

func TestByteOfSomeRemainders(t *testing.T) {
	cases := []struct {
		r    uint16
		b    byte
		want uint16
	}{
		{0, 0, 0},
		{0, 1, 49345},
		{0, 128, 40961},
		{0, 255, 16448},
		{1, 0, 49345},
		{1, 1, 0},
		{256, 0, 1},
		{65535, 255, 255},
		{65535, 0, 16575},
		{255, 255, 0},
		{65280, 0, 255},
	}
	for _, c := range cases {
		if got := poly.Byte(c.r, c.b); got != c.want {
			t.Errorf("Byte(%d, %d) = %d, want %d", c.r, c.b, got, c.want)
		}
	}
}

func TestByteIsItsBitsTheLowestFirst(t *testing.T) {
	everyRemainder(func(r uint16) {
		for b := range 256 {
			want, rest := r, b
			for range 8 {
				want = poly.Bit(want, rest%2 == 1)
				rest /= 2
			}
			if got := poly.Byte(r, byte(b)); got != want {
				t.Fatalf("Byte(%d, %d) = %d, want %d", r, b, got, want)
			}
		}
	})
}

func TestByteIsDivided(t *testing.T) {
	for b := range 256 {
		for _, r := range []uint16{0, 1, 255, 256, 32768, 40961, 65535} {
			if got, want := poly.Byte(r, byte(b)), divided(r, []byte{byte(b)}); got != want {
				t.Errorf("Byte(%d, %d) = %d, want %d", r, b, got, want)
			}
		}
	}
}

// PO1: Rem.

func TestRemOfSomeBytes(t *testing.T) {
	cases := []struct {
		r     uint16
		bytes []byte
		want  uint16
	}{
		{65535, []byte{1, 4, 2, 255, 255}, 32952},
		{0, nil, 0},
		{65535, nil, 65535},
		{40961, []byte{}, 40961},
		{0, []byte{0}, 0},
		{0, []byte{0, 0, 0, 0}, 0},
		{0, []byte{1}, 49345},
		{65535, []byte("123456789"), 19255},
		{0, []byte("123456789"), 47933},
		{65535, []byte{1, 2}, 57729},
		{65535, []byte{2, 1}, 4289},
		{65535, []byte{255, 255}, 0},
		{4660, []byte{52, 18}, 0},
	}
	for _, c := range cases {
		if got := poly.Rem(c.r, c.bytes); got != c.want {
			t.Errorf("Rem(%d, %v) = %d, want %d", c.r, c.bytes, got, c.want)
		}
	}
}

func TestRemIsDivided(t *testing.T) {
	for n := range 300 {
		b := pattern(n, uint32(n))
		for _, r := range []uint16{0, 1, 32768, 65535, uint16(n * 219)} {
			if got, want := poly.Rem(r, b), divided(r, b); got != want {
				t.Fatalf("Rem(%d) of %d bytes = %d, want %d", r, n, got, want)
			}
		}
	}
}

func TestRemIsItsBytesTheFirstOneFirst(t *testing.T) {
	b := pattern(40, 7)
	want := uint16(65535)
	for i, x := range b {
		if got := poly.Rem(65535, b[:i]); got != want {
			t.Errorf("Rem of the first %d bytes = %d, want %d", i, got, want)
		}
		want = poly.Byte(want, x)
	}
}

func TestRemReadsNothingBehindTheLength(t *testing.T) {
	b := []byte{1, 4, 2, 255, 255, 9, 9, 9}
	if got := poly.Rem(65535, b[:5]); got != 32952 {
		t.Errorf("Rem of 5 bytes of 8 = %d, want 32952", got)
	}
	if got := poly.Rem(77, b[:0]); got != 77 {
		t.Errorf("Rem of no byte of 8 = %d, want 77", got)
	}
}

func TestRemKeepsNothing(t *testing.T) {
	b := pattern(50, 3)
	first := poly.Rem(65535, b)
	if !slices.Equal(b, pattern(50, 3)) {
		t.Errorf("Rem changed its bytes: %v", b)
	}
	poly.Rem(1, pattern(9, 1))
	if second := poly.Rem(65535, b); second != first {
		t.Errorf("Rem of the same bytes = %d, and then %d", first, second)
	}
}

// PO2: Back.

func TestBackOfSomeRemainders(t *testing.T) {
	cases := []struct {
		r    uint16
		b    byte
		want uint16
	}{
		{0, 0, 0},
		{49345, 1, 0},
		{49345, 0, 1},
		{40961, 128, 0},
		{0, 1, 1},
		{0, 255, 255},
		{1, 0, 256},
		{255, 255, 65535},
		{16575, 0, 65535},
	}
	for _, c := range cases {
		if got := poly.Back(c.r, c.b); got != c.want {
			t.Errorf("Back(%d, %d) = %d, want %d", c.r, c.b, got, c.want)
		}
	}
}

func TestBackIsTheOneRemainderAhead(t *testing.T) {
	everyRemainder(func(r uint16) {
		for b := range 256 {
			q := poly.Back(r, byte(b))
			if got := poly.Byte(q, byte(b)); got != r {
				t.Fatalf("Back(%d, %d) = %d, but Byte of that is %d", r, b, q, got)
			}
			if got := poly.Back(poly.Byte(r, byte(b)), byte(b)); got != r {
				t.Fatalf("Back of Byte(%d, %d) = %d", r, b, got)
			}
		}
	})
}

func TestBackUndoesAWholeFrame(t *testing.T) {
	b := pattern(256, 5)
	r := poly.Rem(65535, b)
	for i := len(b) - 1; i >= 0; i-- {
		r = poly.Back(r, b[i])
		if want := poly.Rem(65535, b[:i]); r != want {
			t.Fatalf("back to %d bytes: %d, want %d", i, r, want)
		}
	}
}

// PO2: Mix.

func TestMixOfSomeBytes(t *testing.T) {
	cases := []struct{ a, b, want []byte }{
		{nil, nil, nil},
		{nil, []byte{}, nil},
		{[]byte{}, []byte{1, 2}, nil},
		{[]byte{1, 2}, nil, nil},
		{[]byte{0}, []byte{0}, []byte{0}},
		{[]byte{5}, []byte{3}, []byte{6}},
		{[]byte{255}, []byte{255}, []byte{0}},
		{[]byte{255}, []byte{0}, []byte{255}},
		{[]byte{1, 2, 3}, []byte{3, 2}, []byte{2, 0}},
		{[]byte{3, 2}, []byte{1, 2, 3}, []byte{2, 0}},
		{[]byte{240, 15, 170}, []byte{15, 240, 85}, []byte{255, 255, 255}},
	}
	for _, c := range cases {
		if got := poly.Mix(c.a, c.b); !slices.Equal(got, c.want) {
			t.Errorf("Mix(%v, %v) = %v, want %v", c.a, c.b, got, c.want)
		}
	}
}

func TestMixTellsEachBitInWhichBothDiffer(t *testing.T) {
	for a := range 256 {
		for b := range 256 {
			var want byte
			for _, bit := range []int{1, 2, 4, 8, 16, 32, 64, 128} {
				if a/bit%2 != b/bit%2 {
					want += byte(bit)
				}
			}
			if got := poly.Mix([]byte{byte(a)}, []byte{byte(b)}); !slices.Equal(got, []byte{want}) {
				t.Fatalf("Mix(%d, %d) = %v, want [%d]", a, b, got, want)
			}
		}
	}
}

func TestMixHasAsManyBytesAsTheShorterOne(t *testing.T) {
	for n := range 40 {
		for m := range 40 {
			a, b := pattern(n, 1), pattern(m, 2)
			got := poly.Mix(a, b)
			if len(got) != min(n, m) {
				t.Fatalf("Mix of %d and %d bytes has %d", n, m, len(got))
			}
			for i, x := range got {
				if x != a[i]^b[i] {
					t.Fatalf("Mix of %d and %d bytes: the byte %d is %d, want %d", n, m, i, x, a[i]^b[i])
				}
			}
		}
	}
}

func TestMixReadsNothingBehindTheLength(t *testing.T) {
	a, b := []byte{1, 2, 3, 4}, []byte{5, 6, 7, 8}
	if got := poly.Mix(a[:2], b); !slices.Equal(got, []byte{4, 4}) {
		t.Errorf("Mix of 2 bytes of 4 = %v, want [4 4]", got)
	}
	if got := poly.Mix(a, b[:1]); !slices.Equal(got, []byte{4}) {
		t.Errorf("Mix with 1 byte of 4 = %v, want [4]", got)
	}
}

func TestMixSharesNothing(t *testing.T) {
	a, b := pattern(20, 1), pattern(20, 2)
	first, second := poly.Mix(a, b), poly.Mix(a, b)
	want := slices.Clone(second)
	for i := range first {
		first[i] ^= 255
	}
	if !slices.Equal(a, pattern(20, 1)) || !slices.Equal(b, pattern(20, 2)) {
		t.Errorf("Mix changed its bytes, or shares them: %v, %v", a, b)
	}
	for i := range a {
		a[i], b[i] = 0, 255
	}
	if !slices.Equal(second, want) {
		t.Errorf("an answer of Mix shares memory: %v, want %v", second, want)
	}
}

func TestMixOfBytesWithThemselvesAndWithPartOfThem(t *testing.T) {
	a := pattern(20, 9)
	if got := poly.Mix(a, a); !slices.Equal(got, make([]byte, 20)) {
		t.Errorf("Mix of bytes with themselves = %v", got)
	}
	got := poly.Mix(a, a[1:])
	for i, x := range got {
		if x != a[i]^a[i+1] {
			t.Errorf("Mix of bytes with those one place on: the byte %d is %d, want %d", i, x, a[i]^a[i+1])
		}
	}
	if !slices.Equal(a, pattern(20, 9)) {
		t.Errorf("Mix changed its bytes: %v", a)
	}
}

// PO3: what follows.

func TestRemOfMixedBytes(t *testing.T) {
	check := func(p, q uint16, a, b []byte) {
		got, want := poly.Rem(p^q, poly.Mix(a, b)), poly.Rem(p, a)^poly.Rem(q, b)
		if got != want {
			t.Fatalf("Rem(%d) of Mix(%v, %v) = %d, want %d", p^q, a, b, got, want)
		}
	}
	for n := range 260 {
		p, q := uint16(n*251), uint16(65535-n*97)
		check(p, q, pattern(n, 1), pattern(n, 2))
		check(p, p, pattern(n, 1), pattern(n, 1))
		check(65535, 0, pattern(n, 3), make([]byte, n))
	}
	for a := range 256 {
		for b := range 256 {
			check(65535, 40961, []byte{byte(a)}, []byte{byte(b)})
		}
	}
}

func TestRemGoesOnWhereItStood(t *testing.T) {
	b := pattern(260, 11)
	for _, r := range []uint16{0, 1, 32768, 65535} {
		want := poly.Rem(r, b)
		for i := range len(b) + 1 {
			if got := poly.Rem(poly.Rem(r, b[:i]), b[i:]); got != want {
				t.Fatalf("Rem(%d) cut at %d = %d, want %d", r, i, got, want)
			}
		}
	}
}

func TestUnlikeRemaindersStayUnlike(t *testing.T) {
	check := func(b []byte) {
		var from [1 << 16]int
		everyRemainder(func(r uint16) {
			behind := poly.Rem(r, b)
			if from[behind] != 0 {
				t.Fatalf("Rem(%d) and Rem(%d) of %v are both %d", from[behind]-1, r, b, behind)
			}
			from[behind] = int(r) + 1
		})
	}
	check(nil)
	for b := range 256 {
		check([]byte{byte(b)})
	}
	check([]byte{0, 0})
	check(pattern(30, 4))
}

func TestTheSumBehindItsBytesLeavesNothing(t *testing.T) {
	for n := range 254 {
		b := pattern(n, uint32(n)+100)
		r := poly.Rem(65535, b)
		if got := poly.Rem(65535, append(b, byte(r), byte(r>>8))); got != 0 {
			t.Fatalf("Rem of %d bytes and their sum = %d, want 0", n, got)
		}
	}
}
