package crc_test

import (
	"math"
	"slices"
	"testing"

	"bilge/api"
	"bilge/crc"
	"bilge/poly"
)

// pattern is n bytes in which those near one another differ; seed makes unlike patterns.
func pattern(n int, seed uint32) []byte {
	b := make([]byte, n)
	for i := range b {
		seed = seed*1664525 + 1013904223
		b[i] = byte(seed >> 24)
	}
	return b
}

// turned is bytes with some of their bits turned, which are numbered from the lowest one of the first byte on.
func turned(b []byte, places ...int) []byte {
	other := slices.Clone(b)
	for _, place := range places {
		other[place/8] ^= 1 << (place % 8)
	}
	return other
}

// CR1: Table.

func TestTableOfSomeBytes(t *testing.T) {
	for b, want := range map[byte]uint16{0: 0, 1: 49345, 2: 49537, 15: 1088, 16: 52225, 127: 57409, 128: 40961, 240: 17408, 254: 32897, 255: 16448} {
		if got := crc.Table(b); got != want {
			t.Errorf("Table(%d) = %d, want %d", b, got, want)
		}
	}
}

func TestTableOfEachByteIsDivided(t *testing.T) {
	for b := range 256 {
		if got, want := crc.Table(byte(b)), poly.Byte(0, byte(b)); got != want {
			t.Errorf("Table(%d) = %d, want %d", b, got, want)
		}
	}
}

// CR1: Update.

func TestUpdateOfSomeSums(t *testing.T) {
	cases := []struct {
		c    uint16
		b    byte
		want uint16
	}{
		{0, 0, 0},
		{0, 255, 16448},
		{1, 0, 49345},
		{1, 1, 0},
		{256, 0, 1},
		{65535, 0, 16575},
		{65535, 255, 255},
		{65280, 0, 255},
		{255, 255, 0},
	}
	for _, c := range cases {
		if got := crc.Update(c.c, c.b); got != c.want {
			t.Errorf("Update(%d, %d) = %d, want %d", c.c, c.b, got, c.want)
		}
	}
}

func TestUpdateOfEachSumAndByteIsDivided(t *testing.T) {
	for c := range 1 << 16 {
		for b := range 256 {
			if got, want := crc.Update(uint16(c), byte(b)), poly.Byte(uint16(c), byte(b)); got != want {
				t.Fatalf("Update(%d, %d) = %d, want %d", c, b, got, want)
			}
		}
	}
}

// CR1: Sum.

func TestSumOfSomeBytes(t *testing.T) {
	cases := []struct {
		bytes []byte
		want  uint16
	}{
		{nil, 65535},
		{[]byte{}, 65535},
		{[]byte{0}, 16575},
		{[]byte{255}, 255},
		{[]byte{255, 255}, 0},
		{[]byte{1, 2}, 57729},
		{[]byte{2, 1}, 4289},
		{[]byte{1, 4, 2, 255, 255}, 32952},
		{[]byte("123456789"), 19255},
	}
	for _, c := range cases {
		if got := crc.Sum(c.bytes); got != c.want {
			t.Errorf("Sum(%v) = %d, want %d", c.bytes, got, c.want)
		}
	}
}

func TestSumIsDividedFrom65535On(t *testing.T) {
	for n := range 600 {
		b := pattern(n, uint32(n))
		if got, want := crc.Sum(b), poly.Rem(65535, b); got != want {
			t.Fatalf("Sum of %d bytes = %d, want %d", n, got, want)
		}
	}
	long := pattern(1<<17+3, 5)
	if got, want := crc.Sum(long), poly.Rem(65535, long); got != want {
		t.Errorf("Sum of %d bytes = %d, want %d", len(long), got, want)
	}
}

func TestSumGoesOnByUpdate(t *testing.T) {
	b := pattern(260, 7)
	want := uint16(65535)
	for i, x := range b {
		if got := crc.Sum(b[:i]); got != want {
			t.Fatalf("Sum of the first %d bytes = %d, want %d", i, got, want)
		}
		want = crc.Update(want, x)
	}
}

func TestSumReadsNothingBehindTheLengthAndKeepsNothing(t *testing.T) {
	b := []byte{1, 4, 2, 255, 255, 9, 9}
	for range 2 {
		if got := crc.Sum(b[:5]); got != 32952 {
			t.Errorf("Sum of 5 bytes of 7 = %d, want 32952", got)
		}
	}
	if got := crc.Sum(b[:0]); got != 65535 {
		t.Errorf("Sum of no byte of 7 = %d, want 65535", got)
	}
	if !slices.Equal(b, []byte{1, 4, 2, 255, 255, 9, 9}) {
		t.Errorf("Sum changed its bytes: %v", b)
	}
}

// CR2: Append.

func TestAppendOfSomeBytes(t *testing.T) {
	cases := []struct{ bytes, want []byte }{
		{nil, []byte{255, 255}},
		{[]byte{}, []byte{255, 255}},
		{[]byte{0}, []byte{0, 191, 64}},
		{[]byte{255}, []byte{255, 255, 0}},
		{[]byte{255, 255}, []byte{255, 255, 0, 0}},
		{[]byte{1, 2}, []byte{1, 2, 129, 225}},
		{[]byte{1, 4, 2, 255, 255}, []byte{1, 4, 2, 255, 255, 184, 128}},
	}
	for _, c := range cases {
		if got := crc.Append(c.bytes); !slices.Equal(got, c.want) {
			t.Errorf("Append(%v) = %v, want %v", c.bytes, got, c.want)
		}
	}
}

func TestAppendTellsTheBytesAndTheirSumTheLowByteFirst(t *testing.T) {
	for n := range 300 {
		b := pattern(n, uint32(n)+9)
		r := poly.Rem(65535, b)
		if got, want := crc.Append(b), append(slices.Clone(b), byte(r%256), byte(r/256)); !slices.Equal(got, want) {
			t.Fatalf("Append of %d bytes = %v, want %v", n, got, want)
		}
	}
}

func TestAppendLeavesItsMemoryAlone(t *testing.T) {
	b := []byte{1, 4, 2, 255, 255, 7, 7, 7}
	first, second := crc.Append(b[:5]), crc.Append(b[:5])
	for i := range first {
		first[i] ^= 255
	}
	if !slices.Equal(b, []byte{1, 4, 2, 255, 255, 7, 7, 7}) {
		t.Errorf("Append changed its bytes, or what lies behind: %v", b)
	}
	b[0] = 99
	if !slices.Equal(second, []byte{1, 4, 2, 255, 255, 184, 128}) {
		t.Errorf("an answer of Append shares memory: %v", second)
	}
	for _, x := range second[len(second):cap(second)] {
		if x != 0 {
			t.Errorf("Append hands out memory behind its length: %v", second[:cap(second)])
		}
	}
}

// CR2: Check.

func TestCheckOfSomeBytes(t *testing.T) {
	cases := []struct {
		bytes []byte
		want  bool
	}{
		{nil, false},
		{[]byte{}, false},
		{[]byte{0}, false},
		{[]byte{255}, false},
		{[]byte{255, 255}, true}, // the sum of no byte
		{[]byte{0, 0}, false},
		{[]byte{255, 254}, false},
		{[]byte{255, 255, 0}, true},
		{[]byte{0, 0, 0}, false},
		{[]byte{0, 191, 64}, true},
		{[]byte{0, 64, 191}, false}, // the high byte first
		{[]byte{255, 255, 0, 0}, true},
		{[]byte{1, 4, 2, 255, 255, 184, 128}, true},
		{[]byte{1, 4, 2, 255, 255, 128, 184}, false},
		{[]byte{4, 1, 2, 255, 255, 184, 128}, false},
		{[]byte{1, 4, 2, 255, 255, 184, 129}, false},
		{[]byte{1, 4, 2, 255, 255, 184}, false},
		{[]byte{1, 4, 2, 255, 255, 184, 128, 0}, true}, // the remainder 0 stays 0 by a nought, so this is its sum too
		{[]byte{1, 4, 2, 255, 255, 184, 128, 1}, false},
	}
	for _, c := range cases {
		if got := crc.Check(c.bytes); got != c.want {
			t.Errorf("Check(%v) = %v, want %v", c.bytes, got, c.want)
		}
	}
}

func TestCheckIsAppendOfTheRest(t *testing.T) {
	for n := range 300 {
		b := pattern(n, uint32(n)+77)
		want := n >= 2 && slices.Equal(b, crc.Append(b[:n-2]))
		if got := crc.Check(b); got != want {
			t.Errorf("Check(%v) = %v, want %v", b, got, want)
		}
	}
}

func TestCheckTakesJustOneOfAllSums(t *testing.T) {
	for _, n := range []int{0, 1, 2, 5, 254} {
		b := pattern(n, uint32(n))
		want := poly.Rem(65535, b)
		whole := append(slices.Clone(b), 0, 0)
		for s := range 1 << 16 {
			whole[n], whole[n+1] = byte(s), byte(s>>8)
			if got := crc.Check(whole); got != (uint16(s) == want) {
				t.Fatalf("Check of %d bytes and %d, %d = %v", n, whole[n], whole[n+1], got)
			}
		}
	}
}

func TestCheckReadsNothingBehindTheLength(t *testing.T) {
	b := []byte{1, 4, 2, 255, 255, 184, 128, 9, 9}
	if !crc.Check(b[:7]) {
		t.Error("Check of 7 bytes of 9 = false, want true")
	}
	if crc.Check(b[:6]) || crc.Check(b[:8]) || crc.Check(b) {
		t.Error("Check of 6, 8 or 9 bytes = true, want false")
	}
	if short := []byte{255, 255}; crc.Check(short[:1]) || crc.Check(short[:0]) {
		t.Error("Check of fewer than two bytes = true, want false")
	}
	if !slices.Equal(b, []byte{1, 4, 2, 255, 255, 184, 128, 9, 9}) {
		t.Errorf("Check changed its bytes: %v", b)
	}
}

// CR2: Strip.

func TestStripTellsTheBytesWithoutTheirSum(t *testing.T) {
	if got, err := crc.Strip([]byte{1, 4, 2, 255, 255, 184, 128}); err != api.OK || !slices.Equal(got, []byte{1, 4, 2, 255, 255}) {
		t.Errorf("Strip = %v, %d, want [1 4 2 255 255], 0", got, int(err))
	}
	for n := range 300 {
		b := pattern(n, uint32(n)+5)
		got, err := crc.Strip(crc.Append(b))
		if err != api.OK || !slices.Equal(got, b) {
			t.Fatalf("Strip of Append of %d bytes = %v, %d, want %v, 0", n, got, int(err), b)
		}
	}
}

func TestStripRefusesFewerThanTwoBytes(t *testing.T) {
	whole := []byte{255, 255}
	for _, b := range [][]byte{nil, {}, {0}, {255}, whole[:0], whole[:1]} {
		if got, err := crc.Strip(b); err != api.ErrShort || len(got) != 0 {
			t.Errorf("Strip(%v) = %v, %d, want nothing, ErrShort", b, got, int(err))
		}
	}
}

func TestStripRefusesAWrongSum(t *testing.T) {
	cases := [][]byte{
		{0, 0},
		{255, 254},
		{0, 0, 0},
		{1, 4, 2, 255, 255},
		{1, 4, 2, 255, 255, 184},
		{1, 4, 2, 255, 255, 128, 184},
		{2, 4, 2, 255, 255, 184, 128},
		[]byte{1, 4, 2, 255, 255, 184, 128}[:6],
	}
	for _, b := range cases {
		if got, err := crc.Strip(b); err != api.ErrForm || len(got) != 0 {
			t.Errorf("Strip(%v) = %v, %d, want nothing, ErrForm", b, got, int(err))
		}
	}
}

func TestStripIsOKJustWhereCheckIs(t *testing.T) {
	for b := range 1 << 16 {
		whole := []byte{7, byte(b), byte(b >> 8)}
		want := api.ErrForm
		if crc.Check(whole) {
			want = api.OK
		}
		if _, err := crc.Strip(whole); err != want {
			t.Fatalf("Strip(%v): error %d, want %d", whole, int(err), int(want))
		}
	}
}

func TestStripLeavesItsMemoryAlone(t *testing.T) {
	b := []byte{1, 4, 2, 255, 255, 184, 128, 9}
	first, _ := crc.Strip(b[:7])
	second, _ := crc.Strip(b[:7])
	for i := range first {
		first[i] ^= 255
	}
	if !slices.Equal(b, []byte{1, 4, 2, 255, 255, 184, 128, 9}) {
		t.Errorf("Strip changed its bytes, or shares them: %v", b)
	}
	b[0] = 99
	if !slices.Equal(second, []byte{1, 4, 2, 255, 255}) {
		t.Errorf("an answer of Strip shares memory: %v", second)
	}
	for _, x := range second[len(second):cap(second)] {
		if x != 0 {
			t.Errorf("Strip hands out memory behind its length: %v", second[:cap(second)])
		}
	}
}

// CR3: Join.

func TestJoinOfBytesCutAnywhere(t *testing.T) {
	for _, n := range []int{0, 1, 2, 3, 256, 700} {
		b := pattern(n, uint32(n)+1)
		want := poly.Rem(65535, b)
		for i := range n + 1 {
			got, err := crc.Join(crc.Sum(b[:i]), crc.Sum(b[i:]), n-i)
			if err != api.OK || got != want {
				t.Fatalf("Join of %d bytes cut at %d = %d, %d, want %d, 0", n, i, got, int(err), want)
			}
		}
	}
}

func TestJoinOfEachFirstSum(t *testing.T) {
	// Of two bytes each sum is that of just one pair, so all first sums come.
	for a := range 1 << 16 {
		first := []byte{byte(a), byte(a >> 8)}
		for n := range 4 {
			second := pattern(n, uint32(a))
			got, err := crc.Join(crc.Sum(first), crc.Sum(second), n)
			if want := poly.Rem(65535, append(first, second...)); err != api.OK || got != want {
				t.Fatalf("Join of %v and %v = %d, %d, want %d, 0", first, second, got, int(err), want)
			}
		}
	}
}

func TestJoinOfEachSecondSum(t *testing.T) {
	for b := range 1 << 16 {
		second := []byte{byte(b), byte(b >> 8)}
		for n := range 4 {
			first := pattern(n, uint32(b))
			got, err := crc.Join(crc.Sum(first), crc.Sum(second), 2)
			if want := poly.Rem(65535, append(first, second...)); err != api.OK || got != want {
				t.Fatalf("Join of %v and %v = %d, %d, want %d, 0", first, second, got, int(err), want)
			}
		}
	}
}

func TestJoinOfManyBytes(t *testing.T) {
	b := pattern(3+65536, 21)
	for _, n := range []int{256, 4095, 32766, 32767, 32768, 65534, 65535, 65536} {
		whole := b[:3+n]
		got, err := crc.Join(crc.Sum(whole[:3]), crc.Sum(whole[3:]), n)
		if want := poly.Rem(65535, whole); err != api.OK || got != want {
			t.Errorf("Join of 3 and %d bytes = %d, %d, want %d, 0", n, got, int(err), want)
		}
	}
}

func TestJoinIsTheSameWhateverTheBytesAre(t *testing.T) {
	a, b := []byte{1, 6, 0, 3}, []byte{9, 8, 7, 6, 5}
	// The last two bytes are chosen such that the sums are those of other bytes.
	like := func(b []byte, seed uint32) []byte {
		start := pattern(len(b)-2, seed)
		for s := range 1 << 16 {
			if other := append(slices.Clone(start), byte(s), byte(s>>8)); crc.Sum(other) == crc.Sum(b) {
				return other
			}
		}
		t.Fatalf("no bytes like %v", b)
		return nil
	}
	want, _ := crc.Join(crc.Sum(a), crc.Sum(b), len(b))
	for seed := range uint32(5) {
		whole := append(like(a, seed), like(b, seed+5)...)
		if got := crc.Sum(whole); got != want {
			t.Errorf("Join = %d, but the sum of %v is %d", want, whole, got)
		}
	}
}

func TestJoinOfNoByteIsTheFirstSum(t *testing.T) {
	for a := range 1 << 16 {
		if got, err := crc.Join(uint16(a), 65535, 0); err != api.OK || got != uint16(a) {
			t.Fatalf("Join(%d, 65535, 0) = %d, %d, want %d, 0", a, got, int(err), a)
		}
	}
}

func TestJoinBehindNoByteIsTheSecondSum(t *testing.T) {
	for n := range 300 {
		b := pattern(n, uint32(n)+40)
		if got, err := crc.Join(65535, crc.Sum(b), n); err != api.OK || got != crc.Sum(b) {
			t.Errorf("Join(65535, %d, %d) = %d, %d", crc.Sum(b), n, got, int(err))
		}
	}
}

func TestJoinIsOKForSumsThatNoBytesHave(t *testing.T) {
	for b := range 1 << 16 {
		for n := range 2 {
			if _, err := crc.Join(1, uint16(b), n); err != api.OK {
				t.Fatalf("Join(1, %d, %d): error %d, want 0", b, n, int(err))
			}
		}
	}
}

func TestJoinRefusesOtherNumbers(t *testing.T) {
	for _, n := range []int{-1, -2, -65536, math.MinInt, 65537, 65538, 131072, 1 << 32, math.MaxInt} {
		for _, a := range []uint16{0, 1, 65535} {
			if got, err := crc.Join(a, 77, n); err != api.ErrArg || got != 0 {
				t.Errorf("Join(%d, 77, %d) = %d, %d, want 0, ErrArg", a, n, got, int(err))
			}
		}
	}
	for _, n := range []int{0, 1, 65535, 65536} {
		if _, err := crc.Join(1, 77, n); err != api.OK {
			t.Errorf("Join(1, 77, %d): error %d, want 0", n, int(err))
		}
	}
}

// CR4: what follows.

func TestWhatWasAppendedIsCheckedAndLeavesNothing(t *testing.T) {
	check := func(b []byte) {
		whole := crc.Append(b)
		if !crc.Check(whole) {
			t.Fatalf("Check of Append of %d bytes = false", len(b))
		}
		if got := crc.Sum(whole); got != 0 {
			t.Fatalf("Sum of Append of %d bytes = %d, want 0", len(b), got)
		}
		if got := poly.Rem(65535, whole); got != 0 {
			t.Fatalf("the remainder of Append of %d bytes = %d, want 0", len(b), got)
		}
	}
	for n := range 600 {
		check(pattern(n, uint32(n)))
		check(make([]byte, n))
	}
	for b := range 1 << 16 {
		check([]byte{byte(b), byte(b >> 8)})
	}
}

func TestEachOddNumberOfTurnedBitsOfAShortFrame(t *testing.T) {
	whole := crc.Append([]byte{165})
	for places := range 1 << 24 {
		odd := 0
		for rest := places; rest != 0; rest &= rest - 1 {
			odd ^= 1
		}
		if odd == 0 {
			continue
		}
		other := [3]byte{whole[0] ^ byte(places), whole[1] ^ byte(places>>8), whole[2] ^ byte(places>>16)}
		if crc.Check(other[:]) {
			t.Fatalf("Check(%v) = true: bits %b of %v are turned", other, places, whole)
		}
	}
}

func TestOddNumbersOfTurnedBitsOfLongFrames(t *testing.T) {
	for _, n := range []int{0, 1, 6, 254, 4093, 4094, 9000} {
		whole := crc.Append(pattern(n, uint32(n)+3))
		bits := 8 * len(whole)
		for odd := 1; odd < min(bits, 60); odd += 2 {
			for first := range min(bits-odd, 20) {
				var places []int
				for k := range odd {
					places = append(places, first+(bits-first)*k/odd)
				}
				if crc.Check(turned(whole, places...)) {
					t.Fatalf("Check of %d bytes = true: the bits %v are turned", len(whole), places)
				}
			}
		}
	}
}

func TestEachTwoTurnedBitsOfAFrame(t *testing.T) {
	for _, n := range []int{0, 1, 4} {
		whole := crc.Append(pattern(n, uint32(n)+2))
		for j := range 8 * len(whole) {
			for i := range j {
				if crc.Check(turned(whole, i, j)) {
					t.Fatalf("Check of %d bytes = true: the bits %d and %d are turned", len(whole), i, j)
				}
			}
		}
	}
}

func TestTwoTurnedBitsOfTheLongestFrame(t *testing.T) {
	whole := crc.Append(pattern(4093, 8))
	last := 8*len(whole) - 1
	// Two turned bits cancel just if each alone leaves the same.
	leftBy := map[uint16]int{}
	for i := range last + 1 {
		left := crc.Sum(turned(whole, i))
		if other, ok := leftBy[left]; ok {
			t.Fatalf("the bits %d and %d of %d bytes leave the same, %d", other, i, len(whole), left)
		}
		leftBy[left] = i
	}
	for i := range last {
		for _, j := range []int{i + 1, last} {
			if i != j && crc.Check(turned(whole, i, j)) {
				t.Fatalf("Check of %d bytes = true: the bits %d and %d are turned", len(whole), i, j)
			}
		}
	}
	if crc.Check(turned(whole, 0, last)) {
		t.Errorf("Check of %d bytes = true: the first and the last bit are turned", len(whole))
	}
}

func TestTwoTurnedBitsOneByteBeyondTheLongestFrame(t *testing.T) {
	whole := crc.Append(pattern(4094, 8))
	if !crc.Check(turned(whole, 0, 32767)) {
		t.Errorf("Check of %d bytes = false: bits 32767 apart are turned, which this polynomial can't tell", len(whole))
	}
}

func TestTurnedBitsThatStandWithinSixteen(t *testing.T) {
	for _, n := range []int{0, 1, 3} {
		whole := crc.Append(pattern(n, uint32(n)+6))
		bits := 8 * len(whole)
		other := make([]byte, len(whole))
		for first := range bits - 15 {
			for burst := 1; burst < 1<<16; burst++ {
				copy(other, whole)
				laid := burst << (first % 8)
				for k := range 3 {
					if i := first/8 + k; i < len(other) {
						other[i] ^= byte(laid >> (8 * k))
					}
				}
				if crc.Check(other) {
					t.Fatalf("Check(%v) = true: bits %b from %d on of %v are turned", other, burst, first, whole)
				}
			}
		}
	}
}

func TestTurnedBitsThatStandWithinSixteenOfALongFrame(t *testing.T) {
	for _, n := range []int{254, 5000} {
		whole := crc.Append(pattern(n, uint32(n)))
		bits := 8 * len(whole)
		for first := 0; first < bits-15; first += 1 + bits/3000 {
			burst := 1 + first*40503%65535
			var places []int
			for k := range 16 {
				if burst>>k&1 == 1 {
					places = append(places, first+k)
				}
			}
			if crc.Check(turned(whole, places...)) {
				t.Fatalf("Check of %d bytes = true: the bits %v are turned", len(whole), places)
			}
		}
	}
}

func TestTurnedBitsThatStandWithinSeventeen(t *testing.T) {
	// The polynomial's own terms span one bit more than what is always seen.
	whole := crc.Append(pattern(20, 4))
	for first := range 8*len(whole) - 16 {
		if !crc.Check(turned(whole, first, first+1, first+14, first+16)) {
			t.Errorf("Check = false: the polynomial is held against %v from the bit %d on, which leaves the remainder alone", whole, first)
		}
	}
}
