package word_test

import (
	"math"
	"slices"
	"testing"

	"bilge/api"
	"bilge/word"
)

// everyWord calls check with each of the 65536 words.
func everyWord(check func(w uint16)) {
	for w := range 1 << 16 {
		check(uint16(w))
	}
}

// WO1: Put.

func TestPutTellsTheHighByteFirst(t *testing.T) {
	cases := []struct {
		words []uint16
		want  []byte
	}{
		{nil, nil},
		{[]uint16{}, nil},
		{[]uint16{0}, []byte{0, 0}},
		{[]uint16{1}, []byte{0, 1}},
		{[]uint16{255}, []byte{0, 255}},
		{[]uint16{256}, []byte{1, 0}},
		{[]uint16{258}, []byte{1, 2}},
		{[]uint16{65535}, []byte{255, 255}},
		{[]uint16{258, 772, 0, 65280}, []byte{1, 2, 3, 4, 0, 0, 255, 0}},
	}
	for _, c := range cases {
		if got := word.Put(c.words...); !slices.Equal(got, c.want) {
			t.Errorf("Put(%v) = %v, want %v", c.words, got, c.want)
		}
	}
	if got := word.Put(); len(got) != 0 {
		t.Errorf("Put() = %v, want nothing", got)
	}
}

func TestPutOfEachWord(t *testing.T) {
	everyWord(func(w uint16) {
		if got, want := word.Put(w), []byte{byte(w / 256), byte(w % 256)}; !slices.Equal(got, want) {
			t.Fatalf("Put(%d) = %v, want %v", w, got, want)
		}
	})
}

func TestPutLeavesItsWordsAlone(t *testing.T) {
	words := []uint16{1, 2, 3, 4}
	first := word.Put(words[:2]...)
	second := word.Put(words[:2]...)
	first[0] = 99
	if !slices.Equal(words, []uint16{1, 2, 3, 4}) {
		t.Errorf("Put changed its words: %v", words)
	}
	if !slices.Equal(second, []byte{0, 1, 0, 2}) {
		t.Errorf("two answers of Put share memory: %v", second)
	}
}

// WO1: Get.

func TestGetTellsTheWords(t *testing.T) {
	cases := []struct {
		bytes []byte
		want  []uint16
	}{
		{nil, nil},
		{[]byte{}, nil},
		{[]byte{0, 0}, []uint16{0}},
		{[]byte{0, 1}, []uint16{1}},
		{[]byte{1, 0}, []uint16{256}},
		{[]byte{1, 2}, []uint16{258}},
		{[]byte{255, 255}, []uint16{65535}},
		{[]byte{1, 2, 3, 4, 0, 0, 255, 0}, []uint16{258, 772, 0, 65280}},
	}
	for _, c := range cases {
		got, err := word.Get(c.bytes)
		if err != api.OK || !slices.Equal(got, c.want) {
			t.Errorf("Get(%v) = %v, %d, want %v, 0", c.bytes, got, int(err), c.want)
		}
	}
}

func TestGetRefusesAnOddNumberOfBytes(t *testing.T) {
	for n := 1; n < 300; n += 2 {
		got, err := word.Get(make([]byte, n))
		if err != api.ErrShort || len(got) != 0 {
			t.Errorf("Get of %d bytes = %v, %d, want nothing, ErrShort", n, got, int(err))
		}
	}
}

func TestGetReadsNothingBehindTheLength(t *testing.T) {
	bytes := []byte{1, 2, 3, 4}
	if got, err := word.Get(bytes[:3]); err != api.ErrShort || len(got) != 0 {
		t.Errorf("Get of 3 bytes of 4 = %v, %d, want nothing, ErrShort", got, int(err))
	}
	if got, err := word.Get(bytes[:2]); err != api.OK || !slices.Equal(got, []uint16{258}) {
		t.Errorf("Get of 2 bytes of 4 = %v, %d, want [258], 0", got, int(err))
	}
}

func TestGetKeepsNothing(t *testing.T) {
	bytes := []byte{1, 2, 3, 4}
	first, _ := word.Get(bytes)
	second, _ := word.Get(bytes)
	first[0] = 99
	if !slices.Equal(bytes, []byte{1, 2, 3, 4}) {
		t.Errorf("Get changed its bytes: %v", bytes)
	}
	bytes[0] = 77
	if !slices.Equal(second, []uint16{258, 772}) {
		t.Errorf("an answer of Get shares memory: %v", second)
	}
}

// WO1: At.

func TestAtTellsTheWordAtAPlace(t *testing.T) {
	bytes := []byte{1, 2, 3, 255, 0}
	for i, want := range []uint16{258, 515, 1023, 65280} {
		if got, ok := word.At(bytes, i); !ok || got != want {
			t.Errorf("At(%v, %d) = %d, %v, want %d, true", bytes, i, got, ok, want)
		}
	}
}

func TestAtRefusesPlacesWithoutTwoBytes(t *testing.T) {
	full := []byte{1, 2, 3, 4}
	cases := []struct {
		bytes []byte
		place int
	}{
		{full, -1},
		{full, -2},
		{full, math.MinInt},
		{full, 3}, // the high byte alone
		{full, 4},
		{full, 5},
		{full, math.MaxInt - 1},
		{full, math.MaxInt},
		{full[:1], 0}, // the second byte lies behind the length
		{full[:2], 1},
		{nil, 0},
		{nil, -1},
		{nil, 1},
		{nil, math.MaxInt},
		{nil, math.MinInt},
		{[]byte{}, 0},
		{[]byte{9}, 0},
		{[]byte{9}, -1},
	}
	for _, c := range cases {
		if got, ok := word.At(c.bytes, c.place); ok || got != 0 {
			t.Errorf("At(%v, %d) = %d, %v, want 0, false", c.bytes, c.place, got, ok)
		}
	}
}

func TestAtReachesJustTheLength(t *testing.T) {
	bytes := []byte{1, 2, 3, 4}
	if got, ok := word.At(bytes[:2], 0); !ok || got != 258 {
		t.Errorf("At of 2 bytes, 0 = %d, %v, want 258, true", got, ok)
	}
	if got, ok := word.At(bytes, 2); !ok || got != 772 {
		t.Errorf("At of 4 bytes, 2 = %d, %v, want 772, true", got, ok)
	}
}

// WO2: Low.

func TestLowTellsTheLowByteFirst(t *testing.T) {
	if got := word.Low(258); !slices.Equal(got, []byte{2, 1}) {
		t.Errorf("Low(258) = %v, want [2 1]", got)
	}
	everyWord(func(w uint16) {
		if got, want := word.Low(w), []byte{byte(w % 256), byte(w / 256)}; !slices.Equal(got, want) {
			t.Fatalf("Low(%d) = %v, want %v", w, got, want)
		}
	})
}

func TestLowAnswersNewMemory(t *testing.T) {
	first, second := word.Low(258), word.Low(258)
	first[0], first[1] = 9, 9
	if !slices.Equal(second, []byte{2, 1}) {
		t.Errorf("two answers of Low share memory: %v", second)
	}
}

// WO2: Unlow.

func TestUnlowTellsTheWordOfTwoBytes(t *testing.T) {
	cases := []struct {
		bytes []byte
		want  uint16
	}{
		{[]byte{0, 0}, 0},
		{[]byte{1, 0}, 1},
		{[]byte{0, 1}, 256},
		{[]byte{2, 1}, 258},
		{[]byte{255, 255}, 65535},
		{[]byte{2, 1, 7}[:2], 258},
	}
	for _, c := range cases {
		if got, ok := word.Unlow(c.bytes); !ok || got != c.want {
			t.Errorf("Unlow(%v) = %d, %v, want %d, true", c.bytes, got, ok, c.want)
		}
	}
}

func TestUnlowRefusesOtherLengths(t *testing.T) {
	for _, bytes := range [][]byte{nil, {}, {7}, []byte{2, 1}[:1], {1, 2, 3}, {1, 2, 3, 4}, make([]byte, 256)} {
		if got, ok := word.Unlow(bytes); ok || got != 0 {
			t.Errorf("Unlow(%v) = %d, %v, want 0, false", bytes, got, ok)
		}
	}
}

func TestUnlowLeavesItsBytesAlone(t *testing.T) {
	bytes := []byte{2, 1}
	word.Unlow(bytes)
	if !slices.Equal(bytes, []byte{2, 1}) {
		t.Errorf("Unlow changed its bytes: %v", bytes)
	}
}

// WO2: Turn.

func TestTurnOfSomeWords(t *testing.T) {
	cases := []struct{ word, want uint16 }{
		{0, 0},
		{1, 32768},
		{2, 16384},
		{128, 256},
		{255, 65280},
		{258, 16512},
		{32768, 1},
		{65535, 65535},
		{0x1234, 0x2c48},
	}
	for _, c := range cases {
		if got := word.Turn(c.word); got != c.want {
			t.Errorf("Turn(%d) = %d, want %d", c.word, got, c.want)
		}
	}
}

func TestTurnOfEachWordBitByBit(t *testing.T) {
	everyWord(func(w uint16) {
		got := word.Turn(w)
		for k := range 16 {
			if got>>k&1 != w>>(15-k)&1 {
				t.Fatalf("Turn(%d) = %d: bit %d is wrong", w, got, k)
			}
		}
	})
}

// WO3: what follows.

func TestWhatWasPutIsGot(t *testing.T) {
	var all []uint16
	everyWord(func(w uint16) {
		all = append(all, w)
		one, err := word.Get(word.Put(w))
		if err != api.OK || !slices.Equal(one, []uint16{w}) {
			t.Fatalf("Get(Put(%d)) = %v, %d", w, one, int(err))
		}
		if at, ok := word.At(word.Put(w), 0); !ok || at != w {
			t.Fatalf("At(Put(%d), 0) = %d, %v", w, at, ok)
		}
		if low, ok := word.Unlow(word.Low(w)); !ok || low != w {
			t.Fatalf("Unlow(Low(%d)) = %d, %v", w, low, ok)
		}
	})
	put := word.Put(all...)
	if got, err := word.Get(put); err != api.OK || !slices.Equal(got, all) {
		t.Errorf("Get(Put) of all words: %d words, error %d", len(got), int(err))
	}
	for i, w := range all {
		if at, ok := word.At(put, 2*i); !ok || at != w {
			t.Fatalf("At(Put of all words, %d) = %d, %v, want %d, true", 2*i, at, ok, w)
		}
	}
	if got, err := word.Get(word.Put()); err != api.OK || len(got) != 0 {
		t.Errorf("Get(Put()) = %v, %d, want nothing, 0", got, int(err))
	}
}

func TestWhatWasGotIsPut(t *testing.T) {
	everyWord(func(w uint16) {
		bytes := []byte{byte(w), byte(w >> 8), byte(w >> 4), byte(w >> 12)}
		words, err := word.Get(bytes)
		if err != api.OK || !slices.Equal(word.Put(words...), bytes) {
			t.Fatalf("Put(Get(%v)) = %v, error %d", bytes, word.Put(words...), int(err))
		}
	})
}

func TestTurnOfTurnIsTheWord(t *testing.T) {
	everyWord(func(w uint16) {
		if got := word.Turn(word.Turn(w)); got != w {
			t.Fatalf("Turn(Turn(%d)) = %d", w, got)
		}
	})
}
