package adu_test

import (
	"math"
	"slices"
	"testing"

	"bilge/adu"
	"bilge/api"
	"bilge/poly"
)

// most is how many bytes the longest frame says, and longest how many it has.
const most, longest = 253, 256

// known are frames that are told by their bytes.
var known = []struct {
	station    int
	pdu, frame []byte
}{
	{1, []byte{4, 2, 255, 255}, []byte{1, 4, 2, 255, 255, 184, 128}},
	{1, []byte{6, 0, 3, 0, 9}, []byte{1, 6, 0, 3, 0, 9, 185, 204}},
	{1, []byte{131, 2}, []byte{1, 131, 2, 192, 241}},
	{0, []byte{0}, []byte{0, 0, 1, 176}},
	{255, []byte{255}, []byte{255, 255, 0, 0}},
	{17, []byte{7}, []byte{17, 7, 76, 34}},
	{247, []byte{43, 14, 1, 0}, []byte{247, 43, 14, 1, 0, 184, 98}},
}

// wrongStations are numbers that are no byte.
var wrongStations = []int{-1, 256, -2, 257, -255, -256, 511, 512, 65536, -65536, 1 << 32, 1<<32 + 1, -1 << 32, math.MinInt, math.MinInt + 1, math.MaxInt}

// pattern is n bytes in which those near one another differ; seed makes unlike patterns.
func pattern(n int, seed uint32) []byte {
	b := make([]byte, n)
	for i := range b {
		seed = seed*1664525 + 1013904223
		b[i] = byte(seed >> 24)
	}
	return b
}

// summed is bytes with their sum behind, which is divided bit by bit.
func summed(b ...byte) []byte {
	r := poly.Rem(65535, b)
	return append(slices.Clone(b), byte(r%256), byte(r/256))
}

// framed is the frame that a station and what is said make.
func framed(station int, pdu []byte) []byte {
	return summed(append([]byte{byte(station)}, pdu...)...)
}

// checkWrap asks whether a frame is wrapped.
func checkWrap(t *testing.T, station int, pdu, want []byte) {
	t.Helper()
	if got, err := adu.Wrap(station, pdu); err != api.OK || !slices.Equal(got, want) {
		t.Fatalf("Wrap(%d, %v) = %v, %d, want %v, 0", station, pdu, got, int(err), want)
	}
}

// checkNotWrapped asks whether none is, for that reason.
func checkNotWrapped(t *testing.T, station int, pdu []byte, want api.Errno) {
	t.Helper()
	if got, err := adu.Wrap(station, pdu); err != want || len(got) != 0 {
		t.Errorf("Wrap(%d, %d bytes) = %v, %d, want nothing, %d", station, len(pdu), got, int(err), int(want))
	}
}

// checkOpen asks whether a frame is opened.
func checkOpen(t *testing.T, frame []byte, station int, pdu []byte) {
	t.Helper()
	if s, got, err := adu.Open(frame); err != api.OK || s != station || !slices.Equal(got, pdu) {
		t.Fatalf("Open(%v) = %d, %v, %d, want %d, %v, 0", frame, s, got, int(err), station, pdu)
	}
}

// checkNotOpened asks whether bytes are not, for that reason.
func checkNotOpened(t *testing.T, frame []byte, want api.Errno) {
	t.Helper()
	if s, got, err := adu.Open(frame); err != want || s != 0 || len(got) != 0 {
		t.Fatalf("Open(%v) = %d, %v, %d, want 0, nothing, %d", frame, s, got, int(err), int(want))
	}
}

// checkNothingBehind asks whether an answer hands out nothing behind its length.
func checkNothingBehind(t *testing.T, b []byte) {
	t.Helper()
	for _, x := range b[len(b):cap(b)] {
		if x != 0 {
			t.Errorf("there is something behind the length of an answer: %v", b[:cap(b)])
		}
	}
}

// AD1: Wrap.

func TestWrapOfSomeFrames(t *testing.T) {
	for _, k := range known {
		checkWrap(t, k.station, k.pdu, k.frame)
	}
}

func TestWrapForEachStation(t *testing.T) {
	for station := range 256 {
		for _, n := range []int{1, 2, 5, most} {
			pdu := pattern(n, uint32(station))
			checkWrap(t, station, pdu, framed(station, pdu))
		}
	}
}

func TestWrapOfEachLength(t *testing.T) {
	for n := 1; n <= most; n++ {
		for _, station := range []int{0, 1, 247, 248, 255} {
			pdu := pattern(n, uint32(n+station))
			want := framed(station, pdu)
			checkWrap(t, station, pdu, want)
			if len(want) != n+3 || int(want[0]) != station || !slices.Equal(want[1:n+1], pdu) {
				t.Fatalf("the frame of %d and %v is %v", station, pdu, want)
			}
		}
	}
}

func TestWrapOfEachByte(t *testing.T) {
	for b := range 256 {
		checkWrap(t, 9, []byte{byte(b)}, summed(9, byte(b)))
	}
}

func TestWrapOfNoughtsAndOfBytesThatAreAllSet(t *testing.T) {
	for _, b := range []byte{0, 255} {
		for _, n := range []int{1, 2, 3, 252, most} {
			pdu := slices.Repeat([]byte{b}, n)
			checkWrap(t, int(b), pdu, framed(int(b), pdu))
		}
	}
}

func TestWrapRefusesAStationThatIsNoByte(t *testing.T) {
	for _, station := range wrongStations {
		for _, n := range []int{1, 4, most} {
			checkNotWrapped(t, station, pattern(n, 3), api.ErrArg)
		}
	}
}

func TestWrapRefusesToSayNothing(t *testing.T) {
	whole := []byte{4, 2}
	for _, station := range []int{0, 1, 247, 255} {
		for _, pdu := range [][]byte{nil, {}, whole[:0], whole[2:]} {
			checkNotWrapped(t, station, pdu, api.ErrShort)
		}
	}
}

func TestWrapRefusesToSayTooMuch(t *testing.T) {
	for _, station := range []int{0, 1, 247, 255} {
		for _, n := range []int{254, 255, 256, 257, 258, 509, 511, 512, 65535, 65536, 65537, 65540, 1 << 20} {
			checkNotWrapped(t, station, pattern(n, 3), api.ErrLong)
		}
	}
}

func TestWrapTellsTheStationsErrorFirst(t *testing.T) {
	for _, station := range wrongStations {
		for _, n := range []int{0, 254, 257, 65536} {
			checkNotWrapped(t, station, pattern(n, 3), api.ErrArg)
		}
		checkNotWrapped(t, station, nil, api.ErrArg)
	}
}

func TestWrapLeavesItsMemoryAlone(t *testing.T) {
	for _, n := range []int{1, 4, 252, most} {
		whole := append(pattern(n, 8), 7, 7, 7, 7)
		before, want := slices.Clone(whole), framed(1, whole[:n])
		first, _ := adu.Wrap(1, whole[:n])
		second, _ := adu.Wrap(1, whole[:n])
		for i := range first {
			first[i] ^= 255
		}
		if !slices.Equal(whole, before) {
			t.Errorf("Wrap of %d bytes changed them, or what lies behind, or shares them", n)
		}
		whole[0] ^= 255
		if !slices.Equal(second, want) {
			t.Errorf("an answer of Wrap of %d bytes shares memory: %v, want %v", n, second, want)
		}
		checkNothingBehind(t, second)
	}
}

// AD1: Size.

func TestSizeOfEachNumber(t *testing.T) {
	for n := -1000; n <= 1000; n++ {
		want := 0
		if n >= 1 && n <= 253 {
			want = n + 3
		}
		if got := adu.Size(n); got != want {
			t.Errorf("Size(%d) = %d, want %d", n, got, want)
		}
	}
}

func TestSizeOfNumbersFarAway(t *testing.T) {
	for _, n := range []int{math.MinInt, math.MinInt + 1, math.MinInt + 2, -1 << 32, 65537, 1<<32 + 1, math.MaxInt - 3, math.MaxInt - 2, math.MaxInt - 1, math.MaxInt} {
		if got := adu.Size(n); got != 0 {
			t.Errorf("Size(%d) = %d, want 0", n, got)
		}
	}
}

func TestSizeIsHowManyBytesWrapTells(t *testing.T) {
	for n := range 600 {
		b, _ := adu.Wrap(5, pattern(n, 1))
		if got := adu.Size(n); got != len(b) {
			t.Errorf("Size(%d) = %d, but Wrap tells %d bytes", n, got, len(b))
		}
	}
}

// AD2: Open.

func TestOpenOfSomeFrames(t *testing.T) {
	for _, k := range known {
		checkOpen(t, k.frame, k.station, k.pdu)
	}
}

func TestOpenFromEachStation(t *testing.T) {
	for station := range 256 {
		for _, n := range []int{1, 2, 5, most} {
			pdu := pattern(n, uint32(station)+40)
			checkOpen(t, framed(station, pdu), station, pdu)
		}
	}
}

func TestOpenOfEachLength(t *testing.T) {
	for n := range 700 {
		b := pattern(max(n, 2)-2, uint32(n))
		frame := summed(b...)[:n]
		switch {
		case n < 4:
			checkNotOpened(t, frame, api.ErrShort)
		case n > 256:
			checkNotOpened(t, frame, api.ErrLong)
		default:
			checkOpen(t, frame, int(b[0]), b[1:])
		}
	}
}

func TestOpenRefusesFewerThanFourBytes(t *testing.T) {
	checkNotOpened(t, nil, api.ErrShort)
	checkNotOpened(t, []byte{}, api.ErrShort)
	for b := range 256 {
		checkNotOpened(t, []byte{byte(b)}, api.ErrShort)
	}
	for w := range 1 << 16 {
		checkNotOpened(t, []byte{byte(w), byte(w >> 8)}, api.ErrShort)
		checkNotOpened(t, []byte{9, byte(w), byte(w >> 8)}, api.ErrShort)
	}
}

func TestOpenRefusesFewerThanFourBytesThatEndWithTheirSum(t *testing.T) {
	checkNotOpened(t, summed(), api.ErrShort)
	for b := range 256 {
		checkNotOpened(t, summed(byte(b)), api.ErrShort)
	}
}

func TestOpenRefusesFewerThanFourBytesOfMoreInMemory(t *testing.T) {
	whole := framed(1, []byte{3})
	for n := range 4 {
		checkNotOpened(t, whole[:n], api.ErrShort)
		checkNotOpened(t, whole[4-n:], api.ErrShort)
	}
}

func TestOpenRefusesMoreThanAFrameWhateverItsSum(t *testing.T) {
	for _, n := range []int{257, 258, 259, 260, 511, 512, 513, 65535, 65536, 65540, 1 << 20} {
		right := summed(pattern(n-2, uint32(n))...)
		checkNotOpened(t, right, api.ErrLong)
		wrong := slices.Clone(right)
		wrong[n-1] ^= 1
		checkNotOpened(t, wrong, api.ErrLong)
	}
}

func TestOpenTakesJustOneOfAllSums(t *testing.T) {
	for _, n := range []int{2, 3, 7, 254} {
		b := pattern(n, uint32(n)+2)
		right, frame := poly.Rem(65535, b), append(slices.Clone(b), 0, 0)
		for s := range 1 << 16 {
			frame[n], frame[n+1] = byte(s), byte(s>>8)
			if uint16(s) == right {
				checkOpen(t, frame, int(b[0]), b[1:])
			} else {
				checkNotOpened(t, frame, api.ErrForm)
			}
		}
	}
}

func TestOpenRefusesAWrongSumOfEachLength(t *testing.T) {
	for n := 4; n <= longest; n++ {
		frame := summed(pattern(n-2, uint32(n)+6)...)
		for _, i := range []int{0, 1, n / 2, n - 3, n - 2, n - 1} {
			wrong := slices.Clone(frame)
			wrong[i]++
			checkNotOpened(t, wrong, api.ErrForm)
		}
	}
}

func TestOpenRefusesWhatIsNoFrame(t *testing.T) {
	cases := [][]byte{
		{0, 0, 0, 0},
		{255, 255, 255, 255},
		{1, 4, 2, 255, 255},
		{1, 4, 2, 255, 255, 184},
		{1, 4, 2, 255, 255, 128, 184}, // the high byte of the sum first
		{2, 4, 2, 255, 255, 184, 128},
		{1, 4, 2, 255, 255, 184, 128, 1},
		{0, 1, 4, 2, 255, 255, 184, 128},
		{4, 2, 255, 255, 184, 128},
		{1, 4, 2, 255, 255, 184, 128, 1, 4, 2, 255, 255, 184, 128, 1},
	}
	for _, b := range cases {
		checkNotOpened(t, b, api.ErrForm)
	}
}

func TestOpenReadsNothingBehindTheLength(t *testing.T) {
	whole := append(framed(1, []byte{4, 2, 255, 255}), 9, 9)
	checkOpen(t, whole[:7], 1, []byte{4, 2, 255, 255})
	for _, n := range []int{4, 5, 6, 8, 9} {
		checkNotOpened(t, whole[:n], api.ErrForm)
	}
	long := append(framed(1, pattern(most, 2)), 9, 9)
	checkOpen(t, long[:longest], 1, pattern(most, 2))
}

func TestOpenLeavesItsMemoryAlone(t *testing.T) {
	for _, n := range []int{1, 4, 252, most} {
		pdu := pattern(n, 8)
		whole := append(framed(1, pdu), 7, 7, 7, 7)
		before, frame := slices.Clone(whole), whole[:n+3]
		_, first, _ := adu.Open(frame)
		_, second, _ := adu.Open(frame)
		for i := range first {
			first[i] ^= 255
		}
		_ = append(second, 1, 2, 3)
		if !slices.Equal(whole, before) {
			t.Errorf("Open of %d bytes changed them, or what lies behind, or shares them", len(frame))
		}
		for i := range whole {
			whole[i] ^= 255
		}
		if !slices.Equal(second, pdu) {
			t.Errorf("an answer of Open of %d bytes shares memory: %v, want %v", len(frame), second, pdu)
		}
	}
}

func TestOpenHandsOutNothingBehindTheLength(t *testing.T) {
	for n := 1; n <= most; n++ {
		_, pdu, _ := adu.Open(framed(200, pattern(n, 12)))
		checkNothingBehind(t, pdu)
	}
}

func TestOpenOfAFrameWithANoughtBehind(t *testing.T) {
	// What ends with its sum leaves no remainder, and a nought leaves that alone.
	checkOpen(t, []byte{1, 4, 2, 255, 255, 184, 128, 0}, 1, []byte{4, 2, 255, 255, 184})
	checkNotOpened(t, append(framed(1, pattern(most, 2)), 0), api.ErrLong)
}

// AD3.

func TestWhatWasWrappedIsOpened(t *testing.T) {
	for station := range 256 {
		for n := 1; n <= most; n += 1 + station%7 {
			pdu := pattern(n, uint32(300*station+n))
			frame, err := adu.Wrap(station, pdu)
			if err != api.OK {
				t.Fatalf("Wrap(%d, %v): %d", station, pdu, int(err))
			}
			checkOpen(t, frame, station, pdu)
		}
	}
}

func TestWhatWasOpenedIsThatFrameWhenWrapped(t *testing.T) {
	for n := 4; n <= longest; n++ {
		for seed := range uint32(20) {
			frame := summed(pattern(n-2, 1000*seed+uint32(n))...)
			station, pdu, err := adu.Open(frame)
			if err != api.OK {
				t.Fatalf("Open(%v): %d", frame, int(err))
			}
			checkWrap(t, station, pdu, frame)
		}
	}
}

func TestWhateverIsOpenedIsThatFrameWhenWrapped(t *testing.T) {
	// Of four bytes with the same first two some are opened, whichever these are.
	for w := range 1 << 16 {
		opened := 0
		b := []byte{byte(w), byte(w >> 8), 0, 0}
		right := poly.Rem(65535, b[:2])
		for _, s := range []uint16{right, right ^ 1, right ^ 32768, right<<8 | right>>8, 0, 65535, uint16(w)} {
			b[2], b[3] = byte(s), byte(s>>8)
			station, pdu, err := adu.Open(b)
			if err != api.OK {
				continue
			}
			opened++
			checkWrap(t, station, pdu, b)
		}
		if opened == 0 {
			t.Fatalf("no frame of %v is opened", b[:2])
		}
	}
}

func TestAFrameIsOneStationsAndOnePdus(t *testing.T) {
	type said struct {
		station int
		pdu     string
	}
	from := map[string]said{}
	add := func(station int, pdu []byte) {
		frame, err := adu.Wrap(station, pdu)
		if err != api.OK {
			t.Fatalf("Wrap(%d, %v): %d", station, pdu, int(err))
		}
		now := said{station, string(pdu)}
		if other, ok := from[string(frame)]; ok && other != now {
			t.Fatalf("%v is the frame of %v and of %v", frame, other, now)
		}
		from[string(frame)] = now
	}
	for station := range 256 {
		for b := range 256 {
			add(station, []byte{byte(b)})
			add(station, []byte{byte(b), 0})
			add(station, []byte{0, byte(b)})
		}
		for n := 1; n <= most; n += 9 {
			add(station, make([]byte, n))
		}
	}
}

func TestAFrameWithABitTurnedIsNone(t *testing.T) {
	for _, n := range []int{1, 2, 5, most} {
		frame := framed(n%256, pattern(n, 31))
		for bit := range 8 * len(frame) {
			frame[bit/8] ^= 1 << (bit % 8)
			checkNotOpened(t, frame, api.ErrForm)
			frame[bit/8] ^= 1 << (bit % 8)
		}
		checkOpen(t, frame, n%256, pattern(n, 31))
	}
}

func TestCallsKeepNothing(t *testing.T) {
	for range 3 {
		checkWrap(t, 1, []byte{4, 2, 255, 255}, known[0].frame)
		checkNotWrapped(t, -1, []byte{4}, api.ErrArg)
		checkNotWrapped(t, 1, nil, api.ErrShort)
		checkOpen(t, known[0].frame, 1, known[0].pdu)
		checkNotOpened(t, nil, api.ErrShort)
	}
}
