package split_test

import (
	"math"
	"math/rand"
	"slices"
	"testing"

	"bilge/api"
	"bilge/clock"
	"bilge/crc"
	"bilge/split"
)

// lastTime is the last time that may be; longest is the most ticks that a silence of a line's times may have; room is how many bytes of a segment are told.
const lastTime, longest, room = 1099511627776, 16777216, 256

// small are times of few ticks, in which each kind of silence has a length of its own.
var small = api.Times{Char: 1, Short: 2, Long: 4}

// notTimes are numbers that are no time.
var notTimes = []int{math.MinInt, math.MinInt + 1, -lastTime, -1 << 32, -2, -1, lastTime + 1, lastTime + 2, 1 << 62, math.MaxInt - 1, math.MaxInt}

// notLines are times that a line may not have.
var notLines = []api.Times{
	{},
	{Char: 0, Short: 2, Long: 4},
	{Char: -1, Short: 2, Long: 4},
	{Char: 2, Short: 1, Long: 4},
	{Char: 1, Short: 4, Long: 4},
	{Char: 1, Short: 5, Long: 4},
	{Char: 1, Short: 2, Long: 4, Turn: -1},
	{Char: 1, Short: 2, Long: 4, Turn: longest + 1},
	{Char: 1, Short: 2, Long: longest + 1},
	{Char: 1, Short: longest + 1, Long: longest + 2},
	{Char: math.MinInt, Short: math.MinInt, Long: math.MinInt, Turn: math.MinInt},
	{Char: math.MaxInt, Short: math.MaxInt, Long: math.MaxInt, Turn: math.MaxInt},
}

// bytesAt is bytes that come at these times: 1, 2, 3 and so on.
func bytesAt(times ...int) []api.Byte {
	l := make([]api.Byte, len(times))
	for i, at := range times {
		l[i] = api.Byte{At: at, B: byte(i + 1)}
	}
	return l
}

// bytesBehind is bytes with these silences ahead of them, the first one from a time on.
func bytesBehind(from int, silences ...int) []api.Byte {
	times := make([]int, len(silences))
	for i, silence := range silences {
		from += silence
		times[i] = from
	}
	return bytesAt(times...)
}

// run is n bytes one tick behind the other, the first one at a time.
func run(at, n int) []api.Byte {
	l := make([]api.Byte, n)
	for i := range l {
		l[i] = api.Byte{At: at + i, B: byte(i*7 + i/256)}
	}
	return l
}

// cameSo tells of numbers whether they are times none of which is below the one ahead.
func cameSo(numbers ...int) bool {
	for _, n := range numbers {
		if n < 0 || n > lastTime {
			return false
		}
	}
	return slices.IsSorted(numbers)
}

// plain is the segments of bytes, word by word: each byte opens one or goes into the last one, by the silence ahead of it.
func plain(l []api.Byte, t api.Times, from int) []api.Segment {
	var all []api.Segment
	for i, b := range l {
		silence := b.At - from
		if i == 0 || silence >= t.Long {
			all = append(all, api.Segment{First: b.At, Gap: silence < t.Long})
		} else if silence > t.Short {
			all[len(all)-1].Gap = true
		}
		s := &all[len(all)-1]
		if s.Count++; s.Count <= room {
			s.Bytes = append(s.Bytes, b.B)
		}
		s.Last = b.At
		s.Bad = s.Bad || b.Bad
		from = b.At
	}
	return all
}

// alike tells whether two segments are the same.
func alike(a, b api.Segment) bool {
	if !slices.Equal(a.Bytes, b.Bytes) {
		return false
	}
	return a.First == b.First && a.Last == b.Last && a.Count == b.Count && a.Gap == b.Gap && a.Bad == b.Bad
}

// checkAll asks for the segments of bytes, twice: what is asked keeps nothing.
func checkAll(t *testing.T, l []api.Byte, line api.Times, from int, want ...api.Segment) {
	t.Helper()
	for range 2 {
		got := split.All(l, line, from)
		if slices.EqualFunc(got, want, alike) {
			continue
		}
		if len(l) > 20 {
			t.Fatalf("All of %d bytes from %d on, %+v: %d segments that are not the %d wanted", len(l), from, line, len(got), len(want))
		}
		t.Fatalf("All(%v, %+v, %d) = %+v, want %+v", l, line, from, got, want)
	}
}

// The faults' numbers.

func TestNumbersOfTheFaults(t *testing.T) {
	for want, got := range []int{split.Fine, split.Over, split.Spoilt, split.Torn, split.Short, split.Sum} {
		if got != want {
			t.Errorf("the number at place %d is %d", want, got)
		}
	}
}

// SP1: Right.

func TestRightOfSomeBytes(t *testing.T) {
	cases := []struct {
		from  int
		times []int
		want  bool
	}{
		{0, nil, true},
		{7, nil, true},
		{lastTime, nil, true},
		{0, []int{0}, true},
		{0, []int{3, 4, 9}, true},
		{3, []int{3, 4, 9}, true},
		{4, []int{3, 4, 9}, false}, // the first one ahead of that time
		{9, []int{3, 4, 9}, false},
		{0, []int{3, 3, 3}, true}, // none is below the one ahead
		{0, []int{3, 2}, false},
		{0, []int{3, 9, 4}, false},
		{0, []int{3, 4, 0}, false},
		{0, []int{0, lastTime}, true},
		{lastTime, []int{lastTime, lastTime}, true},
		{lastTime, []int{lastTime - 1}, false},
		{0, []int{lastTime + 1}, false},
		{lastTime, []int{lastTime + 1}, false},
		{0, []int{5, lastTime + 1}, false},
		{0, []int{5, lastTime + 1, lastTime + 2}, false},
		{0, []int{-1, 5}, false},
		{-1, []int{0, 5}, false},
		{-2, []int{-1, 5}, false},
		{lastTime + 1, []int{lastTime + 1}, false},
	}
	for _, c := range cases {
		if got := split.Right(bytesAt(c.times...), c.from); got != c.want {
			t.Errorf("Right of bytes at %v from %d on = %v, want %v", c.times, c.from, got, c.want)
		}
	}
}

func TestRightOfNoBytesAsksForTheTimeAlone(t *testing.T) {
	for _, l := range [][]api.Byte{nil, {}, bytesAt(-1)[:0]} {
		for _, from := range []int{0, 1, 2, longest, lastTime - 1, lastTime} {
			if !split.Right(l, from) {
				t.Errorf("Right of no bytes from %d on is false", from)
			}
		}
		for _, from := range notTimes {
			if split.Right(l, from) {
				t.Errorf("Right of no bytes from %d on is true", from)
			}
		}
	}
}

func TestRightOfAllShortListsOfTimesAtTheBounds(t *testing.T) {
	edges := []int{math.MinInt, -1, 0, 1, 2, lastTime - 1, lastTime, lastTime + 1, math.MaxInt}
	check := func(numbers ...int) {
		if got, want := split.Right(bytesAt(numbers[1:]...), numbers[0]), cameSo(numbers...); got != want {
			t.Fatalf("Right of bytes at %v from %d on = %v, want %v", numbers[1:], numbers[0], got, want)
		}
	}
	for _, from := range edges {
		for _, a := range edges {
			check(from, a)
			for _, b := range edges {
				check(from, a, b)
				for _, c := range edges {
					check(from, a, b, c)
				}
			}
		}
	}
}

func TestRightLooksAtEachByteOfALongList(t *testing.T) {
	for n := range 300 {
		l := run(10, 300)
		if !split.Right(l, 10) {
			t.Fatal("Right of 300 bytes is false")
		}
		for _, at := range append([]int{9, 8 + n}, notTimes...) {
			l[n].At = at
			if split.Right(l, 10) {
				t.Fatalf("Right is true, where the byte number %d of 300 comes at %d", n, at)
			}
		}
	}
}

func TestRightDoesNotAskWhatTheBytesAre(t *testing.T) {
	for b := range 256 {
		for _, bad := range []bool{false, true} {
			l := []api.Byte{{At: 3, B: byte(b), Bad: bad}, {At: 5, B: byte(255 - b)}, {At: 5, B: byte(b), Bad: bad}}
			if !split.Right(l, 3) {
				t.Fatalf("Right(%v, 3) is false", l)
			}
			if split.Right(l, 4) {
				t.Fatalf("Right(%v, 4) is true", l)
			}
		}
	}
}

func TestRightReadsNothingBehindTheLengthAndChangesNothing(t *testing.T) {
	l := bytesAt(3, 4, 2, -1)
	if !split.Right(l[:2], 0) {
		t.Error("Right asks for what lies behind the length")
	}
	if !slices.Equal(l, bytesAt(3, 4, 2, -1)) {
		t.Errorf("Right changed its bytes: %v", l)
	}
}

// SP1: All.

func TestAllOfTheExample(t *testing.T) {
	checkAll(t, bytesAt(3, 4, 9), small, 0,
		api.Segment{Bytes: []byte{1, 2}, First: 3, Last: 4, Count: 2, Gap: true},
		api.Segment{Bytes: []byte{3}, First: 9, Last: 9, Count: 1})
}

func TestAllOfNoBytes(t *testing.T) {
	for _, l := range [][]api.Byte{nil, {}, bytesAt(3)[:0]} {
		for _, from := range []int{0, 5, lastTime} {
			checkAll(t, l, small, from)
		}
	}
}

func TestAllOfOneByte(t *testing.T) {
	for _, from := range []int{0, 1, 1000, lastTime - 5} {
		for silence := range 6 {
			at := from + silence
			checkAll(t, []api.Byte{{At: at, B: 200}}, small, from,
				api.Segment{Bytes: []byte{200}, First: at, Last: at, Count: 1, Gap: silence < 4})
			checkAll(t, []api.Byte{{At: at, B: 0, Bad: true}}, small, from,
				api.Segment{Bytes: []byte{0}, First: at, Last: at, Count: 1, Gap: silence < 4, Bad: true})
		}
	}
}

// lines are times that a line may have, the shortest and the longest ones among them.
var lines = []api.Times{
	small,
	{Char: 1, Short: 1, Long: 2},
	{Char: 1, Short: 1, Long: 4},
	{Char: 1, Short: 3, Long: 4},
	{Char: 3, Short: 3, Long: 5},
	{Char: 1146, Short: 2865, Long: 5157, Turn: 9},
	{Char: longest - 1, Short: longest - 1, Long: longest, Turn: longest},
	{Char: 1, Short: 1, Long: longest},
}

func TestAllAtTheEdgesOfBothSilences(t *testing.T) {
	for _, line := range lines {
		for _, silence := range []int{0, 1, line.Char - 1, line.Char, line.Char + 1, line.Short - 1, line.Short, line.Short + 1, line.Long - 1, line.Long, line.Long + 1, 2 * line.Long, lastTime / 2} {
			l := bytesBehind(50, line.Long, 1, silence, 1)
			first, last := l[0].At, l[3].At
			switch {
			case silence >= line.Long:
				checkAll(t, l, line, 50,
					api.Segment{Bytes: []byte{1, 2}, First: first, Last: first + 1, Count: 2},
					api.Segment{Bytes: []byte{3, 4}, First: last - 1, Last: last, Count: 2})
			default:
				checkAll(t, l, line, 50,
					api.Segment{Bytes: []byte{1, 2, 3, 4}, First: first, Last: last, Count: 4, Gap: silence > line.Short})
			}
		}
	}
}

func TestAllAtTheEdgesOfTheFirstSilence(t *testing.T) {
	for _, line := range lines {
		for _, silence := range []int{0, 1, line.Short, line.Short + 1, line.Long - 1, line.Long, line.Long + 1, lastTime / 2} {
			for _, from := range []int{0, 1, 7777} {
				l := bytesBehind(from, silence, 1, line.Long, 1)
				first, second := l[0].At, l[2].At
				checkAll(t, l, line, from,
					api.Segment{Bytes: []byte{1, 2}, First: first, Last: first + 1, Count: 2, Gap: silence < line.Long},
					api.Segment{Bytes: []byte{3, 4}, First: second, Last: second + 1, Count: 2})
			}
		}
	}
}

func TestAllOfAllShortListsOfSilences(t *testing.T) {
	for _, line := range lines[:5] {
		silences := make([]int, 5)
		for number := range 7 * 7 * 7 * 7 * 7 {
			for i := range silences {
				silences[i] = number % 7
				number /= 7
			}
			for n := 1; n <= len(silences); n++ {
				l := bytesBehind(2, silences[:n]...)
				checkAll(t, l, line, 2, plain(l, line, 2)...)
			}
		}
	}
}

func TestAllOfEachByteThatIsSpoilt(t *testing.T) {
	silences := []int{4, 1, 1, 4, 1, 3, 1, 5}
	for number := range 1 << len(silences) {
		l := bytesBehind(0, silences...)
		for i := range l {
			l[i].Bad = number>>i&1 != 0
		}
		checkAll(t, l, small, 0,
			api.Segment{Bytes: []byte{1, 2, 3}, First: 4, Last: 6, Count: 3, Bad: number&7 != 0},
			api.Segment{Bytes: []byte{4, 5, 6, 7}, First: 10, Last: 15, Count: 4, Gap: true, Bad: number>>3&15 != 0},
			api.Segment{Bytes: []byte{8}, First: 20, Last: 20, Count: 1, Bad: number>>7 != 0})
	}
}

func TestAllTellsTheFirst256BytesOfASegment(t *testing.T) {
	for _, n := range []int{1, 2, 254, 255, 256, 257, 258, 511, 512, 513, 65536, 70000} {
		l := run(4, n)
		want := api.Segment{First: 4, Last: 3 + n, Count: n}
		for _, b := range l[:min(n, room)] {
			want.Bytes = append(want.Bytes, b.B)
		}
		checkAll(t, l, small, 0, want)
		behind := api.Byte{At: want.Last + 4, B: 9}
		checkAll(t, append(l, behind), small, 0, want, api.Segment{Bytes: []byte{9}, First: behind.At, Last: behind.At, Count: 1})
	}
}

func TestAllLooksAtTheBytesBehindTheFirst256Too(t *testing.T) {
	const n = 300
	for place := 1; place < n; place++ {
		torn, spoilt, cut := run(4, n), run(4, n), run(4, n)
		for i := place; i < n; i++ {
			torn[i].At += 2
			cut[i].At += 3
		}
		spoilt[place].Bad = true
		for name, l := range map[string][]api.Byte{"torn": torn, "spoilt": spoilt, "cut": cut} {
			got := split.All(l, small, 0)
			if !slices.EqualFunc(got, plain(l, small, 0), alike) {
				t.Fatalf("All of %d bytes, %s at %d = %+v", n, name, place, got)
			}
		}
		if got := split.All(torn, small, 0); len(got) != 1 || !got[0].Gap || got[0].Bad || got[0].Count != n {
			t.Fatalf("All of %d bytes, torn at %d = %+v", n, place, got)
		}
		if got := split.All(spoilt, small, 0); len(got) != 1 || got[0].Gap || !got[0].Bad || got[0].Count != n {
			t.Fatalf("All of %d bytes, spoilt at %d = %+v", n, place, got)
		}
		if got := split.All(cut, small, 0); len(got) != 2 || got[0].Count != place || got[1].Count != n-place {
			t.Fatalf("All of %d bytes, cut at %d = %+v", n, place, got)
		}
	}
}

func TestAllTellsAsManySegmentsAsThereAre(t *testing.T) {
	const n = 70000
	l := make([]api.Byte, n)
	want := make([]api.Segment, n)
	for i := range l {
		at := 4 * (i + 1)
		l[i] = api.Byte{At: at, B: byte(i), Bad: i%3 == 0}
		want[i] = api.Segment{Bytes: []byte{byte(i)}, First: at, Last: at, Count: 1, Bad: i%3 == 0}
	}
	checkAll(t, l, small, 0, want...)
}

func TestAllAtTheEndOfAllTime(t *testing.T) {
	checkAll(t, bytesAt(lastTime-4, lastTime), small, lastTime-8,
		api.Segment{Bytes: []byte{1}, First: lastTime - 4, Last: lastTime - 4, Count: 1},
		api.Segment{Bytes: []byte{2}, First: lastTime, Last: lastTime, Count: 1})
	checkAll(t, bytesAt(lastTime-3, lastTime), small, 0,
		api.Segment{Bytes: []byte{1, 2}, First: lastTime - 3, Last: lastTime, Count: 2, Gap: true})
	checkAll(t, bytesAt(lastTime, lastTime), small, lastTime,
		api.Segment{Bytes: []byte{1, 2}, First: lastTime, Last: lastTime, Count: 2, Gap: true})
	checkAll(t, bytesAt(0, lastTime), lines[len(lines)-1], 0,
		api.Segment{Bytes: []byte{1}, First: 0, Last: 0, Count: 1, Gap: true},
		api.Segment{Bytes: []byte{2}, First: lastTime, Last: lastTime, Count: 1})
}

func TestAllDoesNotHangOnCharAndTurn(t *testing.T) {
	l := bytesBehind(0, 40, 10, 20, 21, 39, 40, 9, 41, 0)
	want := plain(l, api.Times{Short: 20, Long: 40}, 0)
	for char := 1; char <= 20; char++ {
		for _, turn := range []int{0, 1, 40, longest} {
			checkAll(t, l, api.Times{Char: char, Short: 20, Long: 40, Turn: turn}, 0, want...)
		}
	}
}

func TestAllOfALine(t *testing.T) {
	line, err := clock.Of(9600, 1000000, 0)
	if err != api.OK {
		t.Fatal(err)
	}
	ask, tell := crc.Append([]byte{1, 7}), crc.Append([]byte{1, 7, 0})
	var l []api.Byte
	at := 0
	for _, frame := range [][]byte{ask, tell, ask} {
		at += line.Long
		for i, b := range frame {
			if i > 0 {
				at += line.Char
			}
			l = append(l, api.Byte{At: at, B: b})
		}
	}
	checkAll(t, l, line, 0,
		api.Segment{Bytes: ask, First: 5157, Last: 8595, Count: 4},
		api.Segment{Bytes: tell, First: 13752, Last: 18336, Count: 5},
		api.Segment{Bytes: ask, First: 23493, Last: 26931, Count: 4})
	for _, s := range split.All(l, line, 0) {
		if got := split.Fault(s); got != split.Fine {
			t.Errorf("Fault(%+v) = %d", s, got)
		}
	}
}

func TestAllOfTimesThatALineMayNotHave(t *testing.T) {
	for _, line := range notLines {
		checkAll(t, bytesAt(4, 5, 6, 7), line, 0)
		checkAll(t, nil, line, 0)
	}
}

func TestAllOfBytesThatDidNotComeSo(t *testing.T) {
	edges := []int{math.MinInt, -1, 0, 1, 9, lastTime - 1, lastTime, lastTime + 1, math.MaxInt}
	for _, from := range edges {
		for _, a := range edges {
			for _, b := range edges {
				l := bytesAt(a, b)
				if cameSo(from, a, b) {
					checkAll(t, l, small, from, plain(l, small, from)...)
				} else {
					checkAll(t, l, small, from)
				}
			}
		}
	}
	for n := range 40 {
		l := bytesBehind(0, slices.Repeat([]int{4, 1}, 20)...)
		l[n].At = -1
		checkAll(t, l, small, 0)
		l[n].At = lastTime + 1
		checkAll(t, l, small, 0)
	}
	for _, from := range notTimes {
		checkAll(t, bytesAt(4, 5), small, from)
		checkAll(t, nil, small, from)
	}
}

func TestAllLeavesItsBytesAlone(t *testing.T) {
	l := bytesBehind(0, 4, 1, 4, 1, 3, -9)
	l[1].Bad = true
	kept := slices.Clone(l)
	first, second := split.All(l[:5], small, 0), split.All(l[:5], small, 0)
	if !slices.Equal(l, kept) {
		t.Fatalf("All changed its bytes, or what lies behind: %v", l)
	}
	for i := range l {
		l[i] = api.Byte{}
	}
	for i := range first {
		for k := range first[i].Bytes {
			first[i].Bytes[k] = 99
		}
		first[i].First, first[i].Count = 99, 99
	}
	want := plain(kept[:5], small, 0)
	if !slices.EqualFunc(second, want, alike) {
		t.Errorf("an answer of All shares memory: %+v, want %+v", second, want)
	}
}

func TestAllTellsSegmentsThatShareNoMemory(t *testing.T) {
	l := append(run(4, 300), bytesAt(400, 401, 500, 600)...)
	want := plain(l, small, 0)
	for i := range want {
		got := split.All(l, small, 0)
		b := got[i].Bytes
		for k := range b {
			b[k] ^= 255
		}
		for _, x := range b[len(b):cap(b)] {
			if x != 0 {
				t.Fatalf("All hands out memory behind the length of the bytes of segment %d: %v", i, b[len(b):cap(b)])
			}
		}
		for k := range cap(b) - len(b) {
			b[:cap(b)][len(b)+k] = 77
		}
		for k, s := range got {
			if k != i && !alike(s, want[k]) {
				t.Fatalf("the segments %d and %d of one answer share memory", i, k)
			}
		}
	}
}

// SP2: Fault and Errs.

// looked is a segment, what its fault is by its bytes alone, and whether it errs by these.
type looked struct {
	bytes []byte
	fault int
	errs  bool
}

// someBytes are bytes of each sort.
func someBytes() []looked {
	wrong := crc.Append([]byte{1, 4, 2, 255, 255})
	wrong[6] ^= 1
	return []looked{
		{nil, split.Short, false},
		{[]byte{}, split.Short, false},
		{[]byte{0}, split.Short, false},
		{[]byte{255, 255}, split.Short, false}, // the sum of no byte
		{[]byte{0, 0}, split.Short, false},
		{crc.Append([]byte{1}), split.Short, false}, // three bytes that end with their sum
		{[]byte{1, 2, 3}, split.Short, false},
		{crc.Append([]byte{1, 7}), split.Fine, false}, // four bytes
		{[]byte{1, 7, 0, 0}, split.Sum, true},
		{[]byte{0, 0, 0, 0}, split.Sum, true},
		{[]byte{255, 255, 255, 255}, split.Sum, true},
		{[]byte{1, 4, 2, 255, 255, 184, 128}, split.Fine, false},
		{[]byte{1, 4, 2, 255, 255, 128, 184}, split.Sum, true}, // its sum has the low byte first
		{wrong, split.Sum, true},
		{crc.Append(make([]byte, 253)), split.Fine, false},
		{crc.Append(make([]byte, 254)), split.Fine, false},
		{make([]byte, 256), split.Sum, true},
		{crc.Append(make([]byte, 255)), split.Fine, false}, // more bytes than a segment has: Count alone is asked for that
		{make([]byte, 300), split.Sum, true},
	}
}

// counts are numbers of bytes, and whether each is above 256.
var counts = map[int]bool{
	math.MinInt: false, -257: false, -1: false, 0: false, 1: false, 3: false, 4: false, 7: false, 255: false, 256: false,
	257: true, 258: true, 512: true, 1 << 32: true, math.MaxInt: true,
}

func TestFaultAndErrsOfAllThatCanHold(t *testing.T) {
	for _, x := range someBytes() {
		for count, over := range counts {
			for _, bad := range []bool{false, true} {
				for _, gap := range []bool{false, true} {
					s := api.Segment{Bytes: x.bytes, First: 5, Last: 9, Count: count, Gap: gap, Bad: bad}
					want := x.fault
					switch {
					case over:
						want = split.Over
					case bad:
						want = split.Spoilt
					case gap:
						want = split.Torn
					}
					if got := split.Fault(s); got != want {
						t.Errorf("Fault(%+v) = %d, want %d", s, got, want)
					}
					if got, want := split.Errs(s), over || bad || x.errs; got != want {
						t.Errorf("Errs(%+v) = %v, want %v", s, got, want)
					}
				}
			}
		}
	}
}

func TestFaultAndErrsOfSomeSegments(t *testing.T) {
	good := crc.Append([]byte{1, 7})
	cases := []struct {
		s     api.Segment
		fault int
		errs  bool
	}{
		{api.Segment{Bytes: good, Count: 4}, 0, false},
		{api.Segment{Bytes: good, Count: 257}, 1, true},
		{api.Segment{Count: 257}, 1, true},
		{api.Segment{Bytes: good, Count: 4, Bad: true}, 2, true},
		{api.Segment{Bytes: []byte{1}, Count: 1, Bad: true}, 2, true},
		{api.Segment{Bytes: good, Count: 4, Gap: true}, 3, false},
		{api.Segment{Bytes: []byte{1, 7, 9, 9}, Count: 4, Gap: true}, 3, true},
		{api.Segment{Bytes: []byte{1}, Count: 1, Gap: true}, 3, false},
		{api.Segment{Bytes: []byte{1, 7, 9}, Count: 3}, 4, false},
		{api.Segment{Bytes: []byte{1, 7, 9, 9}, Count: 4}, 5, true},
		{api.Segment{}, 4, false},
	}
	for _, c := range cases {
		if got := split.Fault(c.s); got != c.fault {
			t.Errorf("Fault(%+v) = %d, want %d", c.s, got, c.fault)
		}
		if got := split.Errs(c.s); got != c.errs {
			t.Errorf("Errs(%+v) = %v, want %v", c.s, got, c.errs)
		}
	}
}

func TestFaultAndErrsDoNotHangOnTimes(t *testing.T) {
	times := append([]int{0, 1, lastTime}, notTimes...)
	for _, first := range times {
		for _, last := range times {
			for _, x := range someBytes() {
				s := api.Segment{Bytes: x.bytes, First: first, Last: last, Count: len(x.bytes) % 257}
				if got := split.Fault(s); got != x.fault {
					t.Fatalf("Fault(%+v) = %d, want %d", s, got, x.fault)
				}
				if got := split.Errs(s); got != x.errs {
					t.Fatalf("Errs(%+v) = %v, want %v", s, got, x.errs)
				}
			}
		}
	}
}

func TestFaultAndErrsOfFramesOfEachLength(t *testing.T) {
	for n := 2; n <= room; n++ {
		frame := crc.Append(make([]byte, n-2))
		s := api.Segment{Bytes: frame, Count: n}
		want := split.Fine
		if n < 4 {
			want = split.Short
		}
		if got, errs := split.Fault(s), split.Errs(s); got != want || errs {
			t.Errorf("a frame of %d bytes: Fault = %d, want %d; Errs = %v, want false", n, got, want, errs)
		}
		frame[n/2] ^= 4
		if n >= 4 {
			want = split.Sum
		}
		if got, errs := split.Fault(s), split.Errs(s); got != want || errs != (n >= 4) {
			t.Errorf("%d bytes that are no frame: Fault = %d, want %d; Errs = %v, want %v", n, got, want, errs, n >= 4)
		}
	}
}

func TestFaultOfAFrameWithABitTurned(t *testing.T) {
	frame := crc.Append([]byte{1, 6, 0, 3, 0, 9})
	for place := range len(frame) * 8 {
		b := slices.Clone(frame)
		b[place/8] ^= 1 << (place % 8)
		s := api.Segment{Bytes: b, Count: len(b)}
		if got, errs := split.Fault(s), split.Errs(s); got != split.Sum || !errs {
			t.Errorf("with bit %d turned: Fault = %d, Errs = %v, want Sum, true", place, got, errs)
		}
	}
}

func TestFaultAndErrsLeaveTheirBytesAloneAndReadNothingBehind(t *testing.T) {
	b := append(crc.Append([]byte{1, 4, 2, 255, 255}), 7, 7)
	kept := slices.Clone(b)
	for range 2 {
		for n, want := range map[int]int{0: split.Short, 3: split.Short, 6: split.Sum, 7: split.Fine, 8: split.Sum} {
			s := api.Segment{Bytes: b[:n], Count: n}
			if got, errs := split.Fault(s), split.Errs(s); got != want || errs != (want == split.Sum) {
				t.Errorf("of the first %d bytes: Fault = %d, want %d; Errs = %v", n, got, want, errs)
			}
		}
	}
	if !slices.Equal(b, kept) {
		t.Errorf("the bytes changed: %v", b)
	}
}

// SP2: Same.

// checkSame holds two segments against each other, both ways round.
func checkSame(t *testing.T, a, b api.Segment, want bool) {
	t.Helper()
	if got := split.Same(a, b); got != want {
		t.Errorf("Same(%+v, %+v) = %v, want %v", a, b, got, want)
	}
	if got := split.Same(b, a); got != want {
		t.Errorf("Same(%+v, %+v) = %v, want %v", b, a, got, want)
	}
}

func TestSameLooksAtEachField(t *testing.T) {
	whole := api.Segment{Bytes: []byte{1, 2, 3}, First: 5, Last: 7, Count: 3, Gap: true, Bad: true}
	changes := map[string]func(*api.Segment){
		"First":     func(s *api.Segment) { s.First = 4 },
		"Last":      func(s *api.Segment) { s.Last = 8 },
		"both":      func(s *api.Segment) { s.First, s.Last = 7, 5 },
		"Count":     func(s *api.Segment) { s.Count = 4 },
		"Gap":       func(s *api.Segment) { s.Gap = false },
		"Bad":       func(s *api.Segment) { s.Bad = false },
		"one less":  func(s *api.Segment) { s.Bytes = []byte{1, 2} },
		"one more":  func(s *api.Segment) { s.Bytes = []byte{1, 2, 3, 0} },
		"none":      func(s *api.Segment) { s.Bytes = nil },
		"the order": func(s *api.Segment) { s.Bytes = []byte{1, 3, 2} },
	}
	for name, change := range changes {
		other := whole
		change(&other)
		if split.Same(whole, other) {
			t.Errorf("Same does not see another %s", name)
		}
		checkSame(t, whole, other, false)
		checkSame(t, other, other, true)
	}
	checkSame(t, whole, api.Segment{Bytes: []byte{1, 2, 3}, First: 5, Last: 7, Count: 3, Gap: true, Bad: true}, true)
	checkSame(t, api.Segment{Gap: true}, api.Segment{Bad: true}, false)
}

func TestSameLooksAtEachByte(t *testing.T) {
	for _, n := range []int{1, 4, 256, 300} {
		for place := range n {
			a, b := make([]byte, n), make([]byte, n)
			b[place] = 1 << (place % 8)
			if split.Same(api.Segment{Bytes: a}, api.Segment{Bytes: b}) {
				t.Errorf("Same does not see another byte number %d of %d", place, n)
			}
			b[place] = 0
			if !split.Same(api.Segment{Bytes: a}, api.Segment{Bytes: b}) {
				t.Errorf("Same of %d noughts each is false", n)
			}
		}
	}
}

func TestSameOfListsWithoutBytes(t *testing.T) {
	lists := [][]byte{nil, {}, make([]byte, 0, 8), []byte{1, 2}[:0]}
	for _, a := range lists {
		for _, b := range lists {
			checkSame(t, api.Segment{Bytes: a, Count: 2}, api.Segment{Bytes: b, Count: 2}, true)
		}
		checkSame(t, api.Segment{Bytes: a}, api.Segment{Bytes: []byte{0}}, false)
	}
}

func TestSameReadsNothingBehindTheLengthAndChangesNothing(t *testing.T) {
	a, b := []byte{1, 2, 3, 4}, []byte{1, 2, 9, 9}
	checkSame(t, api.Segment{Bytes: a[:2]}, api.Segment{Bytes: b[:2]}, true)
	checkSame(t, api.Segment{Bytes: a[:3]}, api.Segment{Bytes: b[:3]}, false)
	if !slices.Equal(a, []byte{1, 2, 3, 4}) || !slices.Equal(b, []byte{1, 2, 9, 9}) {
		t.Errorf("Same changed its bytes: %v, %v", a, b)
	}
}

func TestSameOfNumbersAtTheBounds(t *testing.T) {
	numbers := []int{math.MinInt, -1, 0, 1, 256, 257, 1 << 32, math.MaxInt}
	for i, a := range numbers {
		for k, b := range numbers {
			checkSame(t, api.Segment{First: a}, api.Segment{First: b}, i == k)
			checkSame(t, api.Segment{Last: a}, api.Segment{Last: b}, i == k)
			checkSame(t, api.Segment{Count: a}, api.Segment{Count: b}, i == k)
		}
	}
}

// SP3: what follows.

// stream is bytes with silences of all kinds, and now and then very many bytes between long ones.
func stream(r *rand.Rand, line api.Times, from int) []api.Byte {
	var l []api.Byte
	at := from
	for range r.Intn(8) {
		silences := []int{0, 1, line.Char, line.Short, line.Short + 1, line.Long - 1, line.Long, line.Long + 1, 3 * line.Long}
		n := 1 + r.Intn(6)
		if r.Intn(4) == 0 {
			n = 250 + r.Intn(300)
			silences = silences[:3+r.Intn(3)]
		}
		for range n {
			at += silences[r.Intn(len(silences))]
			l = append(l, api.Byte{At: at, B: byte(r.Intn(256)), Bad: r.Intn(40) == 0})
		}
		at += line.Long * r.Intn(2)
	}
	return l
}

// streams calls for many streams of each line.
func streams(do func(r *rand.Rand, l []api.Byte, line api.Times, from int)) {
	r := rand.New(rand.NewSource(9))
	for _, line := range lines {
		for range 150 {
			from := r.Intn(3) * r.Intn(100)
			do(r, stream(r, line, from), line, from)
		}
	}
}

func TestAllOfManyStreams(t *testing.T) {
	streams(func(_ *rand.Rand, l []api.Byte, line api.Times, from int) {
		checkAll(t, l, line, from, plain(l, line, from)...)
	})
}

func TestSegmentsBytesAreAllBytes(t *testing.T) {
	streams(func(_ *rand.Rand, l []api.Byte, line api.Times, from int) {
		place := 0
		for i, s := range split.All(l, line, from) {
			if s.Count < 1 || place+s.Count > len(l) || len(s.Bytes) != min(s.Count, room) {
				t.Fatalf("segment %d tells %d bytes and a Count of %d, with %d bytes left", i, len(s.Bytes), s.Count, len(l)-place)
			}
			for k, b := range s.Bytes {
				if b != l[place+k].B {
					t.Fatalf("byte %d of segment %d is %d, want %d", k, i, b, l[place+k].B)
				}
			}
			if first, last := l[place], l[place+s.Count-1]; s.First != first.At || s.Last != last.At {
				t.Fatalf("segment %d is from %d to %d, want %d to %d", i, s.First, s.Last, first.At, last.At)
			}
			if i > 0 && l[place].At-l[place-1].At < line.Long {
				t.Fatalf("segment %d begins behind a silence of %d, Long is %d", i, l[place].At-l[place-1].At, line.Long)
			}
			place += s.Count
		}
		if place != len(l) {
			t.Fatalf("the segments have %d bytes of %d", place, len(l))
		}
	})
}

func TestBothPartsHaveTheSegmentsOfTheWhole(t *testing.T) {
	cuts := 0
	streams(func(r *rand.Rand, l []api.Byte, line api.Times, from int) {
		whole := split.All(l, line, from)
		for i := 1; i < len(l); i++ {
			silent, at := l[i-1].At, l[i].At
			if at-silent < line.Long {
				continue
			}
			cuts++
			first := split.All(l[:i], line, from)
			for _, second := range []int{from, silent, silent + r.Intn(at-silent+1), at} {
				both := append(slices.Clone(first), split.All(l[i:], line, second)...)
				if len(both) != len(whole) {
					t.Fatalf("cut at %d, the parts have %d segments, the whole has %d", i, len(both), len(whole))
				}
				if got, want := both[len(first)].Gap, whole[len(first)].Gap || at-second < line.Long; got != want {
					t.Fatalf("cut at %d, the second part from %d on: Gap of its first segment is %v, want %v", i, second, got, want)
				}
				both[len(first)].Gap = whole[len(first)].Gap
				if !slices.EqualFunc(both, whole, split.Same) || !slices.EqualFunc(both, whole, alike) {
					t.Fatalf("cut at %d, the second part from %d on: %+v, want %+v", i, second, both, whole)
				}
			}
		}
	})
	if cuts < 1000 {
		t.Errorf("only %d cuts were tried", cuts)
	}
}
