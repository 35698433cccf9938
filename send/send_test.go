package send_test

import (
	"math"
	"math/rand/v2"
	"slices"
	"testing"

	"bilge/api"
	"bilge/clock"
	"bilge/crc"
	"bilge/framer"
	"bilge/send"
	"bilge/split"
)

// lastTime is the last time that may be; longest is the most that each of a line's times may be; most is how many bytes a frame has at most.
const lastTime, longest, most = 1099511627776, 16777216, 256

// small are times of few ticks, each of a length of its own.
var small = api.Times{Char: 1, Short: 2, Long: 4, Turn: 3}

// lines are times that may be, the shortest and the longest ones among them.
var lines = []api.Times{
	small,
	{Char: 1, Short: 1, Long: 2},
	{Char: 1, Short: 1, Long: 2, Turn: 1},
	{Char: 2, Short: 2, Long: 3, Turn: longest},
	{Char: 7, Short: 9, Long: 30},
	{Char: 1146, Short: 2865, Long: 5157, Turn: 9},
	{Char: longest - 1, Short: longest - 1, Long: longest},
	{Char: longest - 1, Short: longest - 1, Long: longest, Turn: longest},
}

// crooked are times that may not be: each breaks one of the conditions, by as little as can be, or by far.
var crooked = []api.Times{
	{},
	{Char: 0, Short: 2, Long: 4, Turn: 3},
	{Char: -1, Short: 2, Long: 4, Turn: 3},
	{Char: 3, Short: 2, Long: 4, Turn: 3},
	{Char: 1, Short: 4, Long: 4, Turn: 3},
	{Char: 1, Short: 5, Long: 4, Turn: 3},
	{Char: 1, Short: 2, Long: 4, Turn: -1},
	{Char: 1, Short: 2, Long: 4, Turn: longest + 1},
	{Char: 1, Short: 2, Long: longest + 1, Turn: 3},
	{Char: longest, Short: longest, Long: longest},
	{Char: longest + 1, Short: longest + 1, Long: longest + 2},
	{Char: math.MinInt, Short: math.MinInt, Long: math.MinInt, Turn: math.MinInt},
	{Char: math.MaxInt, Short: math.MaxInt, Long: math.MaxInt, Turn: math.MaxInt},
	{Char: 1, Short: 2, Long: 4, Turn: math.MinInt},
	{Char: 1, Short: 2, Long: math.MaxInt},
}

// moments are times at the bounds of what may be, and some between.
var moments = []int{0, 1, 2, 10, 1000, longest, lastTime / 2, lastTime - 4294967296, lastTime - longest, lastTime - 300, lastTime - 3, lastTime - 1, lastTime}

// never are numbers that are no times.
var never = []int{math.MinInt, math.MinInt + 1, -lastTime - 1, -lastTime, -2, -1, lastTime + 1, lastTime + 2, 2 * lastTime, math.MaxInt - 1, math.MaxInt}

// anyTimes are those that may be, and those that may not.
func anyTimes() []api.Times { return append(slices.Clone(lines), crooked...) }

// anyMoments are times, and numbers that are none.
func anyMoments() []int { return append(slices.Clone(moments), never...) }

// held is a number, but at least 0 and at most the last time.
func held(n int) int {
	switch {
	case n < 0:
		return 0
	case n > lastTime:
		return lastTime
	}
	return n
}

// sum is one time behind another one, as layer 5 adds them.
func sum(at, d int) int { return held(held(at) + held(d)) }

// may is whether times may be, by the words of layer 5.
func may(t api.Times) bool {
	for _, n := range []int{t.Char, t.Short, t.Long, t.Turn} {
		if n > longest {
			return false
		}
	}
	return t.Char >= 1 && t.Short >= t.Char && t.Long > t.Short && t.Turn >= 0
}

// planned is what SE1 says of a frame, word by word.
func planned(frame []byte, at int, t api.Times) []api.Out {
	var l []api.Out
	if !may(t) || at < 0 || at > lastTime || len(frame) > most {
		return l
	}
	for i, b := range frame {
		if i == 0 {
			l = append(l, api.Out{At: sum(at, t.Turn), B: b})
		} else {
			l = append(l, api.Out{At: sum(l[i-1].At, t.Char), B: b})
		}
	}
	return l
}

// bytesOf are so many bytes, of which those that stand near one another differ.
func bytesOf(n int) []byte {
	b := make([]byte, n)
	for i := range b {
		b[i] = byte(i*7 + i/256 + 3)
	}
	return b
}

// outsOf are so many bytes that are sent, at times that go on by a step from one on.
func outsOf(n, from, step int) []api.Out {
	l := make([]api.Out, n)
	for i, b := range bytesOf(n) {
		l[i] = api.Out{At: from + i*step, B: b}
	}
	return l
}

// checkPlan asks whether a frame is planned so.
func checkPlan(t *testing.T, frame []byte, at int, w api.Times, want []api.Out) {
	t.Helper()
	if got := send.Plan(frame, at, w); !slices.Equal(got, want) {
		t.Errorf("Plan of %d bytes at %d by %+v: %v, want %v", len(frame), at, w, got, want)
	}
}

// checkHeard asks whether what is sent is heard so.
func checkHeard(t *testing.T, l []api.Out, w api.Times, want []api.Byte) {
	t.Helper()
	if got := send.Heard(l, w); !slices.Equal(got, want) {
		t.Errorf("Heard of %v by %+v: %v, want %v", l, w, got, want)
	}
}

// checkEnd asks whether what is sent ends then.
func checkEnd(t *testing.T, l []api.Out, w api.Times, want int) {
	t.Helper()
	if got := send.End(l, w); got != want {
		t.Errorf("End of %v by %+v: %d, want %d", l, w, got, want)
	}
}

// TestPlanOfSomeFrames: SE1: frames whose times are told by hand.
func TestPlanOfSomeFrames(t *testing.T) {
	cases := []struct {
		frame []byte
		at    int
		w     api.Times
		want  []api.Out
	}{
		{[]byte{7, 8}, 10, small, []api.Out{{At: 13, B: 7}, {At: 14, B: 8}}},
		{[]byte{7, 8}, 0, small, []api.Out{{At: 3, B: 7}, {At: 4, B: 8}}},
		{[]byte{1, 7, 0, 34, 48}, 17, small, []api.Out{{At: 20, B: 1}, {At: 21, B: 7}, {At: 22}, {At: 23, B: 34}, {At: 24, B: 48}}},
		{[]byte{255}, 10, small, []api.Out{{At: 13, B: 255}}},
		{[]byte{0}, 0, api.Times{Char: 1, Short: 1, Long: 2}, []api.Out{{}}},
		{[]byte{9, 9, 9}, 5, api.Times{Char: 1, Short: 1, Long: 2}, []api.Out{{At: 5, B: 9}, {At: 6, B: 9}, {At: 7, B: 9}}},
		{[]byte{9, 9, 9}, 5, api.Times{Char: 4, Short: 6, Long: 9}, []api.Out{{At: 5, B: 9}, {At: 9, B: 9}, {At: 13, B: 9}}},
		{[]byte{3, 2, 1}, 1000, api.Times{Char: 1146, Short: 2865, Long: 5157, Turn: 500}, []api.Out{{At: 1500, B: 3}, {At: 2646, B: 2}, {At: 3792, B: 1}}},
		{[]byte{3, 2}, 1, api.Times{Char: 2, Short: 2, Long: 3, Turn: longest}, []api.Out{{At: longest + 1, B: 3}, {At: longest + 3, B: 2}}},
		{nil, 10, small, nil},
		{[]byte{}, 10, small, nil},
	}
	for _, c := range cases {
		checkPlan(t, c.frame, c.at, c.w, c.want)
	}
}

// TestPlanNearTheLastTime: SE1: times are added as layer 5 adds them: none is beyond the last one.
func TestPlanNearTheLastTime(t *testing.T) {
	cases := []struct {
		at, turn, char int
		want           [4]int
	}{
		{lastTime - 9, 3, 2, [4]int{lastTime - 6, lastTime - 4, lastTime - 2, lastTime}},
		{lastTime - 8, 3, 2, [4]int{lastTime - 5, lastTime - 3, lastTime - 1, lastTime}},
		{lastTime - 6, 3, 2, [4]int{lastTime - 3, lastTime - 1, lastTime, lastTime}},
		{lastTime - 4, 3, 2, [4]int{lastTime - 1, lastTime, lastTime, lastTime}},
		{lastTime - 3, 3, 2, [4]int{lastTime, lastTime, lastTime, lastTime}},
		{lastTime - 2, 3, 2, [4]int{lastTime, lastTime, lastTime, lastTime}},
		{lastTime, 3, 2, [4]int{lastTime, lastTime, lastTime, lastTime}},
		{lastTime - 1, 0, 1, [4]int{lastTime - 1, lastTime, lastTime, lastTime}},
		{lastTime, 0, 1, [4]int{lastTime, lastTime, lastTime, lastTime}},
		{lastTime - longest, longest, longest - 1, [4]int{lastTime, lastTime, lastTime, lastTime}},
		{lastTime - longest - 1, longest, longest - 1, [4]int{lastTime - 1, lastTime, lastTime, lastTime}},
	}
	for _, c := range cases {
		w := api.Times{Char: c.char, Short: c.char, Long: c.char + 1, Turn: c.turn}
		want := []api.Out{{At: c.want[0], B: 4}, {At: c.want[1], B: 3}, {At: c.want[2], B: 2}, {At: c.want[3], B: 1}}
		checkPlan(t, []byte{4, 3, 2, 1}, c.at, w, want)
	}
}

// TestPlanOfEachLength: SE1: frames of 0 to 256 bytes are planned, longer ones not, on each line, from each time on.
func TestPlanOfEachLength(t *testing.T) {
	for n := range 300 {
		frame := bytesOf(n)
		for _, w := range lines {
			for _, at := range moments {
				got := send.Plan(frame, at, w)
				if !slices.Equal(got, planned(frame, at, w)) {
					t.Fatalf("Plan of %d bytes at %d by %+v: %v", n, at, w, got)
				}
				if want := n <= most; want && len(got) != n || !want && len(got) != 0 {
					t.Fatalf("Plan of %d bytes at %d by %+v: %d of them", n, at, w, len(got))
				}
			}
		}
	}
	for _, n := range []int{511, 512, 513, 65535, 65536, 70000} {
		checkPlan(t, bytesOf(n), 10, small, nil)
	}
}

// TestPlanGoesOnByChar: SE1: as long as no time is beyond the last one, the byte of place i begins at at, Turn and i times Char.
func TestPlanGoesOnByChar(t *testing.T) {
	for _, w := range lines {
		for _, at := range []int{0, 1, 77, longest, lastTime - 258*longest} {
			for i, o := range send.Plan(bytesOf(most), at, w) {
				if want := at + w.Turn + i*w.Char; o.At != want {
					t.Fatalf("Plan at %d by %+v: the byte %d at %d, want %d", at, w, i, o.At, want)
				}
			}
		}
	}
}

// TestPlanHasEachByte: SE1: each byte that there is, alone and among others, at each place of a frame.
func TestPlanHasEachByte(t *testing.T) {
	for b := range 256 {
		checkPlan(t, []byte{byte(b)}, 10, small, []api.Out{{At: 13, B: byte(b)}})
		frame := make([]byte, most)
		frame[b] = 255 - byte(b)
		checkPlan(t, frame, 10, small, planned(frame, 10, small))
	}
}

// TestPlanOfWrongTimes: SE1: none, of times that may not be, or from a number on that is no time.
func TestPlanOfWrongTimes(t *testing.T) {
	for _, n := range []int{0, 1, 2, 8, most, most + 1} {
		frame := bytesOf(n)
		for _, w := range crooked {
			for _, at := range anyMoments() {
				checkPlan(t, frame, at, w, nil)
			}
		}
		for _, w := range lines {
			for _, at := range never {
				checkPlan(t, frame, at, w, nil)
			}
		}
	}
}

// TestPlanAtTheBoundsOfTimes: SE1: a line's times at their bounds, and one beyond, each alone.
func TestPlanAtTheBoundsOfTimes(t *testing.T) {
	for _, char := range []int{0, 1, 2, 3, longest - 1, longest, longest + 1} {
		for _, short := range []int{0, 1, 2, 3, longest - 1, longest, longest + 1} {
			for _, long := range []int{1, 2, 3, 4, longest - 1, longest, longest + 1} {
				for _, turn := range []int{-1, 0, 1, longest - 1, longest, longest + 1} {
					w := api.Times{Char: char, Short: short, Long: long, Turn: turn}
					checkPlan(t, []byte{1, 2, 3}, 9, w, planned([]byte{1, 2, 3}, 9, w))
				}
			}
		}
	}
}

// TestEndOfSomeLists: SE2: ends that are told by hand.
func TestEndOfSomeLists(t *testing.T) {
	cases := []struct {
		l    []api.Out
		w    api.Times
		want int
	}{
		{[]api.Out{{At: 13, B: 7}, {At: 14, B: 8}}, small, 15},
		{[]api.Out{{At: 13, B: 7}}, small, 14},
		{[]api.Out{{}}, small, 1},
		{[]api.Out{{At: 13}}, api.Times{Char: 7, Short: 9, Long: 30}, 20},
		{[]api.Out{{At: 14}, {At: 13}}, small, 14}, // the last one, though another one is later
		{[]api.Out{{At: 900}, {At: 5}, {At: 700}, {At: 2}}, small, 3},
		{[]api.Out{{At: 14}, {At: 14}}, small, 15},
		{[]api.Out{{At: -5}}, small, 1},
		{[]api.Out{{At: lastTime - 2}}, small, lastTime - 1},
		{[]api.Out{{At: lastTime - 1}}, small, lastTime},
		{[]api.Out{{At: lastTime}}, small, lastTime},
		{[]api.Out{{At: lastTime + 1}}, small, lastTime},
		{[]api.Out{{At: math.MaxInt}}, small, lastTime},
		{[]api.Out{{At: math.MinInt}}, small, 1},
		{[]api.Out{{At: 1}}, api.Times{Char: longest - 1, Short: longest - 1, Long: longest}, longest},
		{nil, small, 0},
		{[]api.Out{}, small, 0},
	}
	for _, c := range cases {
		checkEnd(t, c.l, c.w, c.want)
	}
}

// TestEndIsTheLastOneAndChar: SE2: lists of all lengths, on each line, at each time and at numbers that are none; 0 if there is none, or the times may not be.
func TestEndIsTheLastOneAndChar(t *testing.T) {
	for _, n := range []int{0, 1, 2, 3, 255, 256, 257, 1000} {
		for _, w := range anyTimes() {
			for _, at := range anyMoments() {
				l := outsOf(n, 50, 3)
				want := 0
				if n > 0 {
					l[n-1].At = at
					want = sum(at, w.Char)
				}
				if !may(w) {
					want = 0
				}
				checkEnd(t, l, w, want)
			}
		}
	}
}

// TestHeardOfSomeLists: SE2: what is heard, by hand.
func TestHeardOfSomeLists(t *testing.T) {
	cases := []struct {
		l    []api.Out
		w    api.Times
		want []api.Byte
	}{
		{[]api.Out{{At: 13, B: 7}, {At: 14, B: 8}}, small, []api.Byte{{At: 14, B: 7}, {At: 15, B: 8}}},
		{[]api.Out{{At: 13, B: 7}, {At: 14, B: 8}}, api.Times{Char: 7, Short: 9, Long: 30}, []api.Byte{{At: 20, B: 7}, {At: 21, B: 8}}},
		{[]api.Out{{}}, small, []api.Byte{{At: 1}}},
		{[]api.Out{{At: 9, B: 3}, {At: 2, B: 255}, {At: 2}}, small, []api.Byte{{At: 10, B: 3}, {At: 3, B: 255}, {At: 3}}}, // as they stand, whatever their times
		{[]api.Out{{At: -1, B: 1}, {At: math.MinInt, B: 2}}, small, []api.Byte{{At: 1, B: 1}, {At: 1, B: 2}}},
		{[]api.Out{{At: lastTime - 1, B: 1}, {At: lastTime, B: 2}, {At: lastTime + 1, B: 3}, {At: math.MaxInt, B: 4}}, small, []api.Byte{{At: lastTime, B: 1}, {At: lastTime, B: 2}, {At: lastTime, B: 3}, {At: lastTime, B: 4}}},
		{nil, small, nil},
		{[]api.Out{}, small, nil},
	}
	for _, c := range cases {
		checkHeard(t, c.l, c.w, c.want)
	}
}

// TestHeardIsEachOneAndChar: SE2: lists of all lengths, on each line, at each time and at numbers that are none; none of times that may not be; none is spoilt.
func TestHeardIsEachOneAndChar(t *testing.T) {
	all := anyMoments()
	for _, n := range []int{0, 1, 2, 3, 24, 255, 256, 257, 1000} {
		l := outsOf(n, 0, 0)
		for i := range l {
			l[i].At = all[i%len(all)]
		}
		for _, w := range anyTimes() {
			var want []api.Byte
			for _, o := range l {
				if may(w) {
					want = append(want, api.Byte{At: sum(o.At, w.Char), B: o.B})
				}
			}
			checkHeard(t, l, w, want)
		}
	}
}

// TestHeardEachByte: SE2: each byte that there is, none of them spoilt.
func TestHeardEachByte(t *testing.T) {
	for b := range 256 {
		checkHeard(t, []api.Out{{At: 4, B: byte(b)}}, small, []api.Byte{{At: 5, B: byte(b)}})
	}
}

// TestBytesAlone: SE2: the bytes of lists of all lengths, whatever their times.
func TestBytesAlone(t *testing.T) {
	all := anyMoments()
	for _, n := range []int{0, 1, 2, 3, 24, 255, 256, 257, 1000, 70000} {
		l := outsOf(n, 0, 0)
		for i := range l {
			l[i].At = all[i%len(all)]
		}
		if got := send.Bytes(l); !slices.Equal(got, bytesOf(n)) {
			t.Errorf("Bytes of %d: %v", n, got)
		}
	}
	for _, l := range [][]api.Out{nil, {}} {
		if got := send.Bytes(l); len(got) != 0 {
			t.Errorf("Bytes(%v) = %v, want none", l, got)
		}
	}
	for b := range 256 {
		if got := send.Bytes([]api.Out{{At: 9, B: byte(b)}, {At: 8, B: 255 - byte(b)}}); !slices.Equal(got, []byte{byte(b), 255 - byte(b)}) {
			t.Errorf("Bytes of %d and the other one: %v", b, got)
		}
	}
}

// checkOneSegment asks whether what is planned of a frame is heard as that one segment, on a line that was silent from a time on.
func checkOneSegment(t *testing.T, frame []byte, at, from int, w api.Times) {
	t.Helper()
	l := send.Plan(frame, at, w)
	heard := send.Heard(l, w)
	first := at + w.Turn + w.Char
	want := api.Segment{
		Bytes: frame,
		First: first,
		Last:  first + (len(frame)-1)*w.Char,
		Count: len(frame),
		Gap:   first-from < w.Long, // of the silence ahead alone: there is none between
	}
	parts := split.All(heard, w, from)
	if len(parts) != 1 || !split.Same(parts[0], want) {
		t.Fatalf("%d bytes at %d by %+v, from %d: %+v, want %+v", len(frame), at, w, from, parts, want)
	}
	if b := send.Bytes(l); !slices.Equal(b, frame) {
		t.Fatalf("%d bytes at %d by %+v: the bytes %v", len(frame), at, w, b)
	}
	if end := send.End(l, w); end != want.Last || clock.Since(l[0].At, end) != clock.Span(w, len(frame)) {
		t.Fatalf("%d bytes at %d by %+v: from %d to %d", len(frame), at, w, l[0].At, end)
	}
}

// TestPlannedIsOneSegment: SE3: of each length, on each line: one segment without a gap between, which lasts as long as that many bytes.
func TestPlannedIsOneSegment(t *testing.T) {
	for n := 1; n <= most; n++ {
		for _, w := range lines {
			for _, at := range []int{0, 1, 10, longest, 3 * longest, lastTime - 258*longest} {
				checkOneSegment(t, bytesOf(n), at, 0, w)
				checkOneSegment(t, bytesOf(n), at, at, w)
			}
		}
	}
}

// TestPlannedUpToTheLastTime: SE3: one segment too, where the last byte ends at the last time that may be; and behind it no time is beyond that one.
func TestPlannedUpToTheLastTime(t *testing.T) {
	for _, w := range lines {
		for _, n := range []int{1, 2, 5, most} {
			at := lastTime - w.Turn - n*w.Char
			checkOneSegment(t, bytesOf(n), at, 0, w)
			if end := send.End(send.Plan(bytesOf(n), at, w), w); end != lastTime {
				t.Errorf("%d bytes at %d by %+v end at %d", n, at, w, end)
			}
			l := send.Plan(bytesOf(n), at+1, w)
			heard := send.Heard(l, w)
			if end := send.End(l, w); end != lastTime || heard[n-1].At != lastTime || !split.Right(heard, 0) {
				t.Errorf("%d bytes at %d by %+v: %v, end at %d", n, at+1, w, heard, end)
			}
		}
	}
}

// TestPlannedIsHeardByAFramer: SE3: a framer hears the frame whole, as one that is Fine; it is over a long silence behind its end.
func TestPlannedIsHeardByAFramer(t *testing.T) {
	for n := 2; n <= most-2; n++ {
		frame := crc.Append(bytesOf(n))
		for _, w := range lines {
			l := send.Plan(frame, w.Long, w)
			f := framer.New(w, 0)
			for _, b := range send.Heard(l, w) {
				if _, ok, err := f.Byte(b); ok || err != api.OK {
					t.Fatalf("the byte %+v: %v, %v", b, ok, err)
				}
			}
			due, ok := f.Due()
			if want := send.End(l, w) + w.Long; due != want || !ok {
				t.Fatalf("due at %d, %v, want %d", due, ok, want)
			}
			s, ok, err := f.Idle(due)
			if !ok || err != api.OK || split.Fault(s) != split.Fine || !slices.Equal(s.Bytes, frame) {
				t.Fatalf("heard %+v, %v, %v", s, ok, err)
			}
		}
	}
}

// TestPlansBehindOneAnother: SE3: two that are planned a long silence apart are two segments; what is planned where another one ends goes on without a gap.
func TestPlansBehindOneAnother(t *testing.T) {
	for _, w := range lines {
		w.Turn = 0
		one := send.Plan(bytesOf(5), w.Long, w)
		near := send.Plan(bytesOf(7), send.End(one, w), w)
		far := send.Plan(bytesOf(7), send.End(one, w)+w.Long-w.Char, w)
		parts := split.All(send.Heard(append(slices.Clone(one), near...), w), w, 0)
		if len(parts) != 1 || parts[0].Count != 12 || parts[0].Gap {
			t.Errorf("by %+v, near: %+v", w, parts)
		}
		parts = split.All(send.Heard(append(slices.Clone(one), far...), w), w, 0)
		if len(parts) != 2 || parts[0].Count != 5 || parts[1].Count != 7 || parts[0].Gap || parts[1].Gap {
			t.Errorf("by %+v, far: %+v", w, parts)
		}
	}
}

// TestByChance: SE1, SE2, SE3: frames of any length at any time by any times, against the words of the chapter.
func TestByChance(t *testing.T) {
	r := rand.New(rand.NewPCG(25, 1))
	for range 20000 {
		w := api.Times{Char: r.IntN(50) - 2}
		w.Short = w.Char + r.IntN(40) - 2
		w.Long = w.Short + r.IntN(40) - 1
		w.Turn = r.IntN(100) - 2
		at := r.IntN(1000) - 5
		if r.IntN(2) == 0 {
			at = lastTime - at
		}
		frame := bytesOf(r.IntN(260))
		want := planned(frame, at, w)
		l := send.Plan(frame, at, w)
		if !slices.Equal(l, want) {
			t.Fatalf("Plan of %d bytes at %d by %+v: %v, want %v", len(frame), at, w, l, want)
		}
		if len(l) == 0 {
			checkEnd(t, l, w, 0)
			continue
		}
		checkEnd(t, l, w, sum(want[len(want)-1].At, w.Char))
		if at < 1000 {
			checkOneSegment(t, frame, at, 0, w)
		}
	}
}

// TestNothingHandedInIsTouched: SE1, SE2: what is handed in is not changed, and not kept; what is answered is memory of its own.
func TestNothingHandedInIsTouched(t *testing.T) {
	frame := []byte{7, 8, 9}
	l := send.Plan(frame, 10, small)
	want := []api.Out{{At: 13, B: 7}, {At: 14, B: 8}, {At: 15, B: 9}}
	clear(frame)
	if !slices.Equal(l, want) {
		t.Errorf("planned %v, with the frame's memory in it", l)
	}
	heard, alone := send.Heard(l, small), send.Bytes(l)
	if !slices.Equal(l, want) || send.End(l, small) != 16 || !slices.Equal(l, want) {
		t.Errorf("handed in and changed: %v", l)
	}
	clear(l)
	if !slices.Equal(heard, []api.Byte{{At: 14, B: 7}, {At: 15, B: 8}, {At: 16, B: 9}}) || !slices.Equal(alone, []byte{7, 8, 9}) {
		t.Errorf("heard %v and the bytes %v, with the list's memory in them", heard, alone)
	}
	clear(heard)
	clear(alone)
	again := send.Plan([]byte{7, 8, 9}, 10, small)
	clear(send.Plan([]byte{7, 8, 9}, 10, small))
	if !slices.Equal(again, want) {
		t.Errorf("planned again: %v", again)
	}
}

// TestNothingBehindALength: SE1, SE2: what lies behind a list's length is neither read nor written nor handed out.
func TestNothingBehindALength(t *testing.T) {
	whole := []byte{7, 8, 9, 10}
	if l := send.Plan(whole[:2], 10, small); len(l) != 2 || !slices.Equal(whole, []byte{7, 8, 9, 10}) {
		t.Errorf("planned %v of %v", l, whole)
	}
	if l := send.Plan(bytesOf(300)[:most], 10, small); len(l) != most {
		t.Errorf("planned %d bytes", len(l))
	}
	outs := outsOf(5, 100, 1)
	want := slices.Clone(outs)
	heard, alone, end := send.Heard(outs[:2], small), send.Bytes(outs[:2]), send.End(outs[:2], small)
	if len(heard) != 2 || len(alone) != 2 || end != 102 || !slices.Equal(outs, want) {
		t.Errorf("heard %v, the bytes %v, the end %d of %v", heard, alone, end, outs)
	}
	if end := send.End(outs[:0], small); end != 0 {
		t.Errorf("the end %d of none", end)
	}
	if heard, alone := send.Heard(outs[:0], small), send.Bytes(outs[:0]); len(heard) != 0 || len(alone) != 0 {
		t.Errorf("heard %v, the bytes %v of none", heard, alone)
	}
}
